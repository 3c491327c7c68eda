/- My texts on the way to PortReal, one behind the other: contracts of the program and of the document's answers. -/
import Derived.Test.YtnfemheabikolaaGreatDoorK1
import Derived.Test.YtnfemheabikolaaGreatDoorK2
import Derived.Test.YtnfemheabikolaaGreatDoorK3
import Derived.Test.YtnfemheabikolaaGreatDoorK4
import Derived.Test.YtnfemheabikolaaGreatDoorK5
import Derived.Test.YtnfemheabikolaaGreatDoorK6
import Derived.Test.YtnfemheabikolaaGreatDoorShelf
import Derived.Lib.IndexBytes
import Derived.Lib.CutLaws
import Derived.Shelf.RegionOpenPlain
import Derived.Lib.AtoiErrMem
import Derived.Lib.ItoaLen
import Derived.StringKeys
import Derived.LoopN
import Derived.Deep.Slices
import Derived.OpenShut
import Derived.ChangeArms
import Derived.Deep.RegionHeld3
import Derived.Lib.AtoiAll
import Derived.Lib.AtoiAllCases
/- strings.Cut at one byte. -/
namespace Go.Proofs.YtnfemheabikolaaGreatDoor
open Go.RowKit Go.Lib
set_option linter.unusedVariables false
set_option linter.unusedSimpArgs false

end Go.Proofs.YtnfemheabikolaaGreatDoor

/- Complex fractions: gauss.Parse: of any text. -/
namespace Go.Proofs.YtnfemheabikolaaGreatDoor
open Go.RowKit Go.Lib
set_option linter.unusedVariables false

def GToldC (w : World) (E : Int) (L : Prop) (q1 q2 : Rat) (x : Ending) (w' : World) : Prop :=
  ∃ n a ca xs b cb ys m c cc us d cd vs code, x = .returned (.tuple #[.agg #[.bool n, .slice a (List.length xs) ca, .slice b (List.length ys) cb, .bool m, .slice c (List.length us) cc, .slice d (List.length vs) cd], .int .i64 code]) ∧ (w'.ownsRow w.heap.size 78 1 (.slice a xs.length ca) xs.length (xs.map (Value.int .u32)) ∧ w'.ownsRow w.heap.size 78 1 (.slice b ys.length cb) ys.length (ys.map (Value.int .u32)) ∧ w'.ownsRow w.heap.size 78 1 (.slice c us.length cc) us.length (us.map (Value.int .u32)) ∧ w'.ownsRow w.heap.size 78 1 (.slice d vs.length cd) vs.length (vs.map (Value.int .u32))) ∧ GTells E L q1 q2 n xs ys m us vs code ∧ Below w.heap.size w w' ∧ ∃ W1, Cut w (.slice a xs.length ca) (.slice b ys.length cb) W1 ∧ Cut W1 (.slice c us.length cc) (.slice d vs.length cd) w'
theorem cut_nil (w w' : World) (h : w.heap.size ≤ w'.heap.size) : Cut w (.slice none 0 0) (.slice none 0 0) w' := ⟨w.heap.size, Nat.le_refl _, h, fun g hg => by simp [Value.ownBlock] at hg, fun g hg => by simp [Value.ownBlock] at hg⟩
end Go.Proofs.YtnfemheabikolaaGreatDoor

/- package tide: decimal, readNumber, readRotor. -/
namespace Go.Proofs.YtnfemheabikolaaGreatDoor
open Go.RowKit Go.Lib
set_option linter.unusedVariables false
set_option linter.unusedSimpArgs false

theorem zbytes_app (a b : List UInt8) : ((⟨a.toArray⟩ : ByteArray) ++ (⟨b.toArray⟩ : ByteArray)) = ⟨(a ++ b).toArray⟩ := by
  apply ByteArray.ext
  rw [ByteArray.data_append]
  simp
theorem zitoa_len (n : Int) (h0 : -2147483648 ≤ n) (h1 : n ≤ 2147483647) : (itoa n).length ≤ 21 := by
  unfold itoa
  split
  · rw [List.length_cons, decDigits_length]
    have := nDigits_le20 n.natAbs (by omega)
    omega
  · rw [decDigits_length]
    have := nDigits_le20 n.toNat (by omega)
    omega
theorem zitoa_any (n : Int) (w : World) (h0 : -9223372036854775808 ≤ n) (h1 : n ≤ 9223372036854775807) (htab : Tab w) :
    Calls Tryz.prog 205 #[.int .i64 n] w fun e w' => e = .returned (.string ⟨(itoa n).toArray⟩) ∧ Below w.heap.size w w' := by
  refine Calls.mono (Tryz.strconv_Itoa n h0 h1 w htab) ?_
  rintro e w' ⟨rfl, k, os, rfl⟩
  refine ⟨rfl, rfl, rfl, rfl, ?_, fun b hb => ?_⟩
  · show w.heap.size ≤ (w.heap ++ os).size
    rw [Array.size_append]; omega
  · show (w.heap ++ os)[b]? = w.heap[b]?
    rw [Array.getElem?_append_left hb]
set_option maxHeartbeats 800000 in
set_option maxRecDepth 100000 in
theorem tdecimal_any (n : Int) (w : World) (h0 : -2147483648 ≤ n) (h1 : n ≤ 2147483647) (htab : Tab w) :
    Calls Tryz.prog 155 #[.int .i32 n] w fun e w' => e = .returned (.string ⟨(itoa n).toArray⟩) ∧ Below w.heap.size w w' := by
  have HI := hid (zitoa_any n w (by omega) (by omega) htab)
  have hw : IntKind.i64.wrap n = n := by rw [IntKind.wrap_i64]; omega
  clear htab
  go_enter Tryz.func155, Tryz.ntmps155
  go_wp2_with fail
  refine Calls.mono HI.out ?_
  rintro e w1 ⟨rfl, hb⟩
  go_wp2_with fail
  go_ret
  exact ⟨rfl, hb⟩

end Go.Proofs.YtnfemheabikolaaGreatDoor

/- package tide: Print. -/
namespace Go.Proofs.YtnfemheabikolaaGreatDoor
open Go.RowKit Go.Lib
set_option linter.unusedVariables false
set_option linter.unusedSimpArgs false

def ttext (l : List UInt8) (f r : Int) (g : List UInt8) : List UInt8 := l ++ 32 :: (itoa f ++ 32 :: (itoa r ++ 32 :: g))
def tpErr (E : Int) (l : List UInt8) (f r : Int) (G : Int) (g : List UInt8) : Int := if E ≠ 0 then E else if G ≠ 0 then G else if 65536 < (ttext l f r g).length then 3 else 0
theorem tpErr_chk {E : Int} {l : List UInt8} {f r G : Int} {g : List UInt8} (h : E ≠ 0) : tpErr E l f r G g = E := by unfold tpErr; rw [if_pos h]
theorem tpErr_num {E : Int} {l : List UInt8} {f r G : Int} {g : List UInt8} (h : E = 0) (h2 : G ≠ 0) : tpErr E l f r G g = G := by unfold tpErr; rw [if_neg (by simp [h]), if_pos h2]
theorem tpErr_long {E : Int} {l : List UInt8} {f r G : Int} {g : List UInt8} (h : E = 0) (h2 : G = 0) (h3 : 65536 < (ttext l f r g).length) : tpErr E l f r G g = 3 := by unfold tpErr; rw [if_neg (by simp [h]), if_neg (by simp [h2]), if_pos h3]
theorem tpErr_ok {E : Int} {l : List UInt8} {f r G : Int} {g : List UInt8} (h : E = 0) (h2 : G = 0) (h3 : ¬ 65536 < (ttext l f r g).length) : tpErr E l f r G g = 0 := by unfold tpErr; rw [if_neg (by simp [h]), if_neg (by simp [h2]), if_neg h3]
theorem tsum_text (s : ByteArray) (f r : Int) (U : ByteArray) : s ++ (⟨#[32]⟩ : ByteArray) ++ (⟨(itoa f).toArray⟩ : ByteArray) ++ (⟨#[32]⟩ : ByteArray) ++ (⟨(itoa r).toArray⟩ : ByteArray) ++ (⟨#[32]⟩ : ByteArray) ++ U = ⟨(ttext s.data.toList f r U.data.toList).toArray⟩ := by
  have e : ∀ x : ByteArray, x = ⟨x.data.toList.toArray⟩ := fun x => by simp
  rw [e s, e U, show (⟨#[32]⟩ : ByteArray) = ⟨([32] : List UInt8).toArray⟩ from rfl, zbytes_app, zbytes_app, zbytes_app, zbytes_app, zbytes_app, zbytes_app]
  unfold ttext
  simp
theorem tname_ok {l : List UInt8} (h : tname l = true) : 1 ≤ l.length ∧ l.length ≤ 20 := by
  unfold tname at h
  simp at h
  exact ⟨h.1.1.1, h.1.1.2⟩
theorem tchk_ok {l : List UInt8} {f n g : Int} (h : tchk l f n g = 0) : tname l = true ∧ ochk f n = 0 ∧ g = 0 := by
  unfold tchk at h
  by_cases hn : tname l = true
  · rw [if_pos hn] at h
    unfold fstE at h
    by_cases ho : ochk f n = 0
    · rw [if_pos ho] at h; exact ⟨hn, ho, h⟩
    · rw [if_neg ho] at h; exact absurd h ho
  · rw [if_neg hn] at h; exact absurd h (by decide)
set_option maxHeartbeats 3200000 in
set_option maxRecDepth 100000 in
theorem tPrint_any (s : ByteArray) (f r : Int) (n : Bool) (a : Option Addr) (ca : Nat) (xs : List Int) (b : Option Addr) (cb : Nat) (ys : List Int) (m : Bool) (c : Option Addr) (cc : Nat) (us : List Int) (d : Option Addr) (cd : Nat) (vs : List Int) (w : World) (hz : s.size ≤ 9223372036854775807) (hr : in32 f r) (sx : Sl w (.slice a xs.length ca) xs) (sy : Sl w (.slice b ys.length cb) ys) (su : Sl w (.slice c us.length cc) us) (sv : Sl w (.slice d vs.length cd) vs) (htab : Tab w) :
    Calls Tryz.prog 97 #[.agg #[.string s, .int .i32 f, .int .i32 r, .bool n, .slice a xs.length ca, .slice b ys.length cb, .bool m, .slice c us.length cc, .slice d vs.length cd]] w fun x w' => ∃ S : ByteArray, x = .returned (.tuple #[.string S, .int .i64 (tpErr (tchk s.data.toList f r (gchk n xs ys m us vs)) s.data.toList f r (gpErr n xs ys m us vs) (gtext n xs ys m us vs))]) ∧ (tpErr (tchk s.data.toList f r (gchk n xs ys m us vs)) s.data.toList f r (gpErr n xs ys m us vs) (gtext n xs ys m us vs) = 0 → S.data.toList = ttext s.data.toList f r (gtext n xs ys m us vs)) ∧ (tpErr (tchk s.data.toList f r (gchk n xs ys m us vs)) s.data.toList f r (gpErr n xs ys m us vs) (gtext n xs ys m us vs) ≠ 0 → S = ⟨#[]⟩) ∧ Below w.heap.size w w' := by
  have HX := hid (Box.made w 37 #[.string s, .int .i32 f, .int .i32 r, .bool n, .slice a xs.length ca, .slice b ys.length cb, .bool m, .slice c us.length cc, .slice d vs.length cd])
  have HB := hid (alloc_later w (.cells #[.string s, .int .i32 f, .int .i32 r, .bool n, .slice a xs.length ca, .slice b ys.length cb, .bool m, .slice c us.length cc, .slice d vs.length cd] 37))
  obtain ⟨X, hX⟩ : ∃ X, w.alloc (.cells #[.string s, .int .i32 f, .int .i32 r, .bool n, .slice a xs.length ca, .slice b ys.length cb, .bool m, .slice c us.length cc, .slice d vs.length cd] 37) = X := ⟨_, rfl⟩
  rw [hX] at HX HB
  have HC := hid (tCheck_any s f r n a ca xs b cb ys m c cc us d cd vs X hz hr (sx.later HB.out) (sy.later HB.out) (su.later HB.out) (sv.later HB.out))
  have HP : Hid (∀ V, Below w.heap.size w V → Calls Tryz.prog 154 #[.agg #[.bool n, .slice a xs.length ca, .slice b ys.length cb, .bool m, .slice c us.length cc, .slice d vs.length cd]] V fun x w' => ∃ S : ByteArray, x = .returned (.tuple #[.string S, .int .i64 (gpErr n xs ys m us vs)]) ∧ (gpErr n xs ys m us vs = 0 → S.data.toList = gtext n xs ys m us vs) ∧ (gpErr n xs ys m us vs ≠ 0 → S = ⟨#[]⟩) ∧ Below V.heap.size V w') := fun V hv => gPrint_any n a ca xs b cb ys m c cc us d cd vs V (sx.later hv) (sy.later hv) (su.later hv) (sv.later hv) (htab.later hv)
  have HD : Hid (∀ z, -2147483648 ≤ z → z ≤ 2147483647 → ∀ V, Below w.heap.size w V → Calls Tryz.prog 155 #[.int .i32 z] V fun e w' => e = .returned (.string ⟨(itoa z).toArray⟩) ∧ Below V.heap.size V w') := fun z z0 z1 V hv => tdecimal_any z V z0 z1 (htab.later hv)
  have D1 := hid (HD.out f hr.1.1 hr.1.2)
  have D2 := hid (HD.out r hr.2.1 hr.2.2)
  have lf := zitoa_len f hr.1.1 hr.1.2
  have lr := zitoa_len r hr.2.1 hr.2.2
  have hls : s.data.toList.length = s.size := Array.length_toList
  have HTC : Hid (tchk s.data.toList f r (gchk n xs ys m us vs) = 0 → s.size ≤ 20) := fun h => by have := tname_ok (tchk_ok h).1; omega
  have HGL : Hid (gpErr n xs ys m us vs = 0 → (gtext n xs ys m us vs).length ≤ 65536) := fun h => by
    unfold gpErr at h
    by_cases hg : gchk n xs ys m us vs = 0
    · rw [hg, fstE_zero] at h
      by_cases hl : 65536 < (gtext n xs ys m us vs).length
      · rw [if_pos hl] at h; exact absurd h (by decide)
      · omega
    · rw [fstE_err _ hg] at h; exact absurd h hg
  generalize gtext n xs ys m us vs = GT at *
  generalize gpErr n xs ys m us vs = GE at *
  generalize tchk s.data.toList f r (gchk n xs ys m us vs) = TC at *
  have HE1 : Hid (TC ≠ 0 → tpErr TC s.data.toList f r GE GT = TC) := tpErr_chk
  have HE2 : Hid (TC = 0 → GE ≠ 0 → tpErr TC s.data.toList f r GE GT = GE) := tpErr_num
  have HE3 : Hid (TC = 0 → GE = 0 → 65536 < (ttext s.data.toList f r GT).length → tpErr TC s.data.toList f r GE GT = 3) := tpErr_long
  have HE4 : Hid (TC = 0 → GE = 0 → ¬ 65536 < (ttext s.data.toList f r GT).length → tpErr TC s.data.toList f r GE GT = 0) := tpErr_ok
  have HTX : Hid (∀ U : ByteArray, U.data.toList = GT → s ++ (⟨#[32]⟩ : ByteArray) ++ (⟨(itoa f).toArray⟩ : ByteArray) ++ (⟨#[32]⟩ : ByteArray) ++ (⟨(itoa r).toArray⟩ : ByteArray) ++ (⟨#[32]⟩ : ByteArray) ++ U = ⟨(ttext s.data.toList f r GT).toArray⟩) := fun U hU => by rw [tsum_text, hU]
  have HTL : Hid (∀ U : ByteArray, U.data.toList = GT → (ttext s.data.toList f r GT).length = s.size + 1 + (itoa f).length + 1 + (itoa r).length + 1 + U.size) := fun U hU => by
    have hu : U.data.toList.length = U.size := Array.length_toList
    unfold ttext
    rw [← hU]
    simp only [List.length_append, List.length_cons]
    omega
  generalize tpErr TC s.data.toList f r GE GT = TE at *
  generalize ttext s.data.toList f r GT = TT at *
  clear sx sy su sv htab hr HD hls
  have k0 : X.cell? ⟨w.heap.size, 0, none⟩ = some (.string s) := HX.out.cell 0
  have k1 : X.cell? ⟨w.heap.size, 1, none⟩ = some (.int .i32 f) := HX.out.cell 1
  have k2 : X.cell? ⟨w.heap.size, 2, none⟩ = some (.int .i32 r) := HX.out.cell 2
  have k3 : X.cell? ⟨w.heap.size, 3, none⟩ = some (.bool n) := HX.out.cell 3
  have k4 : X.cell? ⟨w.heap.size, 4, none⟩ = some (.slice a xs.length ca) := HX.out.cell 4
  have k5 : X.cell? ⟨w.heap.size, 5, none⟩ = some (.slice b ys.length cb) := HX.out.cell 5
  have k6 : X.cell? ⟨w.heap.size, 6, none⟩ = some (.bool m) := HX.out.cell 6
  have k7 : X.cell? ⟨w.heap.size, 7, none⟩ = some (.slice c us.length cc) := HX.out.cell 7
  have k8 : X.cell? ⟨w.heap.size, 8, none⟩ = some (.slice d vs.length cd) := HX.out.cell 8
  go_enter Tryz.func97, Tryz.ntmps97
  go_wp2_with fail
  refine Calls.mono HC.out ?_
  rintro e w1 ⟨rfl, hb1⟩
  have HW1 := hid (bt HB.out hb1)
  have HX1 := hid (HX.out.later hb1 HX.out.lt)
  clear hb1 HC k0 k1 k2 k3 k4 k5 k6 k7 k8 HX HB hX
  by_cases hTC : TC = 0
  · have hsz := HTC.out hTC
    have HZ1 := hid hTC
    subst hTC
    have k3 : w1.cell? ⟨w.heap.size, 3, none⟩ = some (.bool n) := HX1.out.cell 3
    have k4 : w1.cell? ⟨w.heap.size, 4, none⟩ = some (.slice a xs.length ca) := HX1.out.cell 4
    have k5 : w1.cell? ⟨w.heap.size, 5, none⟩ = some (.slice b ys.length cb) := HX1.out.cell 5
    have k6 : w1.cell? ⟨w.heap.size, 6, none⟩ = some (.bool m) := HX1.out.cell 6
    have k7 : w1.cell? ⟨w.heap.size, 7, none⟩ = some (.slice c us.length cc) := HX1.out.cell 7
    have k8 : w1.cell? ⟨w.heap.size, 8, none⟩ = some (.slice d vs.length cd) := HX1.out.cell 8
    go_wp2_with fail
    refine Calls.mono (HP.out _ HW1.out) ?_
    rintro x w2 ⟨U, rfl, hU, _, hb2⟩
    have HW2 := hid (bt HW1.out hb2)
    have HX2 := hid (HX1.out.later hb2 HX1.out.lt)
    have HU := hid hU
    clear hU hb2 k3 k4 k5 k6 k7 k8
    by_cases hGE : GE = 0
    · have hU2 := HU.out hGE
      have hGL := HGL.out hGE
      have hUl : U.size ≤ 65536 := by
        have e1 : U.data.toList.length = U.size := Array.length_toList
        rw [hU2] at e1; omega
      have HT := hid (HTX.out U hU2)
      have hTL := HTL.out U hU2
      have HGZ := hid hGE
      subst hGE
      clear hU2 hGL HU HTX HTL HGL HTC
      have hm1 : ¬ 9223372036854775807 < s.size + 1 := by omega
      have hm2 : ¬ 9223372036854775807 < s.size + 1 + (itoa f).length := by omega
      have hm3 : ¬ 9223372036854775807 < s.size + 1 + (itoa f).length + 1 := by omega
      have hm4 : ¬ 9223372036854775807 < s.size + 1 + (itoa f).length + 1 + (itoa r).length := by omega
      have hm5 : ¬ 9223372036854775807 < s.size + 1 + (itoa f).length + 1 + (itoa r).length + 1 := by omega
      have hm6 : ¬ 9223372036854775807 < s.size + 1 + (itoa f).length + 1 + (itoa r).length + 1 + U.size := by omega
      have HTL := hid hTL
      clear hTL hsz hUl lf lr
      have HF : Hid (∀ V, Below w2.heap.size w2 V → V.cell? ⟨w.heap.size, 0, none⟩ = some (.string s) ∧ V.cell? ⟨w.heap.size, 1, none⟩ = some (.int .i32 f) ∧ V.cell? ⟨w.heap.size, 2, none⟩ = some (.int .i32 r)) := fun V hv => by
        have h := HX2.out.later hv HX2.out.lt
        exact ⟨h.cell 0, h.cell 1, h.cell 2⟩
      have hs0 := HF.out _ (Below.refl _ w2).drew
      have hd0 := hid (Below.refl w2.heap.size w2).drew
      have H1 : Hid (∀ V, Below w2.heap.size w2 V → Calls Tryz.prog 155 #[.int .i32 f] V fun e w' => e = .returned (.string ⟨(itoa f).toArray⟩) ∧ (w'.cell? ⟨w.heap.size, 0, none⟩ = some (.string s) ∧ w'.cell? ⟨w.heap.size, 1, none⟩ = some (.int .i32 f) ∧ w'.cell? ⟨w.heap.size, 2, none⟩ = some (.int .i32 r)) ∧ Below w2.heap.size w2 w') := fun V hv => by
        refine Calls.mono (D1.out V (bt HW2.out hv)) ?_
        rintro e w' ⟨rfl, h⟩
        exact ⟨rfl, HF.out _ (bt hv h), bt hv h⟩
      have H2 : Hid (∀ V, Below w2.heap.size w2 V → Calls Tryz.prog 155 #[.int .i32 r] V fun e w' => e = .returned (.string ⟨(itoa r).toArray⟩) ∧ (w'.cell? ⟨w.heap.size, 0, none⟩ = some (.string s) ∧ w'.cell? ⟨w.heap.size, 1, none⟩ = some (.int .i32 f) ∧ w'.cell? ⟨w.heap.size, 2, none⟩ = some (.int .i32 r)) ∧ Below w2.heap.size w2 w') := fun V hv => by
        refine Calls.mono (D2.out V (bt HW2.out hv)) ?_
        rintro e w' ⟨rfl, h⟩
        exact ⟨rfl, HF.out _ (bt hv h), bt hv h⟩
      clear HF HX1 HX2 D1 D2 HP
      go_wp2_with fail
      go_region_held3 (fun V : World => V.cell? ⟨w.heap.size, 0, none⟩ = some (.string s) ∧ V.cell? ⟨w.heap.size, 1, none⟩ = some (.int .i32 f) ∧ V.cell? ⟨w.heap.size, 2, none⟩ = some (.int .i32 r)) (first | exact hs2 | exact hs1 | exact hs0)
        (first
          | (go_at_call 155; with_reducible refine Calls.mono (H2.out _ hb2) ?_; rintro e w4 ⟨rfl, hs2, hb3⟩)
          | (go_at_call 155; with_reducible refine Calls.mono (H1.out _ hd0.out) ?_; rintro e w3 ⟨rfl, hs1, hb2⟩))
      all_goals
        have HB3 := hid (bt HW2.out hb3)
        clear hs0 hs1 hs2 hb2 hb3 H1 H2 hd0
        have HSZ : Hid ((⟨TT.toArray⟩ : ByteArray).size = TT.length) := by show TT.toArray.size = TT.length; simp
        have HTB : Hid ((⟨TT.toArray⟩ : ByteArray).data.toList = TT) := by show _ = _; simp
        rw [HT.out]
        clear HT hm1 hm2 hm3 hm4 hm5 hm6
        generalize (⟨TT.toArray⟩ : ByteArray) = TB at *
        by_cases hl : (65536 : Int) < (TB.size : Int)
        · have HTE := hid (HE3.out trivial trivial (by have := HSZ.out; omega))
          go_wp2_with fail
          go_ret2
          rw [HTE.out]
          exact ⟨_, rfl, fun h => absurd h (by decide), fun _ => rfl, HB3.out⟩
        · have HTE := hid (HE4.out trivial trivial (by have := HSZ.out; omega))
          go_wp2_with fail
          go_ret2
          rw [HTE.out]
          exact ⟨_, rfl, fun _ => HTB.out, fun h => absurd rfl h, HB3.out⟩
    · have HTE := hid (HE2.out trivial hGE)
      have h2' : (GE == 0) = false := by simp [hGE]
      have h2n : (GE != 0) = true := by simp [hGE]
      clear HP D1 D2 HTX HTL HGL HTC HE3 HE4 HE1
      go_wp2_with fail
      go_ret2
      rw [HTE.out]
      exact ⟨_, rfl, fun h => absurd h hGE, fun _ => rfl, HW2.out⟩
  · have HTE := hid (HE1.out hTC)
    have h2' : (TC == 0) = false := by simp [hTC]
    have h2n : (TC != 0) = true := by simp [hTC]
    clear HP D1 D2 HTX HTL HGL HTC HE3 HE4 HE2
    go_wp2_with fail
    go_ret2
    rw [HTE.out]
    exact ⟨_, rfl, fun h => absurd h hTC, fun _ => rfl, HW1.out⟩
end Go.Proofs.YtnfemheabikolaaGreatDoor

/- package tide: Parse, of any text. -/
namespace Go.Proofs.YtnfemheabikolaaGreatDoor
open Go.RowKit Go.Lib
set_option linter.unusedVariables false
set_option linter.unusedSimpArgs false

theorem box_put9 {U : World} {b t : Nat} {u0 u1 u2 u3 u4 u5 u6 u7 u8 : Value} (h : Box U b t #[u0, u1, u2, u3, u4, u5, u6, u7, u8]) (v0 v1 v2 v3 v4 v5 v6 v7 v8 : Value) : Box (((((((((U.setCell ⟨b, 0, none⟩ v0).setCell ⟨b, 1, none⟩ v1).setCell ⟨b, 2, none⟩ v2).setCell ⟨b, 3, none⟩ v3).setCell ⟨b, 4, none⟩ v4).setCell ⟨b, 5, none⟩ v5).setCell ⟨b, 6, none⟩ v6).setCell ⟨b, 7, none⟩ v7).setCell ⟨b, 8, none⟩ v8) b t #[v0, v1, v2, v3, v4, v5, v6, v7, v8] := by
  have h0 : Box _ b t #[v0, u1, u2, u3, u4, u5, u6, u7, u8] := h.set 0 v0
  have h1 : Box _ b t #[v0, v1, u2, u3, u4, u5, u6, u7, u8] := h0.set 1 v1
  have h2 : Box _ b t #[v0, v1, v2, u3, u4, u5, u6, u7, u8] := h1.set 2 v2
  have h3 : Box _ b t #[v0, v1, v2, v3, u4, u5, u6, u7, u8] := h2.set 3 v3
  have h4 : Box _ b t #[v0, v1, v2, v3, v4, u5, u6, u7, u8] := h3.set 4 v4
  have h5 : Box _ b t #[v0, v1, v2, v3, v4, v5, u6, u7, u8] := h4.set 5 v5
  have h6 : Box _ b t #[v0, v1, v2, v3, v4, v5, v6, u7, u8] := h5.set 6 v6
  have h7 : Box _ b t #[v0, v1, v2, v3, v4, v5, v6, v7, u8] := h6.set 7 v7
  exact h7.set 8 v8
theorem below_put9 {B : Nat} {x U : World} (h : Below B x U) (b : Nat) (hb : B ≤ b) (v0 v1 v2 v3 v4 v5 v6 v7 v8 : Value) : Below B x (((((((((U.setCell ⟨b, 0, none⟩ v0).setCell ⟨b, 1, none⟩ v1).setCell ⟨b, 2, none⟩ v2).setCell ⟨b, 3, none⟩ v3).setCell ⟨b, 4, none⟩ v4).setCell ⟨b, 5, none⟩ v5).setCell ⟨b, 6, none⟩ v6).setCell ⟨b, 7, none⟩ v7).setCell ⟨b, 8, none⟩ v8) :=
  ((((((((h.setCell (p := ⟨b, 0, none⟩) hb _).setCell (p := ⟨b, 1, none⟩) hb _).setCell (p := ⟨b, 2, none⟩) hb _).setCell (p := ⟨b, 3, none⟩) hb _).setCell (p := ⟨b, 4, none⟩) hb _).setCell (p := ⟨b, 5, none⟩) hb _).setCell (p := ⟨b, 6, none⟩) hb _).setCell (p := ⟨b, 7, none⟩) hb _).setCell (p := ⟨b, 8, none⟩) hb _
theorem own_put9 {w : World} {base e n : Nat} {v : Value} {xs : List Value} (h : w.ownsRow base e 1 v n xs) (b : Nat) (hb : ∀ g, v.ownBlock = some g → g ≠ b) (v0 v1 v2 v3 v4 v5 v6 v7 v8 : Value) : (((((((((w.setCell ⟨b, 0, none⟩ v0).setCell ⟨b, 1, none⟩ v1).setCell ⟨b, 2, none⟩ v2).setCell ⟨b, 3, none⟩ v3).setCell ⟨b, 4, none⟩ v4).setCell ⟨b, 5, none⟩ v5).setCell ⟨b, 6, none⟩ v6).setCell ⟨b, 7, none⟩ v7).setCell ⟨b, 8, none⟩ v8).ownsRow base e 1 v n xs :=
  own_put1 (own_put1 (own_put1 (own_put1 (own_put1 (own_put1 (own_put1 (own_put1 (own_put1 h b hb 0 v0) b hb 1 v1) b hb 2 v2) b hb 3 v3) b hb 4 v4) b hb 5 v5) b hb 6 v6) b hb 7 v7) b hb 8 v8
theorem tres_run {fn : Func} {W : World} {b q u : Nat} {cs : Array Value} (hr : fn.results = #[.cell q 37, .tmp u]) (hb : Box W b 37 cs) (tmps : Array Value) (h4 : tmps.getD q undef = .pointer (some ⟨b, 0, none⟩)) (hi : (Tryz.prog.info? 37).map (·.size) = some cs.size := by kernel_rfl) : (results fn tmps).run Tryz.prog W = .ok (.tuple #[.agg cs, tmps.getD u undef]) W := by
  have h := run_loadVar_row (P := Tryz.prog) W b 37 37 cs (0, 0) _ hb Tryz.underlying37 rfl hi
  rw [results_cell_tmp hr, h4]
  simp [asAddr, h]
theorem tchain9 {W : World} {b t : Nat} {u0 u1 u2 u3 u4 u5 u6 u7 u8 : Value} (h : Box W b t #[u0, u1, u2, u3, u4, u5, u6, u7, u8]) (v0 v1 v2 v3 v4 v5 v6 v7 v8 : Value) : ∃ A0 A1 A2 A3 A4 A5 A6 A7 A8, W.setCell ⟨b, 0, none⟩ v0 = A0 ∧ A0.setCell ⟨b, 1, none⟩ v1 = A1 ∧ A1.setCell ⟨b, 2, none⟩ v2 = A2 ∧ A2.setCell ⟨b, 3, none⟩ v3 = A3 ∧ A3.setCell ⟨b, 4, none⟩ v4 = A4 ∧ A4.setCell ⟨b, 5, none⟩ v5 = A5 ∧ A5.setCell ⟨b, 6, none⟩ v6 = A6 ∧ A6.setCell ⟨b, 7, none⟩ v7 = A7 ∧ A7.setCell ⟨b, 8, none⟩ v8 = A8 ∧ (W.cell? ⟨b, 0, none⟩ = some u0 ∧ A0.cell? ⟨b, 1, none⟩ = some u1 ∧ A1.cell? ⟨b, 2, none⟩ = some u2 ∧ A2.cell? ⟨b, 3, none⟩ = some u3 ∧ A3.cell? ⟨b, 4, none⟩ = some u4 ∧ A4.cell? ⟨b, 5, none⟩ = some u5 ∧ A5.cell? ⟨b, 6, none⟩ = some u6 ∧ A6.cell? ⟨b, 7, none⟩ = some u7 ∧ A7.cell? ⟨b, 8, none⟩ = some u8) ∧ (W.frozen? ⟨b, 0, none⟩ = false ∧ A0.frozen? ⟨b, 1, none⟩ = false ∧ A1.frozen? ⟨b, 2, none⟩ = false ∧ A2.frozen? ⟨b, 3, none⟩ = false ∧ A3.frozen? ⟨b, 4, none⟩ = false ∧ A4.frozen? ⟨b, 5, none⟩ = false ∧ A5.frozen? ⟨b, 6, none⟩ = false ∧ A6.frozen? ⟨b, 7, none⟩ = false ∧ A7.frozen? ⟨b, 8, none⟩ = false) := by
  have h0 : Box _ b t #[v0, u1, u2, u3, u4, u5, u6, u7, u8] := h.set 0 v0
  have h1 : Box _ b t #[v0, v1, u2, u3, u4, u5, u6, u7, u8] := h0.set 1 v1
  have h2 : Box _ b t #[v0, v1, v2, u3, u4, u5, u6, u7, u8] := h1.set 2 v2
  have h3 : Box _ b t #[v0, v1, v2, v3, u4, u5, u6, u7, u8] := h2.set 3 v3
  have h4 : Box _ b t #[v0, v1, v2, v3, v4, u5, u6, u7, u8] := h3.set 4 v4
  have h5 : Box _ b t #[v0, v1, v2, v3, v4, v5, u6, u7, u8] := h4.set 5 v5
  have h6 : Box _ b t #[v0, v1, v2, v3, v4, v5, v6, u7, u8] := h5.set 6 v6
  have h7 : Box _ b t #[v0, v1, v2, v3, v4, v5, v6, v7, u8] := h6.set 7 v7
  exact ⟨_, _, _, _, _, _, _, _, _, rfl, rfl, rfl, rfl, rfl, rfl, rfl, rfl, rfl, ⟨h.cell 0, h0.cell 1, h1.cell 2, h2.cell 3, h3.cell 4, h4.cell 5, h5.cell 6, h6.cell 7, h7.cell 8⟩, h.free 0, h0.free 1, h1.free 2, h2.free 3, h3.free 4, h4.free 5, h5.free 6, h6.free 7, h7.free 8⟩
structure TTells (E : Int) (L : Prop) (l : List UInt8) (f r : Int) (q1 q2 : Rat) (S : ByteArray) (F R : Int) (n : Bool) (xs ys : List Int) (m : Bool) (us vs : List Int) (code : Int) : Prop where
  num : GTells E L q1 q2 n xs ys m us vs code
  bad : code ≠ 0 → S = ⟨#[]⟩ ∧ F = 0 ∧ R = 0
  good : code = 0 → S.data.toList = l ∧ F = f ∧ R = r
def TToldC (w : World) (E : Int) (L : Prop) (l : List UInt8) (f r : Int) (q1 q2 : Rat) (x : Ending) (w' : World) : Prop :=
  ∃ S F R n a ca xs b cb ys m c cc us d cd vs code, x = .returned (.tuple #[.agg #[.string S, .int .i32 F, .int .i32 R, .bool n, .slice a (List.length xs) ca, .slice b (List.length ys) cb, .bool m, .slice c (List.length us) cc, .slice d (List.length vs) cd], .int .i64 code]) ∧ (w'.ownsRow w.heap.size 78 1 (.slice a xs.length ca) xs.length (xs.map (Value.int .u32)) ∧ w'.ownsRow w.heap.size 78 1 (.slice b ys.length cb) ys.length (ys.map (Value.int .u32)) ∧ w'.ownsRow w.heap.size 78 1 (.slice c us.length cc) us.length (us.map (Value.int .u32)) ∧ w'.ownsRow w.heap.size 78 1 (.slice d vs.length cd) vs.length (vs.map (Value.int .u32))) ∧ TTells E L l f r q1 q2 S F R n xs ys m us vs code ∧ Below w.heap.size w w' ∧ ∃ W1, Cut w (.slice a xs.length ca) (.slice b ys.length cb) W1 ∧ Cut W1 (.slice c us.length cc) (.slice d vs.length cd) w'
theorem ttoldc_zero {w W : World} {E : Int} {L : Prop} {l : List UInt8} {f r : Int} {q1 q2 : Rat} {code : Int} (h : E ≠ 0 ∧ code = E ∨ E = 0 ∧ L ∧ code = 3) (hb : Below w.heap.size w W) : TToldC w E L l f r q1 q2 (.returned (.tuple #[.agg #[.string ⟨#[]⟩, .int .i32 0, .int .i32 0, .bool false, .slice none 0 0, .slice none 0 0, .bool false, .slice none 0 0, .slice none 0 0], .int .i64 code])) W := by
  have hc : code ≠ 0 := by rcases h with h | h <;> omega
  refine ⟨⟨#[]⟩, 0, 0, false, none, 0, [], none, 0, [], false, none, 0, [], none, 0, [], code, rfl, ⟨World.ownsRow_nil _ _ _ _, World.ownsRow_nil _ _ _ _, World.ownsRow_nil _ _ _ _, World.ownsRow_nil _ _ _ _⟩, ⟨⟨⟨Wd.nil, Wd.nil, Wd.nil, Wd.nil⟩, fun he => ⟨⟨rfl, rfl, rfl, rfl, rfl, rfl⟩, ?_⟩, fun he hl => ⟨⟨rfl, rfl, rfl, rfl, rfl, rfl⟩, ?_⟩, fun he hl => ?_⟩, fun _ => ⟨rfl, rfl, rfl⟩, fun e => absurd e hc⟩, hb, W, cut_nil _ _ hb.size, cut_nil _ _ (Nat.le_refl _)⟩
  · rcases h with h | h
    · exact h.2
    · exact absurd h.1 he
  · rcases h with h | h
    · exact absurd he h.1
    · exact h.2.2
  · rcases h with h | h
    · exact absurd he h.1
    · exact absurd h.2.1 hl

end Go.Proofs.YtnfemheabikolaaGreatDoor

/- package port: constituents as letters, and checkHead of every port. -/
namespace Go.Proofs.YtnfemheabikolaaGreatDoor
open Go.RowKit
set_option linter.unusedVariables false

structure TL where
  s : ByteArray
  f : Int
  r : Int
  n : Bool
  a : Option Addr
  ca : Nat
  xs : List Int
  b : Option Addr
  cb : Nat
  ys : List Int
  m : Bool
  c : Option Addr
  cc : Nat
  us : List Int
  d : Option Addr
  cd : Nat
  vs : List Int
def TL.cells (t : TL) : Array Value := #[.string t.s, .int .i32 t.f, .int .i32 t.r, .bool t.n, .slice t.a t.xs.length t.ca, .slice t.b t.ys.length t.cb, .bool t.m, .slice t.c t.us.length t.cc, .slice t.d t.vs.length t.cd]
structure TL.ok (t : TL) (w : World) : Prop where
  size : t.s.size ≤ maxLen
  rot : in32 t.f t.r
  sx : Sl w (.slice t.a t.xs.length t.ca) t.xs
  sy : Sl w (.slice t.b t.ys.length t.cb) t.ys
  su : Sl w (.slice t.c t.us.length t.cc) t.us
  sv : Sl w (.slice t.d t.vs.length t.cd) t.vs
theorem TL.ok.later {t : TL} {w w' : World} (h : t.ok w) (hb : Below w.heap.size w w') : t.ok w' := ⟨h.size, h.rot, h.sx.later hb, h.sy.later hb, h.su.later hb, h.sv.later hb⟩
def TL.chk (t : TL) : Int := tchk t.s.data.toList t.f t.r (gchk t.n t.xs t.ys t.m t.us t.vs)
def TL.nm (t : TL) : List UInt8 := t.s.data.toList
def TL.ro (t : TL) : Int × Int := (t.f, t.r)
theorem tlcheck_any (t : TL) (w : World) (h : t.ok w) : Calls Tryz.prog 49 #[.agg t.cells] w fun e w' => e = .returned (.int .i64 t.chk) ∧ Below w.heap.size w w' :=
  tCheck_any t.s t.f t.r t.n t.a t.ca t.xs t.b t.cb t.ys t.m t.c t.cc t.us t.d t.cd t.vs w h.size h.rot h.sx h.sy h.su h.sv
def RdT (w : World) (a : Option Addr) (ts : List TL) : Prop := (∀ t ∈ ts, t.ok w) ∧ (ts = [] ∨ ∃ b o, a = some ⟨b, o, none⟩ ∧ b < w.heap.size ∧ ∀ (j : Nat) (t : TL), ts[j]? = some t → ∀ k, k < 9 → w.cell? ⟨b, o + j * 9 + k, none⟩ = t.cells[k]?)
theorem RdT.later {w w' : World} {a : Option Addr} {ts : List TL} (h : RdT w a ts) (hb : Below w.heap.size w w') : RdT w' a ts := by
  refine ⟨fun t ht => (h.1 t ht).later hb, ?_⟩
  rcases h.2 with e | ⟨b, o, e, hl, hc⟩
  · exact .inl e
  · exact .inr ⟨b, o, e, Nat.lt_of_lt_of_le hl hb.size, fun j t hj k hk => (hb.cell (p := ⟨b, o + j * 9 + k, none⟩) hl).trans (hc j t hj k hk)⟩

def phd (l : List UInt8) (rc : Int) (k : Nat) : Int := if tname l = true then fstE rc (if 24 < k then 3 else 0) else 4
theorem phd_name {l : List UInt8} (rc : Int) (k : Nat) (h : tname l = false) : phd l rc k = 4 := by unfold phd; rw [if_neg (by rw [h]; decide)]
theorem phd_rest {l : List UInt8} (rc : Int) (k : Nat) (h : tname l = true) : phd l rc k = fstE rc (if 24 < k then 3 else 0) := by unfold phd; rw [if_pos h]
set_option maxHeartbeats 1600000 in
set_option maxRecDepth 100000 in
theorem pHead_any (s : ByteArray) (n : Bool) (a : Option Addr) (ca : Nat) (xs : List Int) (b : Option Addr) (cb : Nat) (ys : List Int) (t : Option Addr) (k ct : Nat) (w : World) (hz : s.size ≤ maxLen) (sx : Sl w (.slice a xs.length ca) xs) (sy : Sl w (.slice b ys.length cb) ys) :
    Calls Tryz.prog 53 #[.agg #[.string s, .bool n, .slice a xs.length ca, .slice b ys.length cb, .slice t k ct]] w fun e w' => e = .returned (.int .i64 (phd s.data.toList (rchk n xs ys) k)) ∧ Below w.heap.size w w' := by
  have HX := hid (Box.made w 27 #[.string s, .bool n, .slice a xs.length ca, .slice b ys.length cb, .slice t k ct])
  have HB := hid (alloc_later w (.cells #[.string s, .bool n, .slice a xs.length ca, .slice b ys.length cb, .slice t k ct] 27))
  obtain ⟨X, hX⟩ : ∃ X, w.alloc (.cells #[.string s, .bool n, .slice a xs.length ca, .slice b ys.length cb, .slice t k ct] 27) = X := ⟨_, rfl⟩
  rw [hX] at HX HB
  have HN := hid (tName_any s X hz)
  have HR : Hid (∀ V, Below w.heap.size w V → Calls Tryz.prog 111 #[.agg #[.bool n, .slice a xs.length ca, .slice b ys.length cb]] V fun e w' => e = .returned (.int .i64 (rchk n xs ys)) ∧ Below V.heap.size V w') := fun V hv => rcheck_any n _ xs _ ys V (sx.later hv) (sy.later hv)
  generalize rchk n xs ys = E at *
  have HK1 := hid (phd_name (l := s.data.toList) E k)
  have HK2 := hid (phd_rest (l := s.data.toList) E k)
  generalize phd s.data.toList E k = T at *
  generalize tname s.data.toList = NM at *
  clear sx sy
  have k0 : X.cell? ⟨w.heap.size, 0, none⟩ = some (.string s) := HX.out.cell 0
  have k1 : X.cell? ⟨w.heap.size, 1, none⟩ = some (.bool n) := HX.out.cell 1
  have k2 : X.cell? ⟨w.heap.size, 2, none⟩ = some (.slice a xs.length ca) := HX.out.cell 2
  have k3 : X.cell? ⟨w.heap.size, 3, none⟩ = some (.slice b ys.length cb) := HX.out.cell 3
  cases NM with
  | false =>
    have HT := hid (HK1.out rfl)
    go_enter Tryz.func53, Tryz.ntmps53
    go_wp2_with fail
    refine Calls.mono HN.out ?_
    rintro e w1 ⟨rfl, rfl⟩
    go_wp2_with fail
    go_ret
    exact ⟨ret_int HT.out.symm, HB.out⟩
  | true =>
    have HT := hid (HK2.out rfl)
    by_cases hE : E = 0
    · subst hE
      have HT2 := hid (HT.out.trans (fstE_zero _))
      clear HT
      by_cases hk : 24 < k
      · have HT3 : Hid (T = 3) := HT2.out.trans (if_pos hk)
        have hk' : (24 : Int) < (k : Int) := by omega
        clear HT2 hk
        go_enter Tryz.func53, Tryz.ntmps53
        go_wp2_with fail
        refine Calls.mono HN.out ?_
        rintro e w1 ⟨rfl, rfl⟩
        go_wp2_with fail
        refine Calls.mono (HR.out _ HB.out) ?_
        rintro e w1 ⟨rfl, hb1⟩
        have HB1 := hid (bt HB.out hb1)
        have k4 : w1.cell? ⟨w.heap.size, 4, none⟩ = some (.slice t k ct) := (HX.out.later hb1 HX.out.lt).cell 4
        clear hb1 k0 k1 k2 k3
        go_wp2_with fail
        go_ret
        exact ⟨ret_int HT3.out.symm, HB1.out⟩
      · have HT3 : Hid (T = 0) := HT2.out.trans (if_neg hk)
        have hk' : ¬ (24 : Int) < (k : Int) := by omega
        clear HT2 hk
        go_enter Tryz.func53, Tryz.ntmps53
        go_wp2_with fail
        refine Calls.mono HN.out ?_
        rintro e w1 ⟨rfl, rfl⟩
        go_wp2_with fail
        refine Calls.mono (HR.out _ HB.out) ?_
        rintro e w1 ⟨rfl, hb1⟩
        have HB1 := hid (bt HB.out hb1)
        have k4 : w1.cell? ⟨w.heap.size, 4, none⟩ = some (.slice t k ct) := (HX.out.later hb1 HX.out.lt).cell 4
        clear hb1 k0 k1 k2 k3
        go_wp2_with fail
        go_ret
        exact ⟨ret_int HT3.out.symm, HB1.out⟩
    · have HT2 := hid (HT.out.trans (fstE_err _ hE))
      have hE' : (E == 0) = false := by simp [hE]
      have hE2 : (E != 0) = true := by simp [hE]
      clear HT
      go_enter Tryz.func53, Tryz.ntmps53
      go_wp2_with fail
      refine Calls.mono HN.out ?_
      rintro e w1 ⟨rfl, rfl⟩
      go_wp2_with fail
      refine Calls.mono (HR.out _ HB.out) ?_
      rintro e w1 ⟨rfl, hb1⟩
      have HB1 := hid (bt HB.out hb1)
      clear hb1 k0 k1 k2 k3
      go_wp2_with fail
      go_ret
      exact ⟨ret_int HT2.out.symm, HB1.out⟩
end Go.Proofs.YtnfemheabikolaaGreatDoor

/- package port: what Check tells of a list of constituents; names as keys of a map; a box that is filled with a constituent. -/
namespace Go.Proofs.YtnfemheabikolaaGreatDoor
open Go.RowKit Go.Maps
set_option linter.unusedVariables false

instance : Inhabited TL := ⟨⟨⟨#[]⟩, 0, 0, false, none, 0, [], none, 0, [], false, none, 0, [], none, 0, []⟩⟩
def tT (ts : List TL) (j : Nat) : TL := ts[j]?.getD default
theorem tT_at {ts : List TL} {j : Nat} (h : j < ts.length) : ts[j]? = some (tT ts j) := by
  unfold tT
  rw [List.getElem?_eq_getElem h]; rfl
theorem tT_mem {ts : List TL} {j : Nat} (h : j < ts.length) : tT ts j ∈ ts := List.mem_of_getElem? (tT_at h)
def MetN (ts : List TL) (i : Nat) : Prop := ∃ k, k < i ∧ (tT ts k).nm = (tT ts i).nm
def MetR (ts : List TL) (i : Nat) : Prop := ∃ k, k < i ∧ (tT ts k).ro = (tT ts i).ro
def TOkTo (ts : List TL) (i : Nat) : Prop := ∀ j, j < i → (tT ts j).chk = 0 ∧ ¬ MetN ts j ∧ ¬ MetR ts j
theorem TOkTo.next {ts : List TL} {i : Nat} (h : TOkTo ts i) (h0 : (tT ts i).chk = 0) (h1 : ¬ MetN ts i) (h2 : ¬ MetR ts i) : TOkTo ts (i + 1) := fun j hj => by
  rcases Nat.lt_or_ge j i with g | g
  · exact h j g
  · obtain rfl : j = i := by omega
    exact ⟨h0, h1, h2⟩
def PCk (ts : List TL) (e at_ : Int) : Prop :=
  (∃ i : Nat, i < ts.length ∧ TOkTo ts i ∧ at_ = i ∧ (((tT ts i).chk ≠ 0 ∧ e = (tT ts i).chk) ∨ ((tT ts i).chk = 0 ∧ (MetN ts i ∨ MetR ts i) ∧ e = 5))) ∨ (TOkTo ts ts.length ∧ e = 0 ∧ at_ = 0)
theorem PCk.one {ts : List TL} {e a e' a' : Int} (h : PCk ts e a) (h' : PCk ts e' a') : e = e' ∧ a = a' := by
  have bad : ∀ (i : Nat) (c : Int), (((tT ts i).chk ≠ 0 ∧ c = (tT ts i).chk) ∨ ((tT ts i).chk = 0 ∧ (MetN ts i ∨ MetR ts i) ∧ c = 5)) → ∀ k, i < k → ¬ TOkTo ts k := by
    intro i c hc k hk hT
    obtain ⟨h0, h1, h2⟩ := hT i hk
    rcases hc with ⟨q, _⟩ | ⟨_, q | q, _⟩
    · exact q h0
    · exact h1 q
    · exact h2 q
  rcases h with ⟨i, hi, hT, rfl, hc⟩ | ⟨hT, rfl, rfl⟩ <;> rcases h' with ⟨j, hj, hT', rfl, hc'⟩ | ⟨hT', rfl, rfl⟩
  · have hij : i = j := by
      rcases Nat.lt_trichotomy i j with g | g | g
      · exact absurd hT' (bad i _ hc j g)
      · exact g
      · exact absurd hT (bad j _ hc' i g)
    subst hij
    refine ⟨?_, rfl⟩
    rcases hc with ⟨q, rfl⟩ | ⟨q, _, rfl⟩ <;> rcases hc' with ⟨q', rfl⟩ | ⟨q', _, rfl⟩
    · rfl
    · exact absurd q' q
    · exact absurd q q'
    · rfl
  · exact absurd hT' (bad i _ hc _ hi)
  · exact absurd hT (bad j _ hc' _ hj)
  · exact ⟨rfl, rfl⟩

theorem nmlaw : Keyed Tryz.prog 9 := string_keyed Tryz.underlying9
theorem nmkey_of {t : TL} (h : t.s.size ≤ maxLen) : keyOf Tryz.prog 9 (.string t.s) = some (.string t.nm) := WideMaps.keyOf_string_mk Tryz.underlying9 h
def nmSet (ts : List TL) (k : Nat) : DataW Unit := setOf (.agg []) ((List.range k).map fun j => Lit.string (tT ts j).nm)
theorem nmSet_zero (ts : List TL) : nmSet ts 0 = .map [] := rfl
theorem nmSet_succ (ts : List TL) (k : Nat) : nmSet ts (k + 1) = (nmSet ts k).put (.string (tT ts k).nm) (.agg []) := by
  unfold nmSet
  rw [List.range_succ, List.map_append]
  exact setOf_snoc _ _ _
theorem nmSet_has (ts : List TL) (k : Nat) : Maps.has (nmSet ts k) (.string (tT ts k).nm) = true ↔ MetN ts k := by
  unfold nmSet
  rw [has_setOf _ _ _ (fun y hy => by obtain ⟨j, _, rfl⟩ := List.mem_map.1 hy; trivial)]
  rw [List.any_eq_true]
  constructor
  · rintro ⟨y, hy, hs⟩
    obtain ⟨j, hj, rfl⟩ := List.mem_map.1 hy
    have e := WideAt.sameKey_eq hs
    injection e with e
    first | exact ⟨j, List.mem_range.1 hj, e⟩ | exact ⟨j, List.mem_range.1 hj, e.symm⟩
  · rintro ⟨j, hj, e⟩
    refine ⟨.string (tT ts j).nm, List.mem_map.2 ⟨j, List.mem_range.2 hj, rfl⟩, ?_⟩
    rw [e]
    exact WideAt.sameKey_self trivial
theorem xO_ro (ts : List TL) (j : Nat) : xO (ts.map TL.ro) j = (tT ts j).ro := by
  unfold xO tT
  rw [List.getElem?_map]
  cases ts[j]? <;> rfl
theorem metR_iff (ts : List TL) (i : Nat) : Met (ts.map TL.ro) i ↔ MetR ts i := by
  unfold Met MetR
  simp only [xO_ro]

theorem tlbox (w : World) (t : TL) : ∃ A0 A1 A2 A3 A4 A5 A6 A7 A8,
    (w.alloc (.cells #[.string ⟨#[]⟩, .int .i32 0, .int .i32 0, .bool false, .slice none 0 0, .slice none 0 0, .bool false, .slice none 0 0, .slice none 0 0] 37)).setCell ⟨w.heap.size, 0, none⟩ (.string t.s) = A0 ∧ A0.setCell ⟨w.heap.size, 1, none⟩ (.int .i32 t.f) = A1 ∧ A1.setCell ⟨w.heap.size, 2, none⟩ (.int .i32 t.r) = A2 ∧ A2.setCell ⟨w.heap.size, 3, none⟩ (.bool t.n) = A3 ∧ A3.setCell ⟨w.heap.size, 4, none⟩ (.slice t.a t.xs.length t.ca) = A4 ∧ A4.setCell ⟨w.heap.size, 5, none⟩ (.slice t.b t.ys.length t.cb) = A5 ∧ A5.setCell ⟨w.heap.size, 6, none⟩ (.bool t.m) = A6 ∧ A6.setCell ⟨w.heap.size, 7, none⟩ (.slice t.c t.us.length t.cc) = A7 ∧ A7.setCell ⟨w.heap.size, 8, none⟩ (.slice t.d t.vs.length t.cd) = A8 ∧
    ((w.alloc (.cells #[.string ⟨#[]⟩, .int .i32 0, .int .i32 0, .bool false, .slice none 0 0, .slice none 0 0, .bool false, .slice none 0 0, .slice none 0 0] 37)).cell? ⟨w.heap.size, 0, none⟩ = some (.string ⟨#[]⟩) ∧ A0.cell? ⟨w.heap.size, 1, none⟩ = some (.int .i32 0) ∧ A1.cell? ⟨w.heap.size, 2, none⟩ = some (.int .i32 0) ∧ A2.cell? ⟨w.heap.size, 3, none⟩ = some (.bool false) ∧ A3.cell? ⟨w.heap.size, 4, none⟩ = some (.slice none 0 0) ∧ A4.cell? ⟨w.heap.size, 5, none⟩ = some (.slice none 0 0) ∧ A5.cell? ⟨w.heap.size, 6, none⟩ = some (.bool false) ∧ A6.cell? ⟨w.heap.size, 7, none⟩ = some (.slice none 0 0) ∧ A7.cell? ⟨w.heap.size, 8, none⟩ = some (.slice none 0 0)) ∧
    ((w.alloc (.cells #[.string ⟨#[]⟩, .int .i32 0, .int .i32 0, .bool false, .slice none 0 0, .slice none 0 0, .bool false, .slice none 0 0, .slice none 0 0] 37)).frozen? ⟨w.heap.size, 0, none⟩ = false ∧ A0.frozen? ⟨w.heap.size, 1, none⟩ = false ∧ A1.frozen? ⟨w.heap.size, 2, none⟩ = false ∧ A2.frozen? ⟨w.heap.size, 3, none⟩ = false ∧ A3.frozen? ⟨w.heap.size, 4, none⟩ = false ∧ A4.frozen? ⟨w.heap.size, 5, none⟩ = false ∧ A5.frozen? ⟨w.heap.size, 6, none⟩ = false ∧ A6.frozen? ⟨w.heap.size, 7, none⟩ = false ∧ A7.frozen? ⟨w.heap.size, 8, none⟩ = false) ∧
    Hid (Box A8 w.heap.size 37 t.cells ∧ Below w.heap.size w A8) := by
  have hB := Box.made w 37 #[.string ⟨#[]⟩, .int .i32 0, .int .i32 0, .bool false, .slice none 0 0, .slice none 0 0, .bool false, .slice none 0 0, .slice none 0 0]
  obtain ⟨A0, A1, A2, A3, A4, A5, A6, A7, A8, e0, e1, e2, e3, e4, e5, e6, e7, e8, hk, hf⟩ := tchain9 hB (.string t.s) (.int .i32 t.f) (.int .i32 t.r) (.bool t.n) (.slice t.a t.xs.length t.ca) (.slice t.b t.ys.length t.cb) (.bool t.m) (.slice t.c t.us.length t.cc) (.slice t.d t.vs.length t.cd)
  refine ⟨A0, A1, A2, A3, A4, A5, A6, A7, A8, e0, e1, e2, e3, e4, e5, e6, e7, e8, hk, hf, ?_⟩
  clear hk hf
  subst e0 e1 e2 e3 e4 e5 e6 e7 e8
  exact ⟨box_put9 hB _ _ _ _ _ _ _ _ _, below_put9 (alloc_later w _) w.heap.size (Nat.le_refl _) _ _ _ _ _ _ _ _ _⟩
end Go.Proofs.YtnfemheabikolaaGreatDoor

/- package port: Check, of every port that can be read. -/
namespace Go.Proofs.YtnfemheabikolaaGreatDoor
open Go.RowKit Go.Maps
set_option linter.unusedVariables false
set_option linter.unusedSimpArgs false

def PChk (h : Int) (ts : List TL) (e at_ : Int) : Prop := (h ≠ 0 ∧ e = h ∧ at_ = -1) ∨ (h = 0 ∧ PCk ts e at_)
theorem qbox_gby {w w' : World} {o : Option Nat} {b t : Nat} {vs : Array Value} (h : Box w b t vs) (hg : w.grownBy w' o) (ha : o ≠ some b) : Box w' b t vs := (hg.block b h.lt (fun q => ha q.symm)).trans h
structure PIn (w wr : World) (K : Int × Int → Lit) (ts : List TL) (p q g i : Nat) : Prop where
  nm : wr.ownsMap Tryz.prog 9 (unitElem (H := Unit)) p i (nmSet ts i)
  ro : wr.ownsMap Tryz.prog 33 (unitElem (H := Unit)) q i (roSet K (ts.map TL.ro) i)
  box : Box wr g 40 #[.int .i64 0, .int .i64 0]
  bel : Below w.heap.size w wr
  ord : w.heap.size < g ∧ g < p ∧ p < q
theorem PIn.later {w wr wr' : World} {K : Int × Int → Lit} {ts : List TL} {p q g i : Nat} (h : PIn w wr K ts p q g i) (hb : Below wr.heap.size wr wr') : PIn w wr' K ts p q g i := by
  refine ⟨?_, roMap_later h.ro hb, h.box.later hb h.box.lt, bt h.bel hb, h.ord⟩
  obtain ⟨es, clock, h1, F, hs, hD⟩ := h.nm
  exact ⟨es, clock, (hb.block _ h.nm.lt).trans h1, F, hs, hD⟩
theorem PIn.put {w wr : World} {K : Int × Int → Lit} {ts : List TL} {p q g i : Nat} (h : PIn w wr K ts p q g i) (hi : i < 1000) {s : ByteArray} {rv : Value} (hk : keyOf Tryz.prog 9 (.string s) = some (.string (tT ts i).nm)) (hr : keyOf Tryz.prog 33 rv = some (K (xO (ts.map TL.ro) i))) :
    ∃ W4 W5, (Instr.mapUpdate 80 (.map (some p)) (.string s) (.agg #[])).run Tryz.prog wr = .ok () W4 ∧ (Instr.mapUpdate 81 (.map (some q)) rv (.agg #[])).run Tryz.prog W4 = .ok () W5 ∧ wr.grownBy W4 (some p) ∧ W4.grownBy W5 (some q) ∧ PIn w W5 K ts p q g (i + 1) := by
  obtain ⟨W4, u4, o4, g4⟩ := h.nm.update nmlaw Tryz.underlying80 (by unfold maxLen; omega) hk unitElem_mk
  have r4 := h.ro.kept g4 (fun e => by injection e with e; have := h.ord; omega)
  obtain ⟨W5, u5, o5, g5⟩ := r4.update rolaw Tryz.underlying81 (by unfold maxLen; omega) hr unitElem_mk
  refine ⟨W4, W5, u4, u5, g4, g5, ?_, ?_, ?_, ?_, h.ord⟩
  · have := o4.kept g5 (fun e => by injection e with e; have := h.ord; omega)
    rw [← nmSet_succ] at this
    exact this
  · rw [← roSet_succ] at o5
    exact o5
  · exact qbox_gby (qbox_gby h.box g4 (fun e => by injection e with e; have := h.ord; omega)) g5 (fun e => by injection e with e; have := h.ord; omega)
  · exact (h.bel.grown g4 h.bel.size (fun k e => by cases e; have := h.ord; omega)).grown g5 (Nat.le_trans h.bel.size g4.size) (fun k e => by cases e; have := h.ord; omega)
theorem PIn.lookN {w wr : World} {K : Int × Int → Lit} {ts : List TL} {p q g i : Nat} (h : PIn w wr K ts p q g i) {s : ByteArray} {l : List UInt8} (hk : keyOf Tryz.prog 9 (.string s) = some (.string l)) :
    (Instr.lookup 80 (.map (some p)) (.string s) true).run Tryz.prog wr = .ok (.tuple #[.agg #[], .bool (Maps.has (nmSet ts i) (.string l))]) wr := by
  obtain ⟨v, ps, hr, hv⟩ := h.nm.look_ok nmlaw Tryz.underlying80 (rozero wr) (zd := .agg []) (zp := []) unitElem_mk hk
  obtain ⟨rfl, _⟩ := unitElem_inv hv
  exact hr
theorem PIn.lookR {w wr : World} {K : Int × Int → Lit} {ts : List TL} {p q g i : Nat} (h : PIn w wr K ts p q g i) {rv : Value} {kr : Lit} (hk : keyOf Tryz.prog 33 rv = some kr) :
    (Instr.lookup 81 (.map (some q)) rv true).run Tryz.prog wr = .ok (.tuple #[.agg #[], .bool (Maps.has (roSet K (ts.map TL.ro) i) kr)]) wr := by
  obtain ⟨v, ps, hr, hv⟩ := h.ro.look_ok rolaw Tryz.underlying81 (rozero wr) (zd := .agg []) (zp := []) unitElem_mk hk
  obtain ⟨rfl, _⟩ := unitElem_inv hv
  exact hr
set_option maxHeartbeats 6400000 in
set_option maxRecDepth 100000 in
theorem pCheck_any (s : ByteArray) (n : Bool) (a : Option Addr) (ca : Nat) (xs : List Int) (b : Option Addr) (cb : Nat) (ys : List Int) (t : Option Addr) (ct : Nat) (ts : List TL) (w : World) (hz : s.size ≤ maxLen) (sx : Sl w (.slice a xs.length ca) xs) (sy : Sl w (.slice b ys.length cb) ys) (ht : RdT w t ts) :
    Calls Tryz.prog 12 #[.agg #[.string s, .bool n, .slice a xs.length ca, .slice b ys.length cb, .slice t ts.length ct]] w fun e w' => ∃ c p, e = .returned (.agg #[.int .i64 c, .int .i64 p]) ∧ PChk (phd s.data.toList (rchk n xs ys) ts.length) ts c p ∧ Below w.heap.size w w' := by
  have HX := hid (Box.made w 27 #[.string s, .bool n, .slice a xs.length ca, .slice b ys.length cb, .slice t ts.length ct])
  have HB := hid (alloc_later w (.cells #[.string s, .bool n, .slice a xs.length ca, .slice b ys.length cb, .slice t ts.length ct] 27))
  obtain ⟨X, hX⟩ : ∃ X, w.alloc (.cells #[.string s, .bool n, .slice a xs.length ca, .slice b ys.length cb, .slice t ts.length ct] 27) = X := ⟨_, rfl⟩
  rw [hX] at HX HB
  have HY := hid (HX.out.later (alloc_later X (.cells #[.int .i64 0, .int .i64 0] 40)) HX.out.lt)
  have HF := hid (Box.made X 40 #[.int .i64 0, .int .i64 0])
  have HBY := hid (bt HB.out (alloc_later X (.cells #[.int .i64 0, .int .i64 0] 40)))
  obtain ⟨Y, hY⟩ : ∃ Y, X.alloc (.cells #[.int .i64 0, .int .i64 0] 40) = Y := ⟨_, rfl⟩
  rw [hY] at HY HF HBY
  have HXS : Hid (w.heap.size < X.heap.size) := HX.out.lt
  obtain ⟨g, hg⟩ : ∃ g, X.heap.size = g := ⟨_, rfl⟩
  rw [hg] at HF HXS
  have HH := hid (pHead_any s n a ca xs b cb ys t ts.length ct Y hz (sx.later HBY.out) (sy.later HBY.out))
  have HTS : Hid (∀ V, Below w.heap.size w V → RdT V t ts) := fun V hV => ht.later hV
  obtain ⟨E, hE⟩ : ∃ E, phd s.data.toList (rchk n xs ys) ts.length = E := ⟨_, rfl⟩
  rw [hE] at HH ⊢
  have h24 : Hid (E = 0 → ts.length ≤ 24) := fun h0 => by
    rw [← hE] at h0
    unfold phd at h0
    split at h0
    · unfold fstE at h0
      split at h0
      · split at h0
        · omega
        · omega
      · rename_i q; exact absurd h0 q
    · omega
  clear hE sx sy ht
  obtain ⟨K, hK⟩ := ro_keys
  obtain ⟨N, hN⟩ : ∃ N, ts.length = N := ⟨_, rfl⟩
  have HLN := hid hN
  rw [hN] at h24 HX hX HY HH
  rw [hN]
  clear hN
  have hmm := @run_makeMap Tryz.prog
  have k0 : Y.cell? ⟨w.heap.size, 0, none⟩ = some (.string s) := HY.out.cell 0
  have k1 : Y.cell? ⟨w.heap.size, 1, none⟩ = some (.bool n) := HY.out.cell 1
  have k2 : Y.cell? ⟨w.heap.size, 2, none⟩ = some (.slice a xs.length ca) := HY.out.cell 2
  have k3 : Y.cell? ⟨w.heap.size, 3, none⟩ = some (.slice b ys.length cb) := HY.out.cell 3
  have k4 : Y.cell? ⟨w.heap.size, 4, none⟩ = some (.slice t N ct) := HY.out.cell 4
  by_cases h0 : E = 0
  · have h24' := h24.out h0
    subst h0
    clear h24
    go_enter Tryz.func12, Tryz.ntmps12
    go_wp2_with fail
    refine Calls.mono HH.out ?_
    rintro e w1 ⟨rfl, hb1⟩
    have HB1 := hid (bt HBY.out hb1)
    have HX1 := hid (HY.out.later hb1 HY.out.lt)
    have HF1 := hid (HF.out.later hb1 HF.out.lt)
    have f0 : w1.cell? ⟨g, 0, none⟩ = some (.int .i64 0) := HF1.out.cell 0
    have f1 : w1.cell? ⟨g, 1, none⟩ = some (.int .i64 0) := HF1.out.cell 1
    have k4 : w1.cell? ⟨w.heap.size, 4, none⟩ = some (.slice t N ct) := HX1.out.cell 4
    clear hb1 k0 k1 k2 k3 HH HX HB HY HF
    obtain ⟨V1, hV1⟩ : ∃ V1, w1.alloc (.map #[] 0) = V1 := ⟨_, rfl⟩
    obtain ⟨W2, hW2⟩ : ∃ W2, V1.alloc (.map #[] 0) = W2 := ⟨_, rfl⟩
    have HP0 : Hid (PIn w W2 K ts w1.heap.size V1.heap.size g 0) := by
      subst hW2 hV1
      refine ⟨?_, ?_, HF1.out.later (bt (alloc_later _ _) (alloc_later _ _)) HF1.out.lt, bt HB1.out (bt (alloc_later _ _) (alloc_later _ _)), HXS.out, HF1.out.lt, by simp⟩
      · rw [nmSet_zero]; exact (World.ownsMap_made _ _ _ _).alloc _
      · rw [roSet_zero]; exact World.ownsMap_made _ _ _ _
    have k4 : W2.cell? ⟨w.heap.size, 4, none⟩ = some (.slice t N ct) := by
      subst hW2 hV1
      exact (HX1.out.later (bt (alloc_later _ _) (alloc_later _ _)) HX1.out.lt : Box _ _ _ _).cell 4
    clear HX1 HF1 HB1 f0 f1 HXS hX hY HBY
    go_wp2_with fail
    generalize w1.heap.size = p at *
    generalize V1.heap.size = q at *
    clear hV1 hW2 k4
    go_loopw [24] (fun x wr => ∃ i : Nat, x = .int .i64 (i : Int) ∧ i ≤ N ∧ Hid (TOkTo ts i) ∧ Hid (PIn w wr K ts p q g i)) (fun x _ => N - (intOf x).toNat)
    case atStart => exact ⟨0, rfl, by omega, (fun j hj => by omega : ∀ j, j < 0 → _), HP0⟩
    case round =>
      obtain ⟨i, rfl, hi, HO, HP⟩ := hrel
      by_cases hin : i < N
      · have hil : i < ts.length := by rw [HLN.out]; exact hin
        have HT := hid (HTS.out _ HP.out.bel)
        rcases HT.out.2 with e | ⟨bb, o, rfl, hbb, hc⟩
        · rw [e] at hil; exact absurd hil (by simp)
        have HCi : Hid (∀ V, Below w.heap.size w V → Calls Tryz.prog 49 #[.agg (tT ts i).cells] V fun e w' => e = .returned (.int .i64 (tT ts i).chk) ∧ Below V.heap.size V w') := fun V hV => tlcheck_any _ V ((HTS.out V hV).1 _ (tT_mem hil))
        have hci := hc i _ (tT_at hil)
        have e0 := hci 0 (by decide)
        have e1 := hci 1 (by decide)
        have e2 := hci 2 (by decide)
        have e3 := hci 3 (by decide)
        have e4 := hci 4 (by decide)
        have e5 := hci 5 (by decide)
        have e6 := hci 6 (by decide)
        have e7 := hci 7 (by decide)
        have e8 := hci 8 (by decide)
        have HNX := hid (HO.out.next (ts := ts) (i := i))
        have HP1 : Hid ((tT ts i).chk ≠ 0 → PCk ts (tT ts i).chk i) := fun h => .inl ⟨i, hil, HO.out, rfl, .inl ⟨h, rfl⟩⟩
        have HP2 : Hid ((tT ts i).chk = 0 → MetN ts i ∨ MetR ts i → PCk ts 5 i) := fun h g => .inl ⟨i, hil, HO.out, rfl, .inr ⟨h, g, rfl⟩⟩
        have h32 : in32 (tT ts i).f (tT ts i).r := (HT.out.1 _ (tT_mem hil)).rot
        have HNK : Hid (keyOf Tryz.prog 9 (.string (tT ts i).s) = some (.string (tT ts i).nm)) := nmkey_of (HT.out.1 _ (tT_mem hil)).size
        have HRK : Hid (keyOf Tryz.prog 33 (.agg #[.int .i32 (tT ts i).f, .int .i32 (tT ts i).r]) = some (K (xO (ts.map TL.ro) i))) := by rw [xO_ro]; exact hK.1 (tT ts i).ro h32
        have HNH := hid (nmSet_has ts i)
        have HRH : Hid (Maps.has (roSet K (ts.map TL.ro) i) (K (xO (ts.map TL.ro) i)) = true ↔ MetR ts i) := by
          show _
          rw [← metR_iff]
          by_cases hall : ∀ j, in32 (xO (ts.map TL.ro) j).1 (xO (ts.map TL.ro) j).2
          · exact roSet_has hK _ hall i
          · refine absurd (fun j => ?_) hall
            rw [xO_ro]
            by_cases hj : j < ts.length
            · exact (HT.out.1 _ (tT_mem hj)).rot
            · have : tT ts j = default := by unfold tT; rw [List.getElem?_eq_none (by omega)]; rfl
              rw [this]
              exact (by unfold in32; decide : in32 0 0)
        have HPUT : Hid (∀ wr', PIn w wr' K ts p q g i → ∃ W4 W5, (Instr.mapUpdate 80 (.map (some p)) (.string (tT ts i).s) (.agg #[])).run Tryz.prog wr' = .ok () W4 ∧ (Instr.mapUpdate 81 (.map (some q)) (.agg #[.int .i32 (tT ts i).f, .int .i32 (tT ts i).r]) (.agg #[])).run Tryz.prog W4 = .ok () W5 ∧ wr'.grownBy W4 (some p) ∧ W4.grownBy W5 (some q) ∧ PIn w W5 K ts p q g (i + 1)) := fun wr' h => h.put (by omega) HNK.out HRK.out
        clear HT hc hci h32
        generalize tT ts i = tt at *
        generalize K (xO (ts.map TL.ro) i) = kr at *
        have c0 : wr.cell? ⟨bb, o + i * 9, none⟩ = some (.string tt.s) := e0
        have c1 : wr.cell? ⟨bb, o + i * 9 + 1, none⟩ = some (.int .i32 tt.f) := e1
        have c2 : wr.cell? ⟨bb, o + i * 9 + 2, none⟩ = some (.int .i32 tt.r) := e2
        have c3 : wr.cell? ⟨bb, o + i * 9 + 3, none⟩ = some (.bool tt.n) := e3
        have c4 : wr.cell? ⟨bb, o + i * 9 + 4, none⟩ = some (.slice tt.a tt.xs.length tt.ca) := e4
        have c5 : wr.cell? ⟨bb, o + i * 9 + 5, none⟩ = some (.slice tt.b tt.ys.length tt.cb) := e5
        have c6 : wr.cell? ⟨bb, o + i * 9 + 6, none⟩ = some (.bool tt.m) := e6
        have c7 : wr.cell? ⟨bb, o + i * 9 + 7, none⟩ = some (.slice tt.c tt.us.length tt.cc) := e7
        have c8 : wr.cell? ⟨bb, o + i * 9 + 8, none⟩ = some (.slice tt.d tt.vs.length tt.cd) := e8
        clear e0 e1 e2 e3 e4 e5 e6 e7 e8
        obtain ⟨A0, A1, A2, A3, A4, A5, A6, A7, A8, q0, q1, q2, q3, q4, q5, q6, q7, q8, ⟨r0, r1, r2, r3, r4, r5, r6, r7, r8⟩, ⟨f0, f1, f2, f3, f4, f5, f6, f7, f8⟩, HA⟩ := tlbox wr tt
        have HPA := hid (HP.out.later HA.out.2)
        have HD := hid (HCi.out A8 HPA.out.bel)
        have HXA := hid HA.out.1
        have m0 : A8.cell? ⟨wr.heap.size, 0, none⟩ = some (.string tt.s) := HXA.out.cell 0
        have m1 : A8.cell? ⟨wr.heap.size, 1, none⟩ = some (.int .i32 tt.f) := HXA.out.cell 1
        have m2 : A8.cell? ⟨wr.heap.size, 2, none⟩ = some (.int .i32 tt.r) := HXA.out.cell 2
        have m3 : A8.cell? ⟨wr.heap.size, 3, none⟩ = some (.bool tt.n) := HXA.out.cell 3
        have m4 : A8.cell? ⟨wr.heap.size, 4, none⟩ = some (.slice tt.a tt.xs.length tt.ca) := HXA.out.cell 4
        have m5 : A8.cell? ⟨wr.heap.size, 5, none⟩ = some (.slice tt.b tt.ys.length tt.cb) := HXA.out.cell 5
        have m6 : A8.cell? ⟨wr.heap.size, 6, none⟩ = some (.bool tt.m) := HXA.out.cell 6
        have m7 : A8.cell? ⟨wr.heap.size, 7, none⟩ = some (.slice tt.c tt.us.length tt.cc) := HXA.out.cell 7
        have m8 : A8.cell? ⟨wr.heap.size, 8, none⟩ = some (.slice tt.d tt.vs.length tt.cd) := HXA.out.cell 8
        have hi0 : (0 : Int) ≤ (i : Int) := by omega
        have hi1 : (i : Int) < (N : Int) := by omega
        have hqb : q < wr.heap.size := HP.out.ro.lt
        clear HCi HP HA hbb
        go_wp2_with fail
        clear q0 q1 q2 q3 q4 q5 q6 q7 q8 r0 r1 r2 r3 r4 r5 r6 r7 r8 f0 f1 f2 f3 f4 f5 f6 f7 f8 m0 m1 m2 m3 m4 m5 m6 m7 m8 c0 c1 c2 c3 c4 c5 c6 c7 c8
        refine Calls.mono HD.out ?_
        rintro e w3 ⟨rfl, hb3⟩
        have HP3 := hid (HPA.out.later hb3)
        have HX3 := hid (HXA.out.later hb3 HXA.out.lt)
        clear HD hb3 HPA HXA
        generalize wr.heap.size = bx at *
        generalize hE : tt.chk = E at *
        by_cases hE0 : E = 0
        · subst hE0
          obtain ⟨C1, hC1⟩ : ∃ C1, w3.alloc (.cells #[] 82) = C1 := ⟨_, rfl⟩
          obtain ⟨C2, hC2⟩ : ∃ C2, C1.alloc (.cells #[] 82) = C2 := ⟨_, rfl⟩
          have HX4 : Hid (Box C1 bx 37 tt.cells) := by subst hC1; exact HX3.out.later (alloc_later _ _) HX3.out.lt
          have HP4 : Hid (PIn w C1 K ts p q g i) := by subst hC1; exact HP3.out.later (alloc_later _ _)
          have HX5 : Hid (Box C2 bx 37 tt.cells) := by subst hC2; exact HX4.out.later (alloc_later _ _) HX4.out.lt
          have HP5 : Hid (PIn w C2 K ts p q g i) := by subst hC2; exact HP4.out.later (alloc_later _ _)
          have m0 : w3.cell? ⟨bx, 0, none⟩ = some (.string tt.s) := HX3.out.cell 0
          have n1 : C1.cell? ⟨bx, 1, none⟩ = some (.int .i32 tt.f) := HX4.out.cell 1
          have n2 : C1.cell? ⟨bx, 2, none⟩ = some (.int .i32 tt.r) := HX4.out.cell 2
          have l0 := HP3.out.lookN HNK.out
          have l1 := HP4.out.lookR HRK.out
          have hbn := hid HNH.out
          have hbr := hid HRH.out
          generalize Maps.has (nmSet ts i) (.string tt.nm) = bn at *
          generalize Maps.has (roSet K (ts.map TL.ro) i) kr = br at *
          cases bn with
          | true =>
            have HR : Hid (PCk ts 5 i) := HP2.out rfl (.inl (hbn.out.1 rfl))
            obtain ⟨A0, A1, q0, q1, ⟨r0, r1⟩, ⟨v0, v1⟩, HA⟩ := rchain2 HP5.out.box (by decide) (.int .i64 5) (.int .i64 (i : Int))
            have HBA := hid (HA.out.2.2.2.1 _ _ (Nat.le_of_lt HP5.out.ord.1) HP5.out.bel)
            have y0 : A1.cell? ⟨g, 0, none⟩ = some (.int .i64 5) := HA.out.1.cell 0
            have y1 : A1.cell? ⟨g, 1, none⟩ = some (.int .i64 (i : Int)) := HA.out.1.cell 1
            clear HP1 HP2 HNX HNH HRH HPUT HA HX3 HX4 HX5 HP3 HP4 HP5 HNK HRK hbn hbr
            go_wp2_with fail
            (try simp only [Exit.inBlock, Exit.then])
            refine bodyPost_ret (by simp [results, Tryz.results12, go_sem, y0, y1]; try rfl) rfl ?_
            exact ⟨_, _, rfl, .inr ⟨rfl, HR.out⟩, HBA.out⟩
          | false =>
           cases br with
           | true =>
            have HR : Hid (PCk ts 5 i) := HP2.out rfl (.inr (hbr.out.1 rfl))
            obtain ⟨A0, A1, q0, q1, ⟨r0, r1⟩, ⟨v0, v1⟩, HA⟩ := rchain2 HP5.out.box (by decide) (.int .i64 5) (.int .i64 (i : Int))
            have HBA := hid (HA.out.2.2.2.1 _ _ (Nat.le_of_lt HP5.out.ord.1) HP5.out.bel)
            have y0 : A1.cell? ⟨g, 0, none⟩ = some (.int .i64 5) := HA.out.1.cell 0
            have y1 : A1.cell? ⟨g, 1, none⟩ = some (.int .i64 (i : Int)) := HA.out.1.cell 1
            clear HP1 HP2 HNX HNH HRH HPUT HA HX3 HX4 HX5 HP3 HP4 HP5 HNK HRK hbn hbr
            go_wp2_with fail
            (try simp only [Exit.inBlock, Exit.then])
            refine bodyPost_ret (by simp [results, Tryz.results12, go_sem, y0, y1]; try rfl) rfl ?_
            exact ⟨_, _, rfl, .inr ⟨rfl, HR.out⟩, HBA.out⟩
           | false =>
            have hN1 : ¬ MetN ts i := fun h => by have := hbn.out.2 h; cases this
            have hR1 : ¬ MetR ts i := fun h => by have := hbr.out.2 h; cases this
            have HO1 := hid (HNX.out rfl hN1 hR1)
            have HPD : Hid (PIn w C2.drew K ts p q g i) := ⟨HP5.out.nm, HP5.out.ro, HP5.out.box, Below.drew HP5.out.bel, HP5.out.ord⟩
            obtain ⟨W4, W5, u4, u5, g4, g5, hp6⟩ := HPUT.out _ HPD.out
            have HP6 := hid hp6
            have HX6 : Hid (Box C2.drew bx 37 tt.cells) := HX5.out
            have hpq := HP5.out.ord
            have B4 : Box W4 bx 37 tt.cells := qbox_gby HX6.out g4 (fun e => by injection e with e; omega)
            have B5 : Box W5 bx 37 tt.cells := qbox_gby B4 g5 (fun e => by injection e with e; omega)
            have hs0 : C2.drew.cell? ⟨bx, 0, none⟩ = some (.string tt.s) ∧ C2.drew.cell? ⟨bx, 1, none⟩ = some (.int .i32 tt.f) ∧ C2.drew.cell? ⟨bx, 2, none⟩ = some (.int .i32 tt.r) := ⟨HX6.out.cell 0, HX6.out.cell 1, HX6.out.cell 2⟩
            have hs4 : W4.cell? ⟨bx, 0, none⟩ = some (.string tt.s) ∧ W4.cell? ⟨bx, 1, none⟩ = some (.int .i32 tt.f) ∧ W4.cell? ⟨bx, 2, none⟩ = some (.int .i32 tt.r) := ⟨B4.cell 0, B4.cell 1, B4.cell 2⟩
            have hs5 : W5.cell? ⟨bx, 0, none⟩ = some (.string tt.s) ∧ W5.cell? ⟨bx, 1, none⟩ = some (.int .i32 tt.f) ∧ W5.cell? ⟨bx, 2, none⟩ = some (.int .i32 tt.r) := ⟨B5.cell 0, B5.cell 1, B5.cell 2⟩
            clear HP1 HP2 HNX HNH HRH HPUT HX3 HX4 HX5 HX6 HP3 HP4 HP5 HNK HRK hbn hbr HPD hp6 B4 B5 g4 g5 hpq hN1 hR1
            go_wp2_with fail
            go_region_held3 (fun V : World => V.cell? ⟨bx, 0, none⟩ = some (.string tt.s) ∧ V.cell? ⟨bx, 1, none⟩ = some (.int .i32 tt.f) ∧ V.cell? ⟨bx, 2, none⟩ = some (.int .i32 tt.r)) (first | exact hs0 | exact hs4 | exact hs5 | go_keep) (fail)
            all_goals (
              clear hs0 hs4 hs5 u4 u5 l0 l1
              go_wp2_with fail
              go_roundw
              case rel => exact ⟨i + 1, by go_num, by omega, HO1, HP6⟩
              case measure => simp [intOf]; omega)
        · have h0' : (E == 0) = false := by simp [hE0]
          have h0'' : (E != 0) = true := by simp [hE0]
          obtain ⟨A0, A1, q0, q1, ⟨r0, r1⟩, ⟨v0, v1⟩, HA⟩ := rchain2 HP3.out.box (by decide) (.int .i64 E) (.int .i64 (i : Int))
          have HBA := hid (HA.out.2.2.2.1 _ _ (Nat.le_of_lt HP3.out.ord.1) HP3.out.bel)
          have y0 : A1.cell? ⟨g, 0, none⟩ = some (.int .i64 E) := HA.out.1.cell 0
          have y1 : A1.cell? ⟨g, 1, none⟩ = some (.int .i64 (i : Int)) := HA.out.1.cell 1
          have HR := hid (HP1.out hE0)
          clear HP1 HP2 HNX HNK HRK HNH HRH HPUT HA HX3 HP3
          go_wp2_with fail
          (try simp only [Exit.inBlock, Exit.then])
          refine bodyPost_ret (by simp [results, Tryz.results12, go_sem, y0, y1]; try rfl) rfl ?_
          exact ⟨_, _, rfl, .inr ⟨rfl, HR.out⟩, HBA.out⟩
      · obtain rfl : i = N := by omega
        have hi1 : ¬ (i : Int) < (i : Int) := by omega
        obtain ⟨A0, A1, q0, q1, ⟨r0, r1⟩, ⟨v0, v1⟩, HA⟩ := rchain2 HP.out.box (by decide) (.int .i64 0) (.int .i64 0)
        have HBA := hid (HA.out.2.2.2.1 _ _ (Nat.le_of_lt HP.out.ord.1) HP.out.bel)
        have y0 : A1.cell? ⟨g, 0, none⟩ = some (.int .i64 0) := HA.out.1.cell 0
        have y1 : A1.cell? ⟨g, 1, none⟩ = some (.int .i64 0) := HA.out.1.cell 1
        have HR : Hid (PCk ts 0 0) := .inr ⟨by rw [HLN.out]; exact HO.out, rfl, rfl⟩
        clear HA HP HO
        go_wp2_with fail
        (try simp only [Exit.inBlock, Exit.then])
        refine bodyPost_ret (by simp [results, Tryz.results12, go_sem, y0, y1]; try rfl) rfl ?_
        exact ⟨_, _, rfl, .inr ⟨rfl, HR.out⟩, HBA.out⟩
  · have h0' : (E == 0) = false := by simp [h0]
    have h0'' : (E != 0) = true := by simp [h0]
    clear h24
    go_enter Tryz.func12, Tryz.ntmps12
    go_wp2_with fail
    refine Calls.mono HH.out ?_
    rintro e w1 ⟨rfl, hb1⟩
    have HB1 := hid (bt HBY.out hb1)
    have HF1 := hid (HF.out.later hb1 HF.out.lt)
    clear hb1 k0 k1 k2 k3 k4
    obtain ⟨A0, A1, q0, q1, ⟨r0, r1⟩, ⟨v0, v1⟩, HA⟩ := rchain2 HF1.out (by decide) (.int .i64 E) (.int .i64 (-1))
    have HBA := hid (HA.out.2.2.2.1 _ _ (Nat.le_of_lt HXS.out) HB1.out)
    have f0 : A1.cell? ⟨g, 0, none⟩ = some (.int .i64 E) := HA.out.1.cell 0
    have f1 : A1.cell? ⟨g, 1, none⟩ = some (.int .i64 (-1)) := HA.out.1.cell 1
    go_wp2_with fail
    (try simp only [Exit.inBlock, Exit.then])
    refine bodyPost_ret (by simp [results, Tryz.results12, go_sem, f0, f1]; try rfl) rfl ?_
    exact ⟨E, -1, rfl, .inl ⟨h0, rfl, rfl⟩, HBA.out⟩
end Go.Proofs.YtnfemheabikolaaGreatDoor

/- A list of constituents, a port, that came in is read. -/
namespace Go.Proofs.YtnfemheabikolaaGreatDoor
open Go.RowKit Go.ChangeShapes Go.WideShapes Go.ChangeAt Go.Joins Go.Deep
set_option linter.unusedVariables false

theorem inrow_sl {w : World} {a : Option Addr} {len cap : Nat} {zs : List Int} (h : InRow w a len cap zs) : ∃ xs, len = xs.length ∧ Sl w (.slice a xs.length cap) xs := by
  have h1 := reads_of_row h
  have e := h1.1
  refine ⟨zs.take len, e.symm, ?_⟩
  rw [e]
  exact ⟨a, cap, by rw [e], by rw [e]; exact h1⟩
theorem in32_of_wf {f g : Int} (h : (Lit.int .i32 f).wf = true ∧ (Lit.int .i32 g).wf = true) : in32 f g := by
  have h1 : IntKind.i32.min = -2147483648 := rfl
  have h2 : IntKind.i32.max = 2147483647 := rfl
  obtain ⟨a, b⟩ := h
  simp [Lit.wf, Bool.and_eq_true] at a b
  unfold in32
  omega
set_option maxHeartbeats 800000 in
set_option maxRecDepth 100000 in
theorem tl_of_trod {H : Type} {enc : TypeId × Value → H} {w : World} {held : Bool} {n : Nat} {c0 c1 c2 c3 c4 c5 c6 c7 c8 : Value} {x : DataW H × List MemPlace} (hf : DataW.trod enc Tryz.prog w 0 (fun _ => true) held n 37 [c0, c1, c2, c3, c4, c5, c6, c7, c8] = some x) :
    ∃ t : TL, #[c0, c1, c2, c3, c4, c5, c6, c7, c8] = t.cells ∧ t.ok w := by
  obtain ⟨y0, y1, y2, m, _, _, t0, t1, t2⟩ := trod_struct3 Tryz.underlying37 hf
  have k0 : Tryz.prog.cellsOf 9 = 1 := by kernel_rfl
  have k1 : Tryz.prog.cellsOf 33 = 2 := by kernel_rfl
  have k2 : Tryz.prog.cellsOf 35 = 6 := by kernel_rfl
  have k3 : Tryz.prog.cellsOf 21 = 1 := by kernel_rfl
  simp [k0] at t0
  simp [k1] at t1
  simp [k2] at t2
  obtain ⟨s, hs, _, hm⟩ := DataW.trod_string Tryz.underlying9 t0
  obtain ⟨z0, z1, m', _, _, q0, q1⟩ := trod_struct2 Tryz.underlying33 t1
  simp [k3] at q0 q1
  obtain ⟨f, hf0, _, wf⟩ := DataW.trod_int Tryz.underlying21 q0
  obtain ⟨g, hg0, _, wg⟩ := DataW.trod_int Tryz.underlying21 q1
  simp at hs hf0 hg0
  obtain ⟨⟨n, a, len, cap, zs, b, lem, cbp, ys, e1, e2, e3, r1, r2⟩, m2, c, lec, cac, us, e, lee, cae, vs, e4, e5, e6, r3, r4⟩ := in_gauss t2
  obtain ⟨xs', rfl, s1⟩ := inrow_sl r1
  obtain ⟨ys', rfl, s2⟩ := inrow_sl r2
  obtain ⟨us', rfl, s3⟩ := inrow_sl r3
  obtain ⟨vs', rfl, s4⟩ := inrow_sl r4
  exact ⟨⟨s, f, g, n, a, cap, xs', b, cbp, ys', m2, c, cac, us', e, cae, vs'⟩, by rw [hs, hf0, hg0, e1, e2, e3, e4, e5, e6]; rfl, hm, in32_of_wf ⟨wf, wg⟩, s1, s2, s3, s4⟩
theorem list9 {l : List Value} (h : l.length = 9) : ∃ c0 c1 c2 c3 c4 c5 c6 c7 c8, l = [c0, c1, c2, c3, c4, c5, c6, c7, c8] := by
  match l, h with
  | [c0, c1, c2, c3, c4, c5, c6, c7, c8], _ => exact ⟨c0, c1, c2, c3, c4, c5, c6, c7, c8, rfl⟩
set_option maxHeartbeats 800000 in
set_option maxRecDepth 100000 in
theorem tides_of_trod {H : Type} {enc : TypeId × Value → H} {w : World} {held : Bool} {n : Nat} {v : Value} {x : DataW H × List MemPlace} (h : DataW.trod enc Tryz.prog w 0 (fun _ => true) held n 25 [v] = some x) :
    ∃ a cap ts, v = .slice a ts.length cap ∧ ts.length ≤ cap ∧ cap ≤ maxLen ∧ (a = none → ts.length = 0 ∧ cap = 0) ∧ RdT w a ts := by
  have ce : Tryz.prog.cellsOf 37 = 9 := by kernel_rfl
  rcases open_slice Tryz.underlying25 h with ⟨h0, _⟩ | ⟨a, len, cap, m, k, Dt, Pl, hcs, _, hl, hm, hmm, hx, hel⟩
  · simp at h0
    exact ⟨none, 0, [], h0, Nat.le_refl _, Nat.zero_le _, fun _ => ⟨rfl, rfl⟩, (fun t ht => by cases ht), .inl rfl⟩
  · simp at hcs
    rw [ce] at hel
    have hlm : len ≤ m := by rw [hmm]; split <;> omega
    have each : ∀ i, i < len → ∃ t : TL, w.cells? 0 (a.add (i * 9)) 9 = some t.cells.toList ∧ t.ok w := by
      intro i hi
      obtain ⟨cs, h1, h2⟩ := hel i (by omega)
      have hcl : cs.length = 9 := (World.cells?_some h1).2.1
      obtain ⟨c0, c1, c2, c3, c4, c5, c6, c7, c8, rfl⟩ := list9 hcl
      obtain ⟨t, ht, hok⟩ := tl_of_trod h2
      exact ⟨t, by rw [h1, ← ht], hok⟩
    obtain ⟨q, hq⟩ := ro_choose each
    have hat : ∀ j, j < len → ((List.range len).map q)[j]? = some (q j) := fun j hj => by
      rw [List.getElem?_map, List.getElem?_range hj]
      rfl
    have hlen : ((List.range len).map q).length = len := by simp
    refine ⟨some a, cap, (List.range len).map q, by rw [hlen]; exact hcs, by rw [hlen]; exact hl, hm, (fun h => by cases h), fun t ht => ?_, ?_⟩
    · obtain ⟨j, hj, rfl⟩ := List.mem_map.1 ht
      exact (hq j (List.mem_range.1 hj)).2
    · by_cases hz : len = 0
      · subst hz; exact .inl rfl
      right
      obtain ⟨b, o, spot⟩ := a
      have hs : spot = none := by
        obtain ⟨_, _, hc⟩ := World.cells?_some (hq 0 (by omega)).1
        have e0 := hc 0 (by omega)
        simpa [Addr.add] using World.cell?_spot e0
      subst hs
      have cells : ∀ j, j < len → ∀ k, k < 9 → w.cell? ⟨b, o + j * 9 + k, none⟩ = (q j).cells[k]? := by
        intro j hj k hk
        obtain ⟨_, _, hc⟩ := World.cells?_some (hq j hj).1
        have e0 := hc k (by omega)
        rw [Addr.add_add, Addr.add_lit] at e0
        rw [show o + (j * 9 + k) = o + j * 9 + k by omega] at e0
        rw [e0]
        simp
      refine ⟨b, o, rfl, ?_, fun j t hj k hk => ?_⟩
      · have e0 := cells 0 (by omega) 0 (by omega)
        have e1 : (q 0).cells[0]? = some (.string (q 0).s) := rfl
        rw [e1] at e0
        exact ro_cell_block e0
      · have hjl : j < len := by
          have := (List.getElem?_eq_some_iff.1 hj).1
          rw [hlen] at this
          exact this
        rw [hat j hjl] at hj
        injection hj with hj
        subst hj
        exact cells j hjl k hk
end Go.Proofs.YtnfemheabikolaaGreatDoor

/- A port that came in is read. -/
namespace Go.Proofs.YtnfemheabikolaaGreatDoor
open Go.RowKit Go.ChangeShapes Go.WideShapes Go.ChangeAt Go.Joins Go.Deep
set_option linter.unusedVariables false

theorem arr5 {cs : Array Value} (h : cs.size = 5) : ∃ c0 c1 c2 c3 c4, cs = #[c0, c1, c2, c3, c4] := by
  rcases cs with ⟨l⟩
  match l, h with
  | [c0, c1, c2, c3, c4], _ => exact ⟨c0, c1, c2, c3, c4, rfl⟩
structure PL where
  s : ByteArray
  n : Bool
  a : Option Addr
  ca : Nat
  xs : List Int
  b : Option Addr
  cb : Nat
  ys : List Int
  t : Option Addr
  ct : Nat
  ts : List TL
def PL.cells (p : PL) : Array Value := #[.string p.s, .bool p.n, .slice p.a p.xs.length p.ca, .slice p.b p.ys.length p.cb, .slice p.t p.ts.length p.ct]
structure PL.ok (p : PL) (w : World) : Prop where
  size : p.s.size ≤ maxLen
  sx : Sl w (.slice p.a p.xs.length p.ca) p.xs
  sy : Sl w (.slice p.b p.ys.length p.cb) p.ys
  len : p.ts.length ≤ p.ct ∧ p.ct ≤ maxLen ∧ (p.t = none → p.ts.length = 0 ∧ p.ct = 0)
  ts : RdT w p.t p.ts
theorem PL.ok.later {p : PL} {w w' : World} (h : p.ok w) (hb : Below w.heap.size w w') : p.ok w' := ⟨h.size, h.sx.later hb, h.sy.later hb, h.len, h.ts.later hb⟩
def PL.hd (p : PL) : Int := phd p.s.data.toList (rchk p.n p.xs p.ys) p.ts.length
theorem plcheck_any (p : PL) (w : World) (h : p.ok w) : Calls Tryz.prog 12 #[.agg p.cells] w fun e w' => ∃ c q, e = .returned (.agg #[.int .i64 c, .int .i64 q]) ∧ PChk p.hd p.ts c q ∧ Below w.heap.size w w' :=
  pCheck_any p.s p.n p.a p.ca p.xs p.b p.cb p.ys p.t p.ct p.ts w h.size h.sx h.sy h.ts
set_option maxHeartbeats 800000 in
set_option maxRecDepth 100000 in
theorem open_port {H : Type} {enc : TypeId × Value → H} {w : World} {held : Bool} {r : Reach} {b0 : Nat} {v : Value} {d : DataW H} {p : List MemPlace} (hv : Value.okWide Tryz.prog w r b0 27 v) (h : DataW.Trod enc Tryz.prog w 0 (fun _ => true) held 27 v d p) :
    ∃ q : PL, v = .agg q.cells ∧ q.ok w := by
  obtain ⟨cs, rfl, hsz⟩ := okWide_struct Tryz.underlying27 hv
  obtain ⟨c0, c1, c2, c3, c4, rfl⟩ := arr5 (hsz.trans (by kernel_rfl))
  obtain ⟨fuel, hf⟩ := h
  obtain ⟨y0, y1, y2, m, _, _, t0, t1, t2⟩ := trod_struct3 Tryz.underlying27 hf
  have k0 : Tryz.prog.cellsOf 9 = 1 := by kernel_rfl
  have k1 : Tryz.prog.cellsOf 24 = 3 := by kernel_rfl
  have k2 : Tryz.prog.cellsOf 25 = 1 := by kernel_rfl
  simp [k0, Value.cells] at t0
  simp [k1, Value.cells] at t1
  simp [k2, Value.cells] at t2
  obtain ⟨s, hs, _, hm⟩ := DataW.trod_string Tryz.underlying9 t0
  simp at hs
  obtain ⟨n, a, len, cap, zs, b, lem, cbp, ys, e1, e2, e3, r1, r2⟩ := in_ratio t1
  obtain ⟨xs', rfl, s1⟩ := inrow_sl r1
  obtain ⟨ys', rfl, s2⟩ := inrow_sl r2
  obtain ⟨t, ct, ts, e4, l1, l2, l3, hT⟩ := tides_of_trod t2
  exact ⟨⟨s, n, a, cap, xs', b, cbp, ys', t, ct, ts⟩, by rw [hs, e1, e2, e3, e4]; rfl, hm, s1, s2, ⟨l1, l2, l3⟩, hT⟩
end Go.Proofs.YtnfemheabikolaaGreatDoor

/- Constituents of one's own: a list of them, each with its rows, one behind the other. -/
namespace Go.Proofs.YtnfemheabikolaaGreatDoor
open Go.RowKit
set_option linter.unusedVariables false
set_option linter.unusedSimpArgs false

theorem qown_later {w w' : World} {base e s : Nat} {v : Value} {n : Nat} {xs : List Value} (h : w.ownsRow base e s v n xs) (hb : Below w.heap.size w w') : w'.ownsRow base e s v n xs := by
  refine ⟨h.1, h.2.imp id ?_⟩
  rintro ⟨g, cap, cur, rfl, h1, h2, r⟩
  exact ⟨g, cap, cur, rfl, h1, (hb.block g (Array.getElem?_eq_some_iff.1 h2).1).trans h2, r⟩
theorem qown_base {w : World} {base base' e s : Nat} {v : Value} {n : Nat} {xs : List Value} (h : w.ownsRow base e s v n xs) (hb : base' ≤ base) : w.ownsRow base' e s v n xs := by
  refine ⟨h.1, h.2.imp id ?_⟩
  rintro ⟨g, cap, cur, rfl, h1, r⟩
  exact ⟨g, cap, cur, rfl, by omega, r⟩
theorem qown_unlike {w : World} {b1 b2 e1 e2 s1 s2 n1 n2 : Nat} {v1 v2 : Value} {x1 x2 : List Value} (h : w.ownsRow b1 e1 s1 v1 n1 x1) (g : w.ownsRow b2 e2 s2 v2 n2 x2) (hne : e1 ≠ e2) : v1.ownBlock = none ∨ v1.ownBlock ≠ v2.ownBlock := by
  rcases h.2 with ⟨rfl, _⟩ | ⟨g1, c1, cur1, rfl, _, hh1, _⟩
  · exact .inl rfl
  · rcases g.2 with ⟨rfl, _⟩ | ⟨g2, c2, cur2, rfl, _, hh2, _⟩
    · exact .inr (by simp [Value.ownBlock])
    · refine .inr (fun e => ?_)
      simp only [Value.ownBlock, Option.some.injEq] at e
      subst e
      rw [hh1] at hh2
      injection hh2 with hh2
      injection hh2 with _ h3
      exact hne h3
structure TV where
  s : ByteArray
  f : Int
  r : Int
  n : Bool
  xs : List Int
  ys : List Int
  m : Bool
  us : List Int
  vs : List Int
def TL.v (t : TL) : TV := ⟨t.s, t.f, t.r, t.n, t.xs, t.ys, t.m, t.us, t.vs⟩
def TL.g (t : TL) : G6 := ⟨t.n, t.a, t.ca, t.xs, t.b, t.cb, t.ys, t.m, t.c, t.cc, t.us, t.d, t.cd, t.vs⟩
def TV.ok (t : TV) : Prop := t.s.size ≤ maxLen ∧ in32 t.f t.r ∧ Wd t.xs ∧ Wd t.ys ∧ Wd t.us ∧ Wd t.vs
def TV.few (t : TV) : Prop := t.xs.length ≤ 1099511627776 ∧ t.ys.length ≤ 1099511627776 ∧ t.us.length ≤ 1099511627776 ∧ t.vs.length ≤ 1099511627776
theorem TL.ok.v {t : TL} {w : World} (h : t.ok w) : t.v.ok := ⟨h.size, h.rot, h.sx.wd, h.sy.wd, h.su.wd, h.sv.wd⟩
theorem TL.ok_of {t : TL} {w : World} {base : Nat} (h : t.v.ok) (ho : t.g.Ow w base) : t.ok w := ⟨h.1, h.2.1, Sl.own ho.1 h.2.2.1, Sl.own ho.2.1 h.2.2.2.1, Sl.own ho.2.2.1 h.2.2.2.2.1, Sl.own ho.2.2.2 h.2.2.2.2.2⟩
def flatT (L : List TL) : List Value := L.flatMap fun t => t.cells.toList
theorem flatT_snoc (L : List TL) (t : TL) : flatT (L ++ [t]) = flatT L ++ t.cells.toList := by unfold flatT; rw [List.flatMap_append, List.flatMap_cons, List.flatMap_nil, List.append_nil]
theorem flatT_cons (t : TL) (L : List TL) : flatT (t :: L) = t.cells.toList ++ flatT L := rfl
theorem flatT_at {L : List TL} {j : Nat} {t : TL} (h : L[j]? = some t) {k : Nat} (hk : k < 9) : (flatT L)[j * 9 + k]? = t.cells[k]? := by
  induction L generalizing j with
  | nil => simp at h
  | cons u L ih =>
    rw [flatT_cons]
    have hs : u.cells.toList.length = 9 := rfl
    cases j with
    | zero =>
      injection h with h
      subst h
      rw [List.getElem?_append_left (by omega), Nat.zero_mul, Nat.zero_add, Array.getElem?_toList]
    | succ j =>
      rw [List.getElem?_append_right (by omega), show (j + 1) * 9 + k - u.cells.toList.length = j * 9 + k by omega]
      exact ih h
theorem rdT_own {w : World} {base ct : Nat} {a : Option Addr} {L : List TL} (h : w.ownsRow base 37 9 (.slice a L.length ct) L.length (flatT L)) (hL : ∀ t ∈ L, t.ok w) : RdT w a L := by
  refine ⟨hL, ?_⟩
  have h' := h
  rcases h'.2 with ⟨h1, h0⟩ | ⟨g, cap, cur, hv, h1, h2, _⟩
  · exact .inl (List.eq_nil_of_length_eq_zero h0)
  · injection hv with e1 e2 e3
    subst e1
    refine .inr ⟨g, 0, rfl, (Array.getElem?_eq_some_iff.1 h2).1, fun j t hj k hk => ?_⟩
    have hjl : j < L.length := (List.getElem?_eq_some_iff.1 hj).1
    rw [Nat.zero_add, h.cellAt (j * 9 + k) (by omega), flatT_at hj hk]
theorem len_own {w : World} {base e s n ct : Nat} {a : Option Addr} {xs : List Value} (h : w.ownsRow base e s (.slice a n ct) n xs) : n ≤ ct ∧ ct ≤ maxLen ∧ (a = none → n = 0 ∧ ct = 0) := by
  rcases h.2 with ⟨h1, h0⟩ | ⟨g, cap, cur, hv, h1, h2, h3, h4, _⟩
  · injection h1 with e1 e2 e3
    subst e3
    rw [h0]
    exact ⟨Nat.le_refl _, Nat.zero_le _, fun _ => ⟨rfl, rfl⟩⟩
  · injection hv with e1 e2 e3
    subst e3
    exact ⟨h3, h4, fun e => by rw [e] at e1; cases e1⟩

structure PV where
  s : ByteArray
  n : Bool
  xs : List Int
  ys : List Int
  ts : List TV
def PL.v (p : PL) : PV := ⟨p.s, p.n, p.xs, p.ys, p.ts.map TL.v⟩
def PV.ok (p : PV) : Prop := p.s.size ≤ maxLen ∧ Wd p.xs ∧ Wd p.ys ∧ ∀ t ∈ p.ts, t.ok
def PV.few (p : PV) : Prop := p.xs.length ≤ 1099511627776 ∧ p.ys.length ≤ 1099511627776 ∧ p.ts.length ≤ 1000000 ∧ ∀ t ∈ p.ts, t.few
theorem PL.ok.v {p : PL} {w : World} (h : p.ok w) : p.v.ok := ⟨h.size, h.sx.wd, h.sy.wd, fun t ht => by
  obtain ⟨u, hu, rfl⟩ := List.mem_map.1 ht
  exact (h.ts.1 u hu).v⟩
structure PL.Ow (p : PL) (W : World) (base : Nat) : Prop where
  mx : W.ownsRow base 78 1 (.slice p.a p.xs.length p.ca) p.xs.length (p.xs.map (Value.int .u32))
  my : W.ownsRow base 78 1 (.slice p.b p.ys.length p.cb) p.ys.length (p.ys.map (Value.int .u32))
  row : W.ownsRow base 37 9 (.slice p.t p.ts.length p.ct) p.ts.length (flatT p.ts)
  els : ∀ t ∈ p.ts, t.g.Ow W base
theorem PL.Ow.later {p : PL} {W W' : World} {base : Nat} (h : p.Ow W base) (hb : Below W.heap.size W W') : p.Ow W' base := ⟨qown_later h.mx hb, qown_later h.my hb, qown_later h.row hb, fun t ht => (h.els t ht).later hb⟩
theorem PL.Ow.base {p : PL} {W : World} {base base' : Nat} (h : p.Ow W base) (hb : base' ≤ base) : p.Ow W base' := ⟨qown_base h.mx hb, qown_base h.my hb, qown_base h.row hb, fun t ht => (h.els t ht).base hb⟩
theorem PL.ok_of {p : PL} {w : World} {base : Nat} (h : p.v.ok) (ho : p.Ow w base) : p.ok w :=
  ⟨h.1, Sl.own ho.mx h.2.1, Sl.own ho.my h.2.2.1, len_own ho.row, rdT_own ho.row fun t ht => TL.ok_of (h.2.2.2 _ (List.mem_map.2 ⟨t, ht, rfl⟩)) (ho.els t ht)⟩
def TSq : Nat → Nat → List TL → Prop
  | lo, hi, [] => lo ≤ hi
  | lo, hi, t :: r => ∃ x y, lo ≤ x ∧ x ≤ y ∧ t.g.In x y ∧ TSq y hi r
theorem TSq.wide : ∀ {L : List TL} {lo hi lo' hi' : Nat}, TSq lo hi L → lo' ≤ lo → hi ≤ hi' → TSq lo' hi' L
  | [], _, _, _, _, h, h1, h2 => by unfold TSq at *; omega
  | _ :: _, _, _, _, _, ⟨x, y, g1, g2, g3, g4⟩, h1, h2 => ⟨x, y, by omega, g2, g3, g4.wide (Nat.le_refl _) h2⟩
theorem TSq.snoc {t : TL} {x y hi : Nat} : ∀ {L : List TL} {lo m : Nat}, TSq lo m L → m ≤ x → x ≤ y → t.g.In x y → y ≤ hi → TSq lo hi (L ++ [t])
  | [], lo, m, h, h1, h2, h3, h4 => by unfold TSq at h; exact ⟨x, y, by omega, h2, h3, h4⟩
  | _ :: _, _, _, ⟨a, b, g1, g2, g3, g4⟩, h1, h2, h3, h4 => ⟨a, b, g1, g2, g3, g4.snoc h1 h2 h3 h4⟩
def PL.In (p : PL) (lo hi : Nat) : Prop := ∃ c d, lo ≤ c ∧ c ≤ d ∧ Lies (.slice p.a p.xs.length p.ca) lo c ∧ Lies (.slice p.b p.ys.length p.cb) c d ∧ TSq d hi p.ts
structure Made (p : PL) (v : PV) (w w' : World) : Prop where
  v : p.v = v
  ow : p.Ow w' w.heap.size
  sep : p.In w.heap.size w'.heap.size
  bel : Below w.heap.size w w'
end Go.Proofs.YtnfemheabikolaaGreatDoor

/- package port, package tide: a fraction copied. -/
namespace Go.Proofs.YtnfemheabikolaaGreatDoor
open Go.RowKit
set_option linter.unusedVariables false

set_option maxHeartbeats 3200000 in
set_option maxRecDepth 100000 in
theorem pcopyR_any (n : Bool) (a : Option Addr) (ca : Nat) (xs : List Int) (b : Option Addr) (cb : Nat) (ys : List Int) (w : World) (sx : Sl w (.slice a xs.length ca) xs) (sy : Sl w (.slice b ys.length cb) ys) (hlx : xs.length ≤ 1099511627776) (hly : ys.length ≤ 1099511627776) :
    Calls Tryz.prog 115 #[.agg #[.bool n, .slice a xs.length ca, .slice b ys.length cb]] w fun e w' => ∃ a1 c1 a2 c2, e = .returned (.agg #[.bool n, .slice a1 xs.length c1, .slice a2 ys.length c2]) ∧ w'.ownsRow w.heap.size 78 1 (.slice a1 xs.length c1) xs.length (xs.map (Value.int .u32)) ∧ w'.ownsRow w.heap.size 78 1 (.slice a2 ys.length c2) ys.length (ys.map (Value.int .u32)) ∧ Below w.heap.size w w' ∧ Cut w (.slice a1 xs.length c1) (.slice a2 ys.length c2) w' := by
  have HX := hid (boxes2r w 24 #[.bool n, .slice a xs.length ca, .slice b ys.length cb] #[.bool false, .slice none 0 0, .slice none 0 0])
  obtain ⟨X, hX⟩ : ∃ X, (w.alloc (.cells #[.bool n, .slice a xs.length ca, .slice b ys.length cb] 24)).alloc (.cells #[.bool false, .slice none 0 0, .slice none 0 0] 24) = X := ⟨_, rfl⟩
  rw [hX] at HX
  have HSX : Hid (∀ V, Below X.heap.size X V → Sl V (.slice a xs.length ca) xs) := fun V hv => sx.later (bt HX.out.2.2 hv)
  have HSY : Hid (∀ V, Below X.heap.size X V → Sl V (.slice b ys.length cb) ys) := fun V hv => sy.later (bt HX.out.2.2 hv)
  have HK : Hid (∀ V, Below X.heap.size X V → V.cell? ⟨w.heap.size, 0, none⟩ = some (.bool n) ∧ V.cell? ⟨w.heap.size, 1, none⟩ = some (.slice a xs.length ca) ∧ V.cell? ⟨w.heap.size, 2, none⟩ = some (.slice b ys.length cb)) := fun V hv => by
    have h := HX.out.1.later hv HX.out.1.lt
    exact ⟨h.cell 0, h.cell 1, h.cell 2⟩
  have HKP : Hid (∀ V, Below X.heap.size X V → ∀ (v0 v1 v2 : Value), ((((V.setCell ⟨w.heap.size + 1, 0, none⟩ v0).setCell ⟨w.heap.size + 1, 1, none⟩ v1).setCell ⟨w.heap.size + 1, 2, none⟩ v2).cell? ⟨w.heap.size, 0, none⟩ = some (.bool n) ∧ (((V.setCell ⟨w.heap.size + 1, 0, none⟩ v0).setCell ⟨w.heap.size + 1, 1, none⟩ v1).setCell ⟨w.heap.size + 1, 2, none⟩ v2).cell? ⟨w.heap.size, 1, none⟩ = some (.slice a xs.length ca) ∧ (((V.setCell ⟨w.heap.size + 1, 0, none⟩ v0).setCell ⟨w.heap.size + 1, 1, none⟩ v1).setCell ⟨w.heap.size + 1, 2, none⟩ v2).cell? ⟨w.heap.size, 2, none⟩ = some (.slice b ys.length cb))) := fun V hv v0 v1 v2 => by
    have h := box_far3 (HX.out.1.later hv HX.out.1.lt) (show w.heap.size ≠ w.heap.size + 1 by omega) v0 v1 v2
    exact ⟨h.cell 0, h.cell 1, h.cell 2⟩
  have HM : Hid (∀ V, Below X.heap.size X V → V.cell? ⟨w.heap.size + 1, 0, none⟩ = some (.bool false) ∧ V.cell? ⟨w.heap.size + 1, 1, none⟩ = some (.slice none 0 0) ∧ V.cell? ⟨w.heap.size + 1, 2, none⟩ = some (.slice none 0 0) ∧ V.frozen? ⟨w.heap.size + 1, 0, none⟩ = false ∧ V.frozen? ⟨w.heap.size + 1, 1, none⟩ = false ∧ V.frozen? ⟨w.heap.size + 1, 2, none⟩ = false) := fun V hv => by
    have h := HX.out.2.1.later hv HX.out.2.1.lt
    exact ⟨h.cell 0, h.cell 1, h.cell 2, h.free 0, h.free 1, h.free 2⟩
  have hd0 := hid (Below.refl X.heap.size X).drew
  have hs0 := HK.out _ hd0.out
  clear sx sy
  go_enter Tryz.func115, Tryz.ntmps115
  go_wp2_with fail
  go_region_held3 (fun V : World => V.cell? ⟨w.heap.size, 0, none⟩ = some (.bool n) ∧ V.cell? ⟨w.heap.size, 1, none⟩ = some (.slice a xs.length ca) ∧ V.cell? ⟨w.heap.size, 2, none⟩ = some (.slice b ys.length cb)) (first | exact hsB | exact hsA | exact hs0 | exact HKP.out _ hbB _ _ _ | exact HKP.out _ hbA _ _ _)
    (first
      | (refine step_copy rfl (.const (.slice none 0 0)) (.tmp 6) rfl (.slice a xs.length ca) xs rfl rfl (HSX.out _ hbB) hlx ?_; intro a1 c1 w1 o1 b1; have hbA := bt hbB b1; have hsA := HK.out _ hbA; obtain ⟨m0, m1, m2, f0, f1, f2⟩ := HM.out _ hbA; have HA := hid (And.intro o1 b1))
      | (refine step_copy rfl (.const (.slice none 0 0)) (.tmp 6) rfl (.slice a xs.length ca) xs rfl rfl (HSX.out _ hd0.out) hlx ?_; intro a1 c1 w1 o1 b1; have hbA := bt hd0.out b1; have hsA := HK.out _ hbA; obtain ⟨m0, m1, m2, f0, f1, f2⟩ := HM.out _ hbA; have HA := hid (And.intro o1 b1))
      | (refine step_copy rfl (.const (.slice none 0 0)) (.tmp 9) rfl (.slice b ys.length cb) ys rfl rfl (HSY.out _ hbA) hly ?_; intro a2 c2 w2 o2 b2; have hbB := bt hbA b2; have hsB := HK.out _ hbB; obtain ⟨m0, m1, m2, f0, f1, f2⟩ := HM.out _ hbB; have HB := hid (And.intro o2 b2))
      | (refine step_copy rfl (.const (.slice none 0 0)) (.tmp 9) rfl (.slice b ys.length cb) ys rfl rfl (HSY.out _ hd0.out) hly ?_; intro a2 c2 w2 o2 b2; have hbB := bt hd0.out b2; have hsB := HK.out _ hbB; obtain ⟨m0, m1, m2, f0, f1, f2⟩ := HM.out _ hbB; have HB := hid (And.intro o2 b2)))
  have HBX := hid (HX.out.2.1.later hbB HX.out.2.1.lt)
  have HBW := hid (bt HX.out.2.2 hbB)
  have HO1 := hid (owns_later o1 b2)
  have HO2 := hid o2
  have HL1 : Hid (Lies (.slice a1 xs.length c1) w.heap.size w1.heap.size) := fun g hg => ⟨Nat.le_trans HX.out.2.2.size (o1.lt g hg).1, (o1.lt g hg).2⟩
  have HL2 : Hid (Lies (.slice a2 ys.length c2) w1.heap.size w2.heap.size) := fun g hg => ⟨(o2.lt g hg).1, (o2.lt g hg).2⟩
  have hXs : w.heap.size + 1 < X.heap.size := HX.out.2.1.lt
  have h1s : X.heap.size ≤ w1.heap.size := hbA.size
  have h2s : w1.heap.size ≤ w2.heap.size := b2.size
  have hwX : w.heap.size ≤ X.heap.size := HX.out.2.2.size
  clear HA HB hs0 hsA hsB hd0 o1 o2 b1 b2 hbA hbB HK HKP HM HSX HSY
  go_wp2_with fail
  have B1 := box_put3 HBX.out (.bool n) (.slice a1 xs.length c1) (.slice a2 ys.length c2)
  have e1 : ∀ g, (Value.slice a1 xs.length c1).ownBlock = some g → g ≠ w.heap.size + 1 := fun g hg => by have := (HO1.out.lt g hg).1; have e : X.drew.heap.size = X.heap.size := rfl; omega
  have e2 : ∀ g, (Value.slice a2 ys.length c2).ownBlock = some g → g ≠ w.heap.size + 1 := fun g hg => by have := (HO2.out.lt g hg).1; omega
  have V1 := own_put3' HO1.out _ e1 (.bool n) (.slice a1 xs.length c1) (.slice a2 ys.length c2)
  have U1 := own_put3' HO2.out _ e2 (.bool n) (.slice a1 xs.length c1) (.slice a2 ys.length c2)
  have G1 := below_put3 HBW.out (w.heap.size + 1) (by omega) (.bool n) (.slice a1 xs.length c1) (.slice a2 ys.length c2)
  refine bodyPost_ret (results_cell_row (by rfl) _ _ (w.heap.size + 1) 24 _ (0, 0) _ (by rfl) B1 Tryz.underlying24 rfl (by kernel_rfl)) rfl ?_
  refine ⟨_, _, _, _, rfl, owns_base V1 hwX, owns_base U1 (by omega), G1, ?_⟩
  exact ⟨w1.heap.size, by omega, by simp [World.setCell]; omega, HL1.out, fun g hg => ⟨(HL2.out g hg).1, by have := (HL2.out g hg).2; simp [World.setCell]; omega⟩⟩
set_option maxHeartbeats 3200000 in
set_option maxRecDepth 100000 in
theorem tcopyR_any (n : Bool) (a : Option Addr) (ca : Nat) (xs : List Int) (b : Option Addr) (cb : Nat) (ys : List Int) (w : World) (sx : Sl w (.slice a xs.length ca) xs) (sy : Sl w (.slice b ys.length cb) ys) (hlx : xs.length ≤ 1099511627776) (hly : ys.length ≤ 1099511627776) :
    Calls Tryz.prog 176 #[.agg #[.bool n, .slice a xs.length ca, .slice b ys.length cb]] w fun e w' => ∃ a1 c1 a2 c2, e = .returned (.agg #[.bool n, .slice a1 xs.length c1, .slice a2 ys.length c2]) ∧ w'.ownsRow w.heap.size 78 1 (.slice a1 xs.length c1) xs.length (xs.map (Value.int .u32)) ∧ w'.ownsRow w.heap.size 78 1 (.slice a2 ys.length c2) ys.length (ys.map (Value.int .u32)) ∧ Below w.heap.size w w' ∧ Cut w (.slice a1 xs.length c1) (.slice a2 ys.length c2) w' := by
  have HX := hid (boxes2r w 24 #[.bool n, .slice a xs.length ca, .slice b ys.length cb] #[.bool false, .slice none 0 0, .slice none 0 0])
  obtain ⟨X, hX⟩ : ∃ X, (w.alloc (.cells #[.bool n, .slice a xs.length ca, .slice b ys.length cb] 24)).alloc (.cells #[.bool false, .slice none 0 0, .slice none 0 0] 24) = X := ⟨_, rfl⟩
  rw [hX] at HX
  have HSX : Hid (∀ V, Below X.heap.size X V → Sl V (.slice a xs.length ca) xs) := fun V hv => sx.later (bt HX.out.2.2 hv)
  have HSY : Hid (∀ V, Below X.heap.size X V → Sl V (.slice b ys.length cb) ys) := fun V hv => sy.later (bt HX.out.2.2 hv)
  have HK : Hid (∀ V, Below X.heap.size X V → V.cell? ⟨w.heap.size, 0, none⟩ = some (.bool n) ∧ V.cell? ⟨w.heap.size, 1, none⟩ = some (.slice a xs.length ca) ∧ V.cell? ⟨w.heap.size, 2, none⟩ = some (.slice b ys.length cb)) := fun V hv => by
    have h := HX.out.1.later hv HX.out.1.lt
    exact ⟨h.cell 0, h.cell 1, h.cell 2⟩
  have HKP : Hid (∀ V, Below X.heap.size X V → ∀ (v0 v1 v2 : Value), ((((V.setCell ⟨w.heap.size + 1, 0, none⟩ v0).setCell ⟨w.heap.size + 1, 1, none⟩ v1).setCell ⟨w.heap.size + 1, 2, none⟩ v2).cell? ⟨w.heap.size, 0, none⟩ = some (.bool n) ∧ (((V.setCell ⟨w.heap.size + 1, 0, none⟩ v0).setCell ⟨w.heap.size + 1, 1, none⟩ v1).setCell ⟨w.heap.size + 1, 2, none⟩ v2).cell? ⟨w.heap.size, 1, none⟩ = some (.slice a xs.length ca) ∧ (((V.setCell ⟨w.heap.size + 1, 0, none⟩ v0).setCell ⟨w.heap.size + 1, 1, none⟩ v1).setCell ⟨w.heap.size + 1, 2, none⟩ v2).cell? ⟨w.heap.size, 2, none⟩ = some (.slice b ys.length cb))) := fun V hv v0 v1 v2 => by
    have h := box_far3 (HX.out.1.later hv HX.out.1.lt) (show w.heap.size ≠ w.heap.size + 1 by omega) v0 v1 v2
    exact ⟨h.cell 0, h.cell 1, h.cell 2⟩
  have HM : Hid (∀ V, Below X.heap.size X V → V.cell? ⟨w.heap.size + 1, 0, none⟩ = some (.bool false) ∧ V.cell? ⟨w.heap.size + 1, 1, none⟩ = some (.slice none 0 0) ∧ V.cell? ⟨w.heap.size + 1, 2, none⟩ = some (.slice none 0 0) ∧ V.frozen? ⟨w.heap.size + 1, 0, none⟩ = false ∧ V.frozen? ⟨w.heap.size + 1, 1, none⟩ = false ∧ V.frozen? ⟨w.heap.size + 1, 2, none⟩ = false) := fun V hv => by
    have h := HX.out.2.1.later hv HX.out.2.1.lt
    exact ⟨h.cell 0, h.cell 1, h.cell 2, h.free 0, h.free 1, h.free 2⟩
  have hd0 := hid (Below.refl X.heap.size X).drew
  have hs0 := HK.out _ hd0.out
  clear sx sy
  go_enter Tryz.func176, Tryz.ntmps176
  go_wp2_with fail
  go_region_held3 (fun V : World => V.cell? ⟨w.heap.size, 0, none⟩ = some (.bool n) ∧ V.cell? ⟨w.heap.size, 1, none⟩ = some (.slice a xs.length ca) ∧ V.cell? ⟨w.heap.size, 2, none⟩ = some (.slice b ys.length cb)) (first | exact hsB | exact hsA | exact hs0 | exact HKP.out _ hbB _ _ _ | exact HKP.out _ hbA _ _ _)
    (first
      | (refine step_copy rfl (.const (.slice none 0 0)) (.tmp 6) rfl (.slice a xs.length ca) xs rfl rfl (HSX.out _ hbB) hlx ?_; intro a1 c1 w1 o1 b1; have hbA := bt hbB b1; have hsA := HK.out _ hbA; obtain ⟨m0, m1, m2, f0, f1, f2⟩ := HM.out _ hbA; have HA := hid (And.intro o1 b1))
      | (refine step_copy rfl (.const (.slice none 0 0)) (.tmp 6) rfl (.slice a xs.length ca) xs rfl rfl (HSX.out _ hd0.out) hlx ?_; intro a1 c1 w1 o1 b1; have hbA := bt hd0.out b1; have hsA := HK.out _ hbA; obtain ⟨m0, m1, m2, f0, f1, f2⟩ := HM.out _ hbA; have HA := hid (And.intro o1 b1))
      | (refine step_copy rfl (.const (.slice none 0 0)) (.tmp 9) rfl (.slice b ys.length cb) ys rfl rfl (HSY.out _ hbA) hly ?_; intro a2 c2 w2 o2 b2; have hbB := bt hbA b2; have hsB := HK.out _ hbB; obtain ⟨m0, m1, m2, f0, f1, f2⟩ := HM.out _ hbB; have HB := hid (And.intro o2 b2))
      | (refine step_copy rfl (.const (.slice none 0 0)) (.tmp 9) rfl (.slice b ys.length cb) ys rfl rfl (HSY.out _ hd0.out) hly ?_; intro a2 c2 w2 o2 b2; have hbB := bt hd0.out b2; have hsB := HK.out _ hbB; obtain ⟨m0, m1, m2, f0, f1, f2⟩ := HM.out _ hbB; have HB := hid (And.intro o2 b2)))
  have HBX := hid (HX.out.2.1.later hbB HX.out.2.1.lt)
  have HBW := hid (bt HX.out.2.2 hbB)
  have HO1 := hid (owns_later o1 b2)
  have HO2 := hid o2
  have HL1 : Hid (Lies (.slice a1 xs.length c1) w.heap.size w1.heap.size) := fun g hg => ⟨Nat.le_trans HX.out.2.2.size (o1.lt g hg).1, (o1.lt g hg).2⟩
  have HL2 : Hid (Lies (.slice a2 ys.length c2) w1.heap.size w2.heap.size) := fun g hg => ⟨(o2.lt g hg).1, (o2.lt g hg).2⟩
  have hXs : w.heap.size + 1 < X.heap.size := HX.out.2.1.lt
  have h1s : X.heap.size ≤ w1.heap.size := hbA.size
  have h2s : w1.heap.size ≤ w2.heap.size := b2.size
  have hwX : w.heap.size ≤ X.heap.size := HX.out.2.2.size
  clear HA HB hs0 hsA hsB hd0 o1 o2 b1 b2 hbA hbB HK HKP HM HSX HSY
  go_wp2_with fail
  have B1 := box_put3 HBX.out (.bool n) (.slice a1 xs.length c1) (.slice a2 ys.length c2)
  have e1 : ∀ g, (Value.slice a1 xs.length c1).ownBlock = some g → g ≠ w.heap.size + 1 := fun g hg => by have := (HO1.out.lt g hg).1; have e : X.drew.heap.size = X.heap.size := rfl; omega
  have e2 : ∀ g, (Value.slice a2 ys.length c2).ownBlock = some g → g ≠ w.heap.size + 1 := fun g hg => by have := (HO2.out.lt g hg).1; omega
  have V1 := own_put3' HO1.out _ e1 (.bool n) (.slice a1 xs.length c1) (.slice a2 ys.length c2)
  have U1 := own_put3' HO2.out _ e2 (.bool n) (.slice a1 xs.length c1) (.slice a2 ys.length c2)
  have G1 := below_put3 HBW.out (w.heap.size + 1) (by omega) (.bool n) (.slice a1 xs.length c1) (.slice a2 ys.length c2)
  refine bodyPost_ret (results_cell_row (by rfl) _ _ (w.heap.size + 1) 24 _ (0, 0) _ (by rfl) B1 Tryz.underlying24 rfl (by kernel_rfl)) rfl ?_
  refine ⟨_, _, _, _, rfl, owns_base V1 hwX, owns_base U1 (by omega), G1, ?_⟩
  exact ⟨w1.heap.size, by omega, by simp [World.setCell]; omega, HL1.out, fun g hg => ⟨(HL2.out g hg).1, by have := (HL2.out g hg).2; simp [World.setCell]; omega⟩⟩
end Go.Proofs.YtnfemheabikolaaGreatDoor

/- package tide: a number copied, a constituent copied. -/
namespace Go.Proofs.YtnfemheabikolaaGreatDoor
open Go.RowKit
set_option linter.unusedVariables false

set_option maxHeartbeats 3200000 in
set_option maxRecDepth 100000 in
theorem ncopy_any (n : Bool) (a : Option Addr) (ca : Nat) (xs : List Int) (b : Option Addr) (cb : Nat) (ys : List Int) (m : Bool) (c : Option Addr) (cc : Nat) (us : List Int) (d : Option Addr) (cd : Nat) (vs : List Int) (w : World) (sx : Sl w (.slice a xs.length ca) xs) (sy : Sl w (.slice b ys.length cb) ys) (su : Sl w (.slice c us.length cc) us) (sv : Sl w (.slice d vs.length cd) vs) (hlx : xs.length ≤ 1099511627776) (hly : ys.length ≤ 1099511627776) (hlu : us.length ≤ 1099511627776) (hlv : vs.length ≤ 1099511627776) :
    Calls Tryz.prog 116 #[.agg #[.bool n, .slice a xs.length ca, .slice b ys.length cb, .bool m, .slice c us.length cc, .slice d vs.length cd]] w fun e w' => ∃ a1 c1 a2 c2 a3 c3 a4 c4, e = .returned (.agg #[.bool n, .slice a1 xs.length c1, .slice a2 ys.length c2, .bool m, .slice a3 us.length c3, .slice a4 vs.length c4]) ∧ (w'.ownsRow w.heap.size 78 1 (.slice a1 xs.length c1) xs.length (xs.map (Value.int .u32)) ∧ w'.ownsRow w.heap.size 78 1 (.slice a2 ys.length c2) ys.length (ys.map (Value.int .u32)) ∧ w'.ownsRow w.heap.size 78 1 (.slice a3 us.length c3) us.length (us.map (Value.int .u32)) ∧ w'.ownsRow w.heap.size 78 1 (.slice a4 vs.length c4) vs.length (vs.map (Value.int .u32))) ∧ Below w.heap.size w w' ∧ ∃ W1, Cut w (.slice a1 xs.length c1) (.slice a2 ys.length c2) W1 ∧ Cut W1 (.slice a3 us.length c3) (.slice a4 vs.length c4) w' := by
  obtain ⟨X, hX⟩ : ∃ X, w.alloc (.cells #[.bool n, .slice a xs.length ca, .slice b ys.length cb, .bool m, .slice c us.length cc, .slice d vs.length cd] 138) = X := ⟨_, rfl⟩
  obtain ⟨Y, hY⟩ : ∃ Y, X.alloc (.cells #[.bool false, .slice none 0 0, .slice none 0 0, .bool false, .slice none 0 0, .slice none 0 0] 35) = Y := ⟨_, rfl⟩
  have HX : Hid (Box Y w.heap.size 138 #[.bool n, .slice a xs.length ca, .slice b ys.length cb, .bool m, .slice c us.length cc, .slice d vs.length cd]) := by
    subst hY hX
    exact (Box.made w _ _).later (alloc_later _ _) (Box.made w 138 _).lt
  have HR : Hid (Box Y X.heap.size 35 #[.bool false, .slice none 0 0, .slice none 0 0, .bool false, .slice none 0 0, .slice none 0 0]) := by
    subst hY
    exact Box.made X _ _
  have HXs : X.heap.size = w.heap.size + 1 := by subst hX; simp
  have HB : Hid (Below w.heap.size w Y) := by
    subst hY hX
    exact bt (alloc_later _ _) (alloc_later _ _)
  rw [HXs] at HR
  have hg1 : X.heap.size = w.heap.size + 1 := HXs
  have HYs : Hid (w.heap.size + 1 < Y.heap.size) := HR.out.lt
  have H1 : Hid (∀ V, Below Y.heap.size Y V → Calls Tryz.prog 176 #[.agg #[.bool n, .slice a xs.length ca, .slice b ys.length cb]] V fun e w' => ∃ a1 c1 a2 c2, e = .returned (.agg #[.bool n, .slice a1 xs.length c1, .slice a2 ys.length c2]) ∧ w'.ownsRow V.heap.size 78 1 (.slice a1 xs.length c1) xs.length (xs.map (Value.int .u32)) ∧ w'.ownsRow V.heap.size 78 1 (.slice a2 ys.length c2) ys.length (ys.map (Value.int .u32)) ∧ Below V.heap.size V w' ∧ Cut V (.slice a1 xs.length c1) (.slice a2 ys.length c2) w') := fun V hV => tcopyR_any n a ca xs b cb ys V (sx.later (bt HB.out hV)) (sy.later (bt HB.out hV)) hlx hly
  have H2 : Hid (∀ V, Below Y.heap.size Y V → Calls Tryz.prog 176 #[.agg #[.bool m, .slice c us.length cc, .slice d vs.length cd]] V fun e w' => ∃ a1 c1 a2 c2, e = .returned (.agg #[.bool m, .slice a1 us.length c1, .slice a2 vs.length c2]) ∧ w'.ownsRow V.heap.size 78 1 (.slice a1 us.length c1) us.length (us.map (Value.int .u32)) ∧ w'.ownsRow V.heap.size 78 1 (.slice a2 vs.length c2) vs.length (vs.map (Value.int .u32)) ∧ Below V.heap.size V w' ∧ Cut V (.slice a1 us.length c1) (.slice a2 vs.length c2) w') := fun V hV => tcopyR_any m c cc us d cd vs V (su.later (bt HB.out hV)) (sv.later (bt HB.out hV)) hlu hlv
  have HS : Hid (∀ V, Below Y.heap.size Y V → V.cell? ⟨w.heap.size, 0, none⟩ = some (.bool n) ∧ V.cell? ⟨w.heap.size, 1, none⟩ = some (.slice a xs.length ca) ∧ V.cell? ⟨w.heap.size, 2, none⟩ = some (.slice b ys.length cb) ∧ V.cell? ⟨w.heap.size, 3, none⟩ = some (.bool m) ∧ V.cell? ⟨w.heap.size, 4, none⟩ = some (.slice c us.length cc) ∧ V.cell? ⟨w.heap.size, 5, none⟩ = some (.slice d vs.length cd)) := fun V hV => by
    have h := HX.out.later hV HX.out.lt
    exact ⟨h.cell 0, h.cell 1, h.cell 2, h.cell 3, h.cell 4, h.cell 5⟩
  have HF : Hid (∀ V A0 A1 A2 A3 A4 A5 v0 v1 v2 v3 v4 v5, Below Y.heap.size Y V → V.setCell ⟨w.heap.size + 1, 0, none⟩ v0 = A0 → A0.setCell ⟨w.heap.size + 1, 1, none⟩ v1 = A1 → A1.setCell ⟨w.heap.size + 1, 2, none⟩ v2 = A2 → A2.setCell ⟨w.heap.size + 1, 3, none⟩ v3 = A3 → A3.setCell ⟨w.heap.size + 1, 4, none⟩ v4 = A4 → A4.setCell ⟨w.heap.size + 1, 5, none⟩ v5 = A5 → A5.cell? ⟨w.heap.size, 0, none⟩ = some (.bool n) ∧ A5.cell? ⟨w.heap.size, 1, none⟩ = some (.slice a xs.length ca) ∧ A5.cell? ⟨w.heap.size, 2, none⟩ = some (.slice b ys.length cb) ∧ A5.cell? ⟨w.heap.size, 3, none⟩ = some (.bool m) ∧ A5.cell? ⟨w.heap.size, 4, none⟩ = some (.slice c us.length cc) ∧ A5.cell? ⟨w.heap.size, 5, none⟩ = some (.slice d vs.length cd)) := fun V A0 A1 A2 A3 A4 A5 v0 v1 v2 v3 v4 v5 hV e0 e1 e2 e3 e4 e5 => by
    subst e0 e1 e2 e3 e4 e5
    have hne : w.heap.size ≠ w.heap.size + 1 := by omega
    have h := (((((((HX.out.later hV HX.out.lt : Box _ _ _ _).other ⟨w.heap.size + 1, 0, none⟩ v0 hne).other ⟨w.heap.size + 1, 1, none⟩ v1 hne).other ⟨w.heap.size + 1, 2, none⟩ v2 hne).other ⟨w.heap.size + 1, 3, none⟩ v3 hne).other ⟨w.heap.size + 1, 4, none⟩ v4 hne).other ⟨w.heap.size + 1, 5, none⟩ v5 hne)
    exact ⟨h.cell 0, h.cell 1, h.cell 2, h.cell 3, h.cell 4, h.cell 5⟩
  have hd0 := hid (Below.refl Y.heap.size Y).drew
  have hs0 := HS.out _ hd0.out
  clear sx sy su sv
  go_enter Tryz.func116, Tryz.ntmps116
  go_wp2_with fail
  go_region_held3 (fun V : World => V.cell? ⟨w.heap.size, 0, none⟩ = some (.bool n) ∧ V.cell? ⟨w.heap.size, 1, none⟩ = some (.slice a xs.length ca) ∧ V.cell? ⟨w.heap.size, 2, none⟩ = some (.slice b ys.length cb) ∧ V.cell? ⟨w.heap.size, 3, none⟩ = some (.bool m) ∧ V.cell? ⟨w.heap.size, 4, none⟩ = some (.slice c us.length cc) ∧ V.cell? ⟨w.heap.size, 5, none⟩ = some (.slice d vs.length cd)) (first | exact hs3 | exact hs2 | exact hs1 | exact hs0 | go_keep)
    (first
      | (go_at_call 176; (with_reducible refine Calls.mono (H1.out _ hd0.out) ?_); rintro e w1 ⟨a1, c1, a2, c2, rfl, o1, o2, b1, ct1⟩; have hbA := hid (bt hd0.out b1); have hs1 := HS.out _ hbA.out; have HA := hid (And.intro o1 (And.intro o2 (And.intro b1 ct1))))
      | (go_at_call 176; (with_reducible refine Calls.mono (H2.out _ hbA.out) ?_); rintro e w2 ⟨a3, c3, a4, c4, rfl, o3, o4, b2, ct2⟩; have hbB := hid (bt hbA.out b2); have hs2 := HS.out _ hbB.out; have HB2 := hid (And.intro o3 (And.intro o4 (And.intro b2 ct2))); have HQ := hid (HR.out.later hbB.out HR.out.lt); obtain ⟨A0, A1, A2, A3, A4, A5, hA0, hA1, hA2, hA3, hA4, hA5, ⟨q0, q1, q2, q3, q4, q5⟩, f0, f1, f2, f3, f4, f5⟩ := gchain6 HQ.out (.bool n) (.slice a1 xs.length c1) (.slice a2 ys.length c2) (.bool m) (.slice a3 us.length c3) (.slice a4 vs.length c4); have hs3 := HF.out _ _ _ _ _ _ _ _ _ _ _ _ _ hbB.out hA0 hA1 hA2 hA3 hA4 hA5))
  have HYw : Hid (w.heap.size ≤ Y.heap.size) := HB.out.size
  have HE : Hid (Box A5 (w.heap.size + 1) 35 #[.bool n, .slice a1 xs.length c1, .slice a2 ys.length c2, .bool m, .slice a3 us.length c3, .slice a4 vs.length c4] ∧ Below w.heap.size w A5 ∧ A5.heap.size = w2.heap.size ∧ ∀ (base k : Nat) (v : Value) (l : List Value), w.heap.size + 1 < base → w2.ownsRow base 78 1 v k l → A5.ownsRow base 78 1 v k l) := by
    have hBw := bt HB.out hbB.out
    have hq := HQ.out
    clear q0 q1 q2 q3 q4 q5 f0 f1 f2 f3 f4 f5 hs0 hs1 hs2 hs3 HQ
    subst hA0 hA1 hA2 hA3 hA4 hA5
    exact ⟨box_put6 hq _ _ _ _ _ _, below_put6 hBw _ (by omega) _ _ _ _ _ _, by simp [World.setCell], fun base k v l hb h => own_put6 h _ (fun g hg => by have := (h.lt g hg).1; omega) _ _ _ _ _ _⟩
  have HY1 : Hid (Y.drew.heap.size = Y.heap.size) := rfl
  have HW1 : Hid (Y.heap.size ≤ w1.heap.size) := hbA.out.size
  clear hs0 hs1 hs2 hs3 hA0 hA1 hA2 hA3 hA4 hA5 q0 q1 q2 q3 q4 q5 f0 f1 f2 f3 f4 f5 HS HF H1 H2 HQ
  go_wp2_with fail
  refine bodyPost_ret (results_cell_row (by rfl) _ _ (w.heap.size + 1) 35 _ (0, 0) _ (by rfl) HE.out.1 Tryz.underlying35 rfl (by kernel_rfl)) rfl ?_
  have r1 : Y.drew.heap.size = Y.heap.size := HY1.out
  have r2 := HYs.out
  have r3 := HW1.out
  have r4 := HYw.out
  obtain ⟨o1, o2, b1, ct1⟩ := HA.out
  obtain ⟨o3, o4, b2, ct2⟩ := HB2.out
  refine ⟨_, _, _, _, _, _, _, _, rfl, ⟨?_, ?_, ?_, ?_⟩, HE.out.2.1, w1, ct1.up (by omega) (Nat.le_refl _), ct2.up (Nat.le_refl _) (Nat.le_of_eq HE.out.2.2.1.symm)⟩
  · exact owns_base (HE.out.2.2.2 _ _ _ _ (by omega) (owns_later o1 b2)) (by omega)
  · exact owns_base (HE.out.2.2.2 _ _ _ _ (by omega) (owns_later o2 b2)) (by omega)
  · exact owns_base (HE.out.2.2.2 _ _ _ _ (by omega) o3) (by omega)
  · exact owns_base (HE.out.2.2.2 _ _ _ _ (by omega) o4) (by omega)
end Go.Proofs.YtnfemheabikolaaGreatDoor

/- package tide: Copy. -/
namespace Go.Proofs.YtnfemheabikolaaGreatDoor
open Go.RowKit
set_option linter.unusedVariables false

theorem tchain6 {W : World} {b t : Nat} {u0 u1 u2 u3 u4 u5 u6 u7 u8 : Value} (h : Box W b t #[u0, u1, u2, u3, u4, u5, u6, u7, u8]) (v3 v4 v5 v6 v7 v8 : Value) : ∃ A0 A1 A2 A3 A4 A5, W.setCell ⟨b, 3, none⟩ v3 = A0 ∧ A0.setCell ⟨b, 4, none⟩ v4 = A1 ∧ A1.setCell ⟨b, 5, none⟩ v5 = A2 ∧ A2.setCell ⟨b, 6, none⟩ v6 = A3 ∧ A3.setCell ⟨b, 7, none⟩ v7 = A4 ∧ A4.setCell ⟨b, 8, none⟩ v8 = A5 ∧ (W.cell? ⟨b, 3, none⟩ = some u3 ∧ A0.cell? ⟨b, 4, none⟩ = some u4 ∧ A1.cell? ⟨b, 5, none⟩ = some u5 ∧ A2.cell? ⟨b, 6, none⟩ = some u6 ∧ A3.cell? ⟨b, 7, none⟩ = some u7 ∧ A4.cell? ⟨b, 8, none⟩ = some u8) ∧ (W.frozen? ⟨b, 3, none⟩ = false ∧ A0.frozen? ⟨b, 4, none⟩ = false ∧ A1.frozen? ⟨b, 5, none⟩ = false ∧ A2.frozen? ⟨b, 6, none⟩ = false ∧ A3.frozen? ⟨b, 7, none⟩ = false ∧ A4.frozen? ⟨b, 8, none⟩ = false) ∧
    Hid (Box A5 b t #[u0, u1, u2, v3, v4, v5, v6, v7, v8] ∧ (∀ p t' vs, p ≠ b → Box W p t' vs → Box A5 p t' vs) ∧ (∀ base k v l, (∀ g, v.ownBlock = some g → g ≠ b) → W.ownsRow base 78 1 v k l → A5.ownsRow base 78 1 v k l) ∧ (∀ B x, B ≤ b → Below B x W → Below B x A5) ∧ A5.heap.size = W.heap.size) := by
  have h3 : Box _ b t #[u0, u1, u2, v3, u4, u5, u6, u7, u8] := h.set 3 v3
  have h4 : Box _ b t #[u0, u1, u2, v3, v4, u5, u6, u7, u8] := h3.set 4 v4
  have h5 : Box _ b t #[u0, u1, u2, v3, v4, v5, u6, u7, u8] := h4.set 5 v5
  have h6 : Box _ b t #[u0, u1, u2, v3, v4, v5, v6, u7, u8] := h5.set 6 v6
  have h7 : Box _ b t #[u0, u1, u2, v3, v4, v5, v6, v7, u8] := h6.set 7 v7
  have h8 : Box _ b t #[u0, u1, u2, v3, v4, v5, v6, v7, v8] := h7.set 8 v8
  refine ⟨_, _, _, _, _, _, rfl, rfl, rfl, rfl, rfl, rfl, ⟨h.cell 3, h3.cell 4, h4.cell 5, h5.cell 6, h6.cell 7, h7.cell 8⟩, ⟨h.free 3, h3.free 4, h4.free 5, h5.free 6, h6.free 7, h7.free 8⟩, h8, ?_, ?_, ?_, by simp [World.setCell]⟩
  · intro p t' vs hne hp
    exact (((((hp.other ⟨b, 3, none⟩ v3 hne).other ⟨b, 4, none⟩ v4 hne).other ⟨b, 5, none⟩ v5 hne).other ⟨b, 6, none⟩ v6 hne).other ⟨b, 7, none⟩ v7 hne).other ⟨b, 8, none⟩ v8 hne
  · intro base k v l hb ho
    exact own_put1 (own_put1 (own_put1 (own_put1 (own_put1 (own_put1 ho b hb 3 v3) b hb 4 v4) b hb 5 v5) b hb 6 v6) b hb 7 v7) b hb 8 v8
  · intro B x hB hb
    exact (((((hb.setCell (p := ⟨b, 3, none⟩) hB _).setCell (p := ⟨b, 4, none⟩) hB _).setCell (p := ⟨b, 5, none⟩) hB _).setCell (p := ⟨b, 6, none⟩) hB _).setCell (p := ⟨b, 7, none⟩) hB _).setCell (p := ⟨b, 8, none⟩) hB _

set_option maxHeartbeats 3200000 in
set_option maxRecDepth 100000 in
theorem tCopy_any (s : ByteArray) (f r : Int) (n : Bool) (a : Option Addr) (ca : Nat) (xs : List Int) (b : Option Addr) (cb : Nat) (ys : List Int) (m : Bool) (c : Option Addr) (cc : Nat) (us : List Int) (d : Option Addr) (cd : Nat) (vs : List Int) (w : World) (sx : Sl w (.slice a xs.length ca) xs) (sy : Sl w (.slice b ys.length cb) ys) (su : Sl w (.slice c us.length cc) us) (sv : Sl w (.slice d vs.length cd) vs) (hlx : xs.length ≤ 1099511627776) (hly : ys.length ≤ 1099511627776) (hlu : us.length ≤ 1099511627776) (hlv : vs.length ≤ 1099511627776) :
    Calls Tryz.prog 52 #[.agg #[.string s, .int .i32 f, .int .i32 r, .bool n, .slice a xs.length ca, .slice b ys.length cb, .bool m, .slice c us.length cc, .slice d vs.length cd]] w fun e w' => ∃ a1 c1 a2 c2 a3 c3 a4 c4, e = .returned (.agg #[.string s, .int .i32 f, .int .i32 r, .bool n, .slice a1 xs.length c1, .slice a2 ys.length c2, .bool m, .slice a3 us.length c3, .slice a4 vs.length c4]) ∧ (w'.ownsRow w.heap.size 78 1 (.slice a1 xs.length c1) xs.length (xs.map (Value.int .u32)) ∧ w'.ownsRow w.heap.size 78 1 (.slice a2 ys.length c2) ys.length (ys.map (Value.int .u32)) ∧ w'.ownsRow w.heap.size 78 1 (.slice a3 us.length c3) us.length (us.map (Value.int .u32)) ∧ w'.ownsRow w.heap.size 78 1 (.slice a4 vs.length c4) vs.length (vs.map (Value.int .u32))) ∧ Below w.heap.size w w' ∧ ∃ W1, Cut w (.slice a1 xs.length c1) (.slice a2 ys.length c2) W1 ∧ Cut W1 (.slice a3 us.length c3) (.slice a4 vs.length c4) w' := by
  obtain ⟨X, hX⟩ : ∃ X, w.alloc (.cells #[.string s, .int .i32 f, .int .i32 r, .bool n, .slice a xs.length ca, .slice b ys.length cb, .bool m, .slice c us.length cc, .slice d vs.length cd] 37) = X := ⟨_, rfl⟩
  obtain ⟨Y, hY⟩ : ∃ Y, X.alloc (.cells #[.string ⟨#[]⟩, .int .i32 0, .int .i32 0, .bool false, .slice none 0 0, .slice none 0 0, .bool false, .slice none 0 0, .slice none 0 0] 37) = Y := ⟨_, rfl⟩
  have HX : Hid (Box Y w.heap.size 37 #[.string s, .int .i32 f, .int .i32 r, .bool n, .slice a xs.length ca, .slice b ys.length cb, .bool m, .slice c us.length cc, .slice d vs.length cd]) := by
    subst hY hX
    exact (Box.made w _ _).later (alloc_later _ _) (Box.made w 37 _).lt
  have HR : Hid (Box Y X.heap.size 37 #[.string ⟨#[]⟩, .int .i32 0, .int .i32 0, .bool false, .slice none 0 0, .slice none 0 0, .bool false, .slice none 0 0, .slice none 0 0]) := by
    subst hY
    exact Box.made X _ _
  have HXs : X.heap.size = w.heap.size + 1 := by subst hX; simp
  have HB : Hid (Below w.heap.size w Y) := by
    subst hY hX
    exact bt (alloc_later _ _) (alloc_later _ _)
  rw [HXs] at HR
  have HYs : Hid (w.heap.size + 1 < Y.heap.size) := HR.out.lt
  have HC : Hid (∀ V, Below Y.heap.size Y V → Calls Tryz.prog 116 #[.agg #[.bool n, .slice a xs.length ca, .slice b ys.length cb, .bool m, .slice c us.length cc, .slice d vs.length cd]] V fun e w' => ∃ a1 c1 a2 c2 a3 c3 a4 c4, e = .returned (.agg #[.bool n, .slice a1 xs.length c1, .slice a2 ys.length c2, .bool m, .slice a3 us.length c3, .slice a4 vs.length c4]) ∧ (w'.ownsRow V.heap.size 78 1 (.slice a1 xs.length c1) xs.length (xs.map (Value.int .u32)) ∧ w'.ownsRow V.heap.size 78 1 (.slice a2 ys.length c2) ys.length (ys.map (Value.int .u32)) ∧ w'.ownsRow V.heap.size 78 1 (.slice a3 us.length c3) us.length (us.map (Value.int .u32)) ∧ w'.ownsRow V.heap.size 78 1 (.slice a4 vs.length c4) vs.length (vs.map (Value.int .u32))) ∧ Below V.heap.size V w' ∧ ∃ W1, Cut V (.slice a1 xs.length c1) (.slice a2 ys.length c2) W1 ∧ Cut W1 (.slice a3 us.length c3) (.slice a4 vs.length c4) w') := fun V hV => ncopy_any n a ca xs b cb ys m c cc us d cd vs V (sx.later (bt HB.out hV)) (sy.later (bt HB.out hV)) (su.later (bt HB.out hV)) (sv.later (bt HB.out hV)) hlx hly hlu hlv
  have k3 : Y.cell? ⟨w.heap.size, 3, none⟩ = some (.bool n) := HX.out.cell 3
  have k4 : Y.cell? ⟨w.heap.size, 4, none⟩ = some (.slice a xs.length ca) := HX.out.cell 4
  have k5 : Y.cell? ⟨w.heap.size, 5, none⟩ = some (.slice b ys.length cb) := HX.out.cell 5
  have k6 : Y.cell? ⟨w.heap.size, 6, none⟩ = some (.bool m) := HX.out.cell 6
  have k7 : Y.cell? ⟨w.heap.size, 7, none⟩ = some (.slice c us.length cc) := HX.out.cell 7
  have k8 : Y.cell? ⟨w.heap.size, 8, none⟩ = some (.slice d vs.length cd) := HX.out.cell 8
  clear sx sy su sv
  go_enter Tryz.func52, Tryz.ntmps52
  go_wp2_with fail
  refine Calls.mono (HC.out Y (Below.refl _ _)) ?_
  rintro e w1 ⟨a1, c1, a2, c2, a3, c3, a4, c4, rfl, ho, b1, ct⟩
  have HX1 := hid (HX.out.later b1 HX.out.lt)
  have HR1 := hid (HR.out.later b1 HR.out.lt)
  have HB1 := hid (bt HB.out b1)
  have HO := hid (And.intro ho ct)
  clear ho ct k3 k4 k5 k6 k7 k8
  obtain ⟨A0, A1, A2, A3, A4, A5, hA0, hA1, hA2, hA3, hA4, hA5, ⟨q3, q4, q5, q6, q7, q8⟩, ⟨f3, f4, f5, f6, f7, f8⟩, HA⟩ := tchain6 HX1.out (.bool n) (.slice a1 xs.length c1) (.slice a2 ys.length c2) (.bool m) (.slice a3 us.length c3) (.slice a4 vs.length c4)
  have HR2 := hid (HA.out.2.1 _ _ _ (show w.heap.size + 1 ≠ w.heap.size by omega) HR1.out)
  have HX2 := hid HA.out.1
  have k0 : A5.cell? ⟨w.heap.size, 0, none⟩ = some (.string s) := HX2.out.cell 0
  have k1 : A5.cell? ⟨w.heap.size, 1, none⟩ = some (.int .i32 f) := HX2.out.cell 1
  have k2 : A5.cell? ⟨w.heap.size, 2, none⟩ = some (.int .i32 r) := HX2.out.cell 2
  have k3 : A5.cell? ⟨w.heap.size, 3, none⟩ = some (.bool n) := HX2.out.cell 3
  have k4 : A5.cell? ⟨w.heap.size, 4, none⟩ = some (.slice a1 xs.length c1) := HX2.out.cell 4
  have k5 : A5.cell? ⟨w.heap.size, 5, none⟩ = some (.slice a2 ys.length c2) := HX2.out.cell 5
  have k6 : A5.cell? ⟨w.heap.size, 6, none⟩ = some (.bool m) := HX2.out.cell 6
  have k7 : A5.cell? ⟨w.heap.size, 7, none⟩ = some (.slice a3 us.length c3) := HX2.out.cell 7
  have k8 : A5.cell? ⟨w.heap.size, 8, none⟩ = some (.slice a4 vs.length c4) := HX2.out.cell 8
  obtain ⟨B0, B1, B2, B3, B4, B5, B6, B7, B8, hB0, hB1, hB2, hB3, hB4, hB5, hB6, hB7, hB8, ⟨q0_, q1_, q2_, q3_, q4_, q5_, q6_, q7_, q8_⟩, ⟨f0_, f1_, f2_, f3_, f4_, f5_, f6_, f7_, f8_⟩⟩ := tchain9 HR2.out (.string s) (.int .i32 f) (.int .i32 r) (.bool n) (.slice a1 xs.length c1) (.slice a2 ys.length c2) (.bool m) (.slice a3 us.length c3) (.slice a4 vs.length c4)
  have HE : Hid (Box B8 (w.heap.size + 1) 37 #[.string s, .int .i32 f, .int .i32 r, .bool n, .slice a1 xs.length c1, .slice a2 ys.length c2, .bool m, .slice a3 us.length c3, .slice a4 vs.length c4] ∧ Below w.heap.size w B8 ∧ B8.heap.size = w1.heap.size ∧ ∀ (base k : Nat) (v : Value) (l : List Value), w.heap.size + 1 < base → w1.ownsRow base 78 1 v k l → B8.ownsRow base 78 1 v k l) := by
    have hr := HR2.out
    have hbw := HA.out.2.2.2.1 _ _ (Nat.le_refl _) HB1.out
    have hs := HA.out.2.2.2.2
    have hw := HA.out.2.2.1
    clear hA0 hA1 hA2 hA3 hA4 hA5 q0_ f0_ q1_ f1_ q2_ f2_ q3_ f3_ q4_ f4_ q5_ f5_ q6_ f6_ q7_ f7_ q8_ f8_ q3 f3 q4 f4 q5 f5 q6 f6 q7 f7 q8 f8 k0 k1 k2 k3 k4 k5 k6 k7 k8
    subst hB0 hB1 hB2 hB3 hB4 hB5 hB6 hB7 hB8
    refine ⟨box_put9 hr _ _ _ _ _ _ _ _ _, below_put9 hbw _ (by omega) _ _ _ _ _ _ _ _ _, by simp only [World.size_setCell]; exact hs, fun base k v l hb h => ?_⟩
    have h5 := hw base k v l (fun g hg => by have := (h.lt g hg).1; omega) h
    have hne : ∀ g, v.ownBlock = some g → g ≠ w.heap.size + 1 := fun g hg => by have := (h.lt g hg).1; omega
    exact own_put1 (own_put1 (own_put1 (own_put1 (own_put1 (own_put1 (own_put1 (own_put1 (own_put1 (h5) _ hne 0 _) _ hne 1 _) _ hne 2 _) _ hne 3 _) _ hne 4 _) _ hne 5 _) _ hne 6 _) _ hne 7 _) _ hne 8 _
  go_wp2_with fail
  refine bodyPost_ret (results_cell_row (by rfl) _ _ (w.heap.size + 1) 37 _ (0, 0) _ (by rfl) HE.out.1 Tryz.underlying37 rfl (by kernel_rfl)) rfl ?_
  have r2 := HYs.out
  have r4 := HB.out.size
  obtain ⟨⟨o1, o2, o3, o4⟩, W1, ct1, ct2⟩ := HO.out
  refine ⟨_, _, _, _, _, _, _, _, rfl, ⟨?_, ?_, ?_, ?_⟩, HE.out.2.1, W1, ct1.up (by omega) (Nat.le_refl _), ct2.up (Nat.le_refl _) (Nat.le_of_eq HE.out.2.2.1.symm)⟩
  · exact owns_base (HE.out.2.2.2 _ _ _ _ (by omega) o1) (by omega)
  · exact owns_base (HE.out.2.2.2 _ _ _ _ (by omega) o2) (by omega)
  · exact owns_base (HE.out.2.2.2 _ _ _ _ (by omega) o3) (by omega)
  · exact owns_base (HE.out.2.2.2 _ _ _ _ (by omega) o4) (by omega)
end Go.Proofs.YtnfemheabikolaaGreatDoor

/- A port that is being made: its box, its row of constituents, which grows by append; what a copy of a constituent tells. -/
namespace Go.Proofs.YtnfemheabikolaaGreatDoor
open Go.RowKit
set_option linter.unusedVariables false
set_option linter.unusedSimpArgs false

theorem Tryz.infoT : (Tryz.prog.info? 37).map (fun i => (i.zero, i.size, i.bytes)) = some (some (.agg #[.string ⟨#[]⟩, .int .i32 0, .int .i32 0, .bool false, .slice none 0 0, .slice none 0 0, .bool false, .slice none 0 0, .slice none 0 0]), 9, 136) := by kernel_rfl
theorem qcells_new (w : World) (cs : Array Value) (t : TypeId) : ∀ j u, cs.toList[j]? = some u → (w.alloc (.cells cs t)).cell? ((⟨w.heap.size, 0, none⟩ : Addr).add j) = some u := by
  intro j u hj
  have h := (Box.made w t cs).cell j
  rw [Array.getElem?_toList] at hj
  rw [hj] at h
  have e : (⟨w.heap.size, 0, none⟩ : Addr).add j = ⟨w.heap.size, j, none⟩ := by unfold Addr.add; split <;> simp_all
  rw [e]
  exact h
theorem TL.one (t : TL) : ∀ u ∈ t.cells.toList, u.oneCell' = true := by
  intro u hu
  simp only [TL.cells, List.mem_cons, List.not_mem_nil, or_false] at hu
  rcases hu with rfl | rfl | rfl | rfl | rfl | rfl | rfl | rfl | rfl <;> rfl
theorem qown_box {U : World} {base e n b t s : Nat} {v : Value} {xs : List Value} {vs : Array Value} (h : U.ownsRow base e s v n xs) (hb : Box U b t vs) (hne : e ≠ t) : ∀ g, v.ownBlock = some g → g ≠ b := fun g hg => by
  rcases h.2 with ⟨rfl, _⟩ | ⟨g1, c1, u1, rfl, _, hg1, _⟩
  · simp [Value.ownBlock] at hg
  · simp [Value.ownBlock] at hg
    subst hg
    intro e2
    subst e2
    unfold Box at hb
    rw [hg1] at hb
    injection hb with hb
    injection hb with _ h2
    exact hne h2
theorem qown_put {w : World} {base e n s : Nat} {v : Value} {xs : List Value} (h : w.ownsRow base e s v n xs) (b : Nat) (hb : ∀ g, v.ownBlock = some g → g ≠ b) (j : Nat) (v0 : Value) : (w.setCell ⟨b, j, none⟩ v0).ownsRow base e s v n xs := by
  have hne : v.ownBlock = none ∨ v.ownBlock ≠ some b := by
    cases hv : v.ownBlock with
    | none => exact .inl rfl
    | some g => right; intro e; exact hb g hv (Option.some.inj e)
  exact World.ownsRow.kept h (grown_set w ⟨b, j, none⟩ v0) hne
theorem qown_slice {w : World} {base e n s : Nat} {v : Value} {xs : List Value} (h : w.ownsRow base e s v n xs) : ∃ a cap, v = .slice a n cap := by
  rcases h.2 with ⟨h1, h0⟩ | ⟨g, cap, cur, hv, _⟩
  · subst h0; exact ⟨_, _, h1⟩
  · exact ⟨_, _, hv⟩
theorem TL.Ow_put {g : G6} {W : World} {base : Nat} (h : g.Ow W base) {b t : Nat} {vs : Array Value} (hb : Box W b t vs) (ht : 78 ≠ t) (j : Nat) (v0 : Value) : g.Ow (W.setCell ⟨b, j, none⟩ v0) base :=
  ⟨qown_put h.1 b (qown_box h.1 hb ht) j v0, qown_put h.2.1 b (qown_box h.2.1 hb ht) j v0, qown_put h.2.2.1 b (qown_box h.2.2.1 hb ht) j v0, qown_put h.2.2.2 b (qown_box h.2.2.2 hb ht) j v0⟩
theorem TL.Ow_kept {g : G6} {W W' : World} {base b e s n : Nat} {v : Value} {xs : List Value} (h : g.Ow W base) (hv : W.ownsRow b e s v n xs) (he : 78 ≠ e) (hg : W.grownBy W' v.ownBlock) : g.Ow W' base :=
  ⟨h.1.kept hg (qown_unlike h.1 hv he), h.2.1.kept hg (qown_unlike h.2.1 hv he), h.2.2.1.kept hg (qown_unlike h.2.2.1 hv he), h.2.2.2.kept hg (qown_unlike h.2.2.2 hv he)⟩
structure CpI (p : PV) (w : World) (B : Nat) (a1 : Option Addr) (c1 : Nat) (a2 : Option Addr) (c2 : Nat) (L E : List TL) (a : Option Addr) (ct : Nat) (W : World) : Prop where
  box : Box W B 27 #[.string p.s, .bool p.n, .slice a1 p.xs.length c1, .slice a2 p.ys.length c2, .slice a L.length ct]
  mx : W.ownsRow w.heap.size 78 1 (.slice a1 p.xs.length c1) p.xs.length (p.xs.map (Value.int .u32))
  my : W.ownsRow w.heap.size 78 1 (.slice a2 p.ys.length c2) p.ys.length (p.ys.map (Value.int .u32))
  row : W.ownsRow w.heap.size 37 9 (.slice a L.length ct) L.length (flatT L)
  els : ∀ t ∈ E, t.g.Ow W w.heap.size
  sq : ∃ c d, w.heap.size ≤ c ∧ c ≤ d ∧ Lies (.slice a1 p.xs.length c1) w.heap.size c ∧ Lies (.slice a2 p.ys.length c2) c d ∧ TSq d W.heap.size E
  bel : Below w.heap.size w W
  low : w.heap.size + 1 < B
theorem CpI.later {p : PV} {w : World} {B : Nat} {a1 : Option Addr} {c1 : Nat} {a2 : Option Addr} {c2 : Nat} {L E : List TL} {a : Option Addr} {ct : Nat} {W W' : World} (h : CpI p w B a1 c1 a2 c2 L E a ct W) (hb : Below W.heap.size W W') : CpI p w B a1 c1 a2 c2 L E a ct W' := by
  obtain ⟨c, d, h1, h2, h3, h4, h5⟩ := h.sq
  exact ⟨h.box.later hb h.box.lt, qown_later h.mx hb, qown_later h.my hb, qown_later h.row hb, fun t ht => (h.els t ht).later hb, ⟨c, d, h1, h2, h3, h4, h5.wide (Nat.le_refl _) hb.size⟩, bt h.bel hb, h.low⟩
theorem CpI.call {p : PV} {w : World} {B : Nat} {a1 : Option Addr} {c1 : Nat} {a2 : Option Addr} {c2 : Nat} {L E : List TL} {a : Option Addr} {ct : Nat} {W W' : World} (h : CpI p w B a1 c1 a2 c2 L E a ct W) (hb : Below W.heap.size W W') {u : TL} (o : u.g.Ow W' W.heap.size) (i : u.g.In W.heap.size W'.heap.size) : CpI p w B a1 c1 a2 c2 L (E ++ [u]) a ct W' := by
  have h' := h.later hb
  obtain ⟨c, d, h1, h2, h3, h4, h5⟩ := h.sq
  refine ⟨h'.box, h'.mx, h'.my, h'.row, fun t ht => ?_, ⟨c, d, h1, h2, h3, h4, h5.snoc (Nat.le_refl _) hb.size i (Nat.le_refl _)⟩, h'.bel, h.low⟩
  rcases List.mem_append.1 ht with q | q
  · exact h'.els t q
  · rw [List.mem_singleton.1 q]
    exact o.base h.bel.size
theorem CpI.add {p : PV} {w : World} {B : Nat} {a1 : Option Addr} {c1 : Nat} {a2 : Option Addr} {c2 : Nat} {L : List TL} {u : TL} {a : Option Addr} {ct : Nat} {W W' : World} {v' : Value} (h : CpI p w B a1 c1 a2 c2 L (L ++ [u]) a ct W) (o : W'.ownsRow w.heap.size 37 9 v' (L.length + 1) (flatT L ++ u.cells.toList)) (hg : W.grownBy W' (Value.slice a L.length ct).ownBlock) :
    Hid (Box W' B 27 #[.string p.s, .bool p.n, .slice a1 p.xs.length c1, .slice a2 p.ys.length c2, .slice a L.length ct]) ∧ ∃ a' ct', v' = .slice a' (L.length + 1) ct' ∧ ∃ Z, W'.setCell ⟨B, 4, none⟩ v' = Z ∧ Hid (CpI p w B a1 c1 a2 c2 (L ++ [u]) (L ++ [u]) a' ct' Z ∧ ∀ b t vs, b ≠ B → Box W b t vs → t ≠ 37 ∨ (∀ g, (Value.slice a L.length ct).ownBlock = some g → g ≠ b) → Box Z b t vs) := by
  have hB : Box W' B 27 #[.string p.s, .bool p.n, .slice a1 p.xs.length c1, .slice a2 p.ys.length c2, .slice a L.length ct] := qbox_gby h.box hg (fun e => qown_box h.row h.box (by decide) B e rfl)
  refine ⟨hB, ?_⟩
  obtain ⟨a', ct', rfl⟩ := qown_slice o
  have hl : (L ++ [u]).length = L.length + 1 := by simp
  have hs : W'.heap.size = (W'.setCell ⟨B, 4, none⟩ (.slice a' (L.length + 1) ct')).heap.size := by simp [World.setCell]
  obtain ⟨c, d, h1, h2, h3, h4, h5⟩ := h.sq
  refine ⟨a', ct', rfl, _, rfl, ⟨?_, ?_, ?_, ?_, fun t ht => ?_, ⟨c, d, h1, h2, h3, h4, h5.wide (Nat.le_refl _) (by rw [← hs]; exact hg.size)⟩, ?_, h.low⟩, ?_⟩
  · rw [hl]
    exact hB.set 4 _
  · have q := h.mx.kept hg (qown_unlike h.mx h.row (by decide))
    exact qown_put q B (qown_box q hB (by decide)) 4 _
  · have q := h.my.kept hg (qown_unlike h.my h.row (by decide))
    exact qown_put q B (qown_box q hB (by decide)) 4 _
  · rw [hl, flatT_snoc]
    exact qown_put o B (qown_box o hB (by decide)) 4 _
  · exact TL.Ow_put (TL.Ow_kept (h.els t ht) h.row (by decide) hg) hB (by decide) 4 _
  · have q : Below w.heap.size w W' := h.bel.grown hg h.bel.size (fun g e => (h.row.lt g e).1)
    exact q.setCell (p := ⟨B, 4, none⟩) (by have := h.low; show w.heap.size ≤ B; omega) _
  · intro b t vs hne hb ht
    have q : Box W' b t vs := qbox_gby hb hg (fun e => by
      rcases ht with ht | ht
      · exact qown_box h.row hb (fun e2 => ht e2.symm) b e rfl
      · exact ht b e rfl)
    exact q.other ⟨B, 4, none⟩ _ hne
theorem tlcopy_any (t : TL) (w : World) (h : t.ok w) (hf : t.v.few) : Calls Tryz.prog 52 #[.agg t.cells] w fun e w' => ∃ u : TL, e = .returned (.agg u.cells) ∧ u.v = t.v ∧ u.g.Ow w' w.heap.size ∧ u.g.In w.heap.size w'.heap.size ∧ Below w.heap.size w w' := by
  refine Calls.mono (tCopy_any t.s t.f t.r t.n t.a t.ca t.xs t.b t.cb t.ys t.m t.c t.cc t.us t.d t.cd t.vs w h.sx h.sy h.su h.sv hf.1 hf.2.1 hf.2.2.1 hf.2.2.2) ?_
  rintro e w' ⟨a1, c1, a2, c2, a3, c3, a4, c4, rfl, ho, hb, W1, k1, k2⟩
  exact ⟨⟨t.s, t.f, t.r, t.n, a1, c1, t.xs, a2, c2, t.ys, t.m, a3, c3, t.us, a4, c4, t.vs⟩, rfl, rfl, ho, G6.in_of ho k1 k2, hb⟩
theorem pchain5 {W : World} {b t : Nat} {u0 u1 u2 u3 u4 : Value} (h : Box W b t #[u0, u1, u2, u3, u4]) (v0 v1 v2 v3 v4 : Value) : ∃ A0 A1 A2 A3 A4, W.setCell ⟨b, 0, none⟩ v0 = A0 ∧ A0.setCell ⟨b, 1, none⟩ v1 = A1 ∧ A1.setCell ⟨b, 2, none⟩ v2 = A2 ∧ A2.setCell ⟨b, 3, none⟩ v3 = A3 ∧ A3.setCell ⟨b, 4, none⟩ v4 = A4 ∧ (W.cell? ⟨b, 0, none⟩ = some u0 ∧ A0.cell? ⟨b, 1, none⟩ = some u1 ∧ A1.cell? ⟨b, 2, none⟩ = some u2 ∧ A2.cell? ⟨b, 3, none⟩ = some u3 ∧ A3.cell? ⟨b, 4, none⟩ = some u4) ∧ (W.frozen? ⟨b, 0, none⟩ = false ∧ A0.frozen? ⟨b, 1, none⟩ = false ∧ A1.frozen? ⟨b, 2, none⟩ = false ∧ A2.frozen? ⟨b, 3, none⟩ = false ∧ A3.frozen? ⟨b, 4, none⟩ = false) ∧
    Hid (Box A4 b t #[v0, v1, v2, v3, v4] ∧ (∀ p t' vs, p ≠ b → Box W p t' vs → Box A4 p t' vs) ∧ (∀ base e s v n xs, e ≠ t → W.ownsRow base e s v n xs → A4.ownsRow base e s v n xs) ∧ (∀ B x, B ≤ b → Below B x W → Below B x A4) ∧ A4.heap.size = W.heap.size) := by
  have h0 : Box _ b t #[v0, u1, u2, u3, u4] := h.set 0 v0
  have h1 : Box _ b t #[v0, v1, u2, u3, u4] := h0.set 1 v1
  have h2 : Box _ b t #[v0, v1, v2, u3, u4] := h1.set 2 v2
  have h3 : Box _ b t #[v0, v1, v2, v3, u4] := h2.set 3 v3
  have h4 : Box _ b t #[v0, v1, v2, v3, v4] := h3.set 4 v4
  exact ⟨_, _, _, _, _, rfl, rfl, rfl, rfl, rfl, ⟨h.cell 0, h0.cell 1, h1.cell 2, h2.cell 3, h3.cell 4⟩, ⟨h.free 0, h0.free 1, h1.free 2, h2.free 3, h3.free 4⟩, h4, fun p t' vs hne g => (((((g.other ⟨b, 0, none⟩ v0 hne).other ⟨b, 1, none⟩ v1 hne).other ⟨b, 2, none⟩ v2 hne).other ⟨b, 3, none⟩ v3 hne).other ⟨b, 4, none⟩ v4 hne), fun base e s v n xs ht g => (by have kk := qown_box g h ht; exact (qown_put (qown_put (qown_put (qown_put (qown_put g _ kk 0 v0) _ kk 1 v1) _ kk 2 v2) _ kk 3 v3) _ kk 4 v4)), fun B x hB g => (((((g.setCell (p := ⟨b, 0, none⟩) hB v0).setCell (p := ⟨b, 1, none⟩) hB v1).setCell (p := ⟨b, 2, none⟩) hB v2).setCell (p := ⟨b, 3, none⟩) hB v3).setCell (p := ⟨b, 4, none⟩) hB v4), by simp [World.setCell]⟩
theorem CpI.start {p : PV} {w V w1 W A : World} {B : Nat} {a1 : Option Addr} {c1 : Nat} {a2 : Option Addr} {c2 : Nat} (hV : Below w.heap.size w V) (o1 : w1.ownsRow V.heap.size 78 1 (.slice a1 p.xs.length c1) p.xs.length (p.xs.map (Value.int .u32))) (o2 : w1.ownsRow V.heap.size 78 1 (.slice a2 p.ys.length c2) p.ys.length (p.ys.map (Value.int .u32))) (b1 : Below V.heap.size V w1) (k : Cut V (.slice a1 p.xs.length c1) (.slice a2 p.ys.length c2) w1) (hW : Below w1.heap.size w1 W)
    (hA : Box A B 27 #[.string p.s, .bool p.n, .slice a1 p.xs.length c1, .slice a2 p.ys.length c2, .slice none 0 0] ∧ (∀ q t' vs, q ≠ B → Box W q t' vs → Box A q t' vs) ∧ (∀ base e s v n xs, e ≠ 27 → W.ownsRow base e s v n xs → A.ownsRow base e s v n xs) ∧ (∀ B' x, B' ≤ B → Below B' x W → Below B' x A) ∧ A.heap.size = W.heap.size) (hB : w.heap.size + 1 < B) : CpI p w B a1 c1 a2 c2 [] [] none 0 A := by
  obtain ⟨h1, _, h3, h4, h5⟩ := hA
  obtain ⟨c, c0, c1', l0, l1⟩ := k
  have hs := hV.size
  have hs2 := hW.size
  refine ⟨h1, h3 _ _ _ _ _ _ (by decide) (qown_later (qown_base o1 hV.size) hW), h3 _ _ _ _ _ _ (by decide) (qown_later (qown_base o2 hV.size) hW), World.ownsRow_nil _ _ _ _, fun t ht => absurd ht (by simp), ⟨c, w1.heap.size, by omega, c1', fun g e => by have := l0 g e; omega, l1, by unfold TSq; omega⟩, h4 _ _ (by omega) (bt (bt hV b1) hW), hB⟩
theorem CpI.done {p : PV} {w W A : World} {B : Nat} {a1 : Option Addr} {c1 : Nat} {a2 : Option Addr} {c2 : Nat} {L : List TL} {a : Option Addr} {ct b : Nat} (h : CpI p w B a1 c1 a2 c2 L L a ct W) (hv : L.map TL.v = p.ts) (hb : w.heap.size ≤ b)
    (hA : ∀ base e s v n xs, e ≠ 27 → W.ownsRow base e s v n xs → A.ownsRow base e s v n xs) (hA2 : ∀ B' x, B' ≤ b → Below B' x W → Below B' x A) (hA3 : A.heap.size = W.heap.size) : Made ⟨p.s, p.n, a1, c1, p.xs, a2, c2, p.ys, a, ct, L⟩ p w A := by
  obtain ⟨c, d, h1, h2, h3, h4, h5⟩ := h.sq
  refine ⟨?_, ⟨hA _ _ _ _ _ _ (by decide) h.mx, hA _ _ _ _ _ _ (by decide) h.my, hA _ _ _ _ _ _ (by decide) h.row, fun t ht => ?_⟩, ⟨c, d, h1, h2, h3, h4, h5.wide (Nat.le_refl _) (Nat.le_of_eq hA3.symm)⟩, hA2 _ _ hb h.bel⟩
  · unfold PL.v
    rw [hv]
  · have q := h.els t ht
    exact ⟨hA _ _ _ _ _ _ (by decide) q.1, hA _ _ _ _ _ _ (by decide) q.2.1, hA _ _ _ _ _ _ (by decide) q.2.2.1, hA _ _ _ _ _ _ (by decide) q.2.2.2⟩
theorem CpI.of_made {q : PL} {v : PV} {w V w5 W A : World} {B : Nat} (hm : Made q v V w5) (hV : Below w.heap.size w V) (hW : Below w5.heap.size w5 W)
    (hA : Box A B 27 #[.string q.s, .bool q.n, .slice q.a q.xs.length q.ca, .slice q.b q.ys.length q.cb, .slice q.t q.ts.length q.ct] ∧ (∀ b t' vs, b ≠ B → Box W b t' vs → Box A b t' vs) ∧ (∀ base e s v n xs, e ≠ 27 → W.ownsRow base e s v n xs → A.ownsRow base e s v n xs) ∧ (∀ B' x, B' ≤ B → Below B' x W → Below B' x A) ∧ A.heap.size = W.heap.size) (hB : w.heap.size + 1 < B) : CpI q.v w B q.a q.ca q.b q.cb q.ts q.ts q.t q.ct A := by
  obtain ⟨h1, _, h3, h4, h5⟩ := hA
  obtain ⟨c, d, c0, c1, l0, l1, sq⟩ := hm.sep
  have hs := hV.size
  have hs2 := hW.size
  have hw := (hm.ow.base hV.size).later hW
  refine ⟨h1, h3 _ _ _ _ _ _ (by decide) hw.mx, h3 _ _ _ _ _ _ (by decide) hw.my, h3 _ _ _ _ _ _ (by decide) hw.row, fun t ht => ?_, ⟨c, d, by omega, c1, fun g e => by have := l0 g e; omega, l1, sq.wide (Nat.le_refl _) (by omega)⟩, h4 _ _ (by omega) (bt (bt hV hm.bel) hW), hB⟩
  have q := hw.els t ht
  exact ⟨h3 _ _ _ _ _ _ (by decide) q.1, h3 _ _ _ _ _ _ (by decide) q.2.1, h3 _ _ _ _ _ _ (by decide) q.2.2.1, h3 _ _ _ _ _ _ (by decide) q.2.2.2⟩
theorem CpI.re {p : PV} {w : World} {B : Nat} {a1 : Option Addr} {c1 : Nat} {a2 : Option Addr} {c2 : Nat} {L E : List TL} {a : Option Addr} {ct : Nat} {W : World} (h : CpI p w B a1 c1 a2 c2 L E a ct W) (ts : List TV) : CpI ⟨p.s, p.n, p.xs, p.ys, ts⟩ w B a1 c1 a2 c2 L E a ct W := ⟨h.box, h.mx, h.my, h.row, h.els, h.sq, h.bel, h.low⟩
def PV.zero : PV := ⟨⟨#[]⟩, false, [], [], []⟩
def PL.zero : PL := ⟨⟨#[]⟩, false, none, 0, [], none, 0, [], none, 0, []⟩
theorem Made.none {w W : World} (h : Below w.heap.size w W) : Made PL.zero PV.zero w W :=
  ⟨rfl, ⟨World.ownsRow_nil _ _ _ _, World.ownsRow_nil _ _ _ _, World.ownsRow_nil _ _ _ _, fun t ht => absurd ht (by simp [PL.zero])⟩, ⟨w.heap.size, w.heap.size, Nat.le_refl _, Nat.le_refl _, (fun g e => by cases e), (fun g e => by cases e), h.size⟩, h⟩
theorem pres_run {fn : Func} {W : World} {b q u : Nat} {cs : Array Value} (hr : fn.results = #[.cell q 27, .tmp u]) (hb : Box W b 27 cs) (tmps : Array Value) (h4 : tmps.getD q undef = .pointer (some ⟨b, 0, none⟩)) (hi : (Tryz.prog.info? 27).map (·.size) = some cs.size := by kernel_rfl) : (results fn tmps).run Tryz.prog W = .ok (.tuple #[.agg cs, tmps.getD u undef]) W := by
  have h := run_loadVar_row (P := Tryz.prog) W b 27 27 cs (0, 0) _ hb Tryz.underlying27 rfl hi
  rw [results_cell_tmp hr, h4]
  simp [asAddr, h]
theorem pzero5 {W : World} {b t : Nat} (h : Box W b t #[.string ⟨#[]⟩, .bool false, .slice none 0 0, .slice none 0 0, .slice none 0 0]) : (W.setCell ⟨b, 0, none⟩ (.string ⟨#[]⟩) = W ∧ W.setCell ⟨b, 1, none⟩ (.bool false) = W ∧ W.setCell ⟨b, 2, none⟩ (.slice none 0 0) = W ∧ W.setCell ⟨b, 3, none⟩ (.slice none 0 0) = W ∧ W.setCell ⟨b, 4, none⟩ (.slice none 0 0) = W) ∧ (W.cell? ⟨b, 0, none⟩ = some (.string ⟨#[]⟩) ∧ W.cell? ⟨b, 1, none⟩ = some (.bool false) ∧ W.cell? ⟨b, 2, none⟩ = some (.slice none 0 0) ∧ W.cell? ⟨b, 3, none⟩ = some (.slice none 0 0) ∧ W.cell? ⟨b, 4, none⟩ = some (.slice none 0 0)) ∧ (W.frozen? ⟨b, 0, none⟩ = false ∧ W.frozen? ⟨b, 1, none⟩ = false ∧ W.frozen? ⟨b, 2, none⟩ = false ∧ W.frozen? ⟨b, 3, none⟩ = false ∧ W.frozen? ⟨b, 4, none⟩ = false) :=
  ⟨⟨h.same rfl, h.same rfl, h.same rfl, h.same rfl, h.same rfl⟩, ⟨h.cell 0, h.cell 1, h.cell 2, h.cell 3, h.cell 4⟩, h.free 0, h.free 1, h.free 2, h.free 3, h.free 4⟩
end Go.Proofs.YtnfemheabikolaaGreatDoor

/- package port: copied, of every port that is not too long. -/
namespace Go.Proofs.YtnfemheabikolaaGreatDoor
open Go.RowKit
set_option linter.unusedVariables false
set_option linter.unusedSimpArgs false

set_option maxHeartbeats 3200000 in
set_option maxRecDepth 100000 in
theorem pCopied_any (p : PL) (w : World) (h : p.ok w) (hf : p.v.few) : Calls Tryz.prog 51 #[.agg p.cells] w fun e w' => ∃ q : PL, e = .returned (.agg q.cells) ∧ Made q p.v w w' := by
  obtain ⟨i0, hi0, hz0, hz1, hz2⟩ := info_parts Tryz.infoT
  obtain ⟨s, n, a, ca, xs, b, cb, ys, t, ct, ts⟩ := p
  obtain ⟨hfx, hfy, hfl, hfe⟩ := hf
  have HTS : Hid (RdT w t ts) := h.ts
  have HFW : Hid (∀ j, j < ts.length → (tT ts j).v.few) := fun j hj => hfe _ (List.mem_map.2 ⟨_, tT_mem hj, rfl⟩)
  have sx : Sl w (.slice a xs.length ca) xs := h.sx
  have sy : Sl w (.slice b ys.length cb) ys := h.sy
  have hfl' : ts.length ≤ 1000000 := by
    have : (ts.map TL.v).length ≤ 1000000 := hfl
    simpa using this
  clear h hfl hfe
  unfold PL.cells
  dsimp only
  obtain ⟨N, hN⟩ : ∃ N, ts.length = N := ⟨_, rfl⟩
  have HLN := hid hN
  rw [hN] at hfl' ⊢
  clear hN
  obtain ⟨X, hX⟩ : ∃ X, w.alloc (.cells #[.string s, .bool n, .slice a xs.length ca, .slice b ys.length cb, .slice t N ct] 27) = X := ⟨_, rfl⟩
  obtain ⟨Y, hY⟩ : ∃ Y, X.alloc (.cells #[.string ⟨#[]⟩, .bool false, .slice none 0 0, .slice none 0 0, .slice none 0 0] 27) = Y := ⟨_, rfl⟩
  have HX : Hid (Box Y w.heap.size 27 #[.string s, .bool n, .slice a xs.length ca, .slice b ys.length cb, .slice t N ct]) := by
    subst hY hX
    exact (Box.made w _ _).later (alloc_later _ _) (Box.made w 27 _).lt
  have HR : Hid (Box Y X.heap.size 27 #[.string ⟨#[]⟩, .bool false, .slice none 0 0, .slice none 0 0, .slice none 0 0]) := by
    subst hY
    exact Box.made X _ _
  have HXs : X.heap.size = w.heap.size + 1 := by subst hX; simp
  have HB : Hid (Below w.heap.size w Y) := by
    subst hY hX
    exact bt (alloc_later _ _) (alloc_later _ _)
  rw [HXs] at HR
  have HYs : Hid (w.heap.size + 1 < Y.heap.size) := HR.out.lt
  have HC : Hid (∀ V, Below Y.heap.size Y V → Calls Tryz.prog 115 #[.agg #[.bool n, .slice a xs.length ca, .slice b ys.length cb]] V fun e w' => ∃ a1 c1 a2 c2, e = .returned (.agg #[.bool n, .slice a1 xs.length c1, .slice a2 ys.length c2]) ∧ w'.ownsRow V.heap.size 78 1 (.slice a1 xs.length c1) xs.length (xs.map (Value.int .u32)) ∧ w'.ownsRow V.heap.size 78 1 (.slice a2 ys.length c2) ys.length (ys.map (Value.int .u32)) ∧ Below V.heap.size V w' ∧ Cut V (.slice a1 xs.length c1) (.slice a2 ys.length c2) w') := fun V hV => pcopyR_any n a ca xs b cb ys V (sx.later (bt HB.out hV)) (sy.later (bt HB.out hV)) hfx hfy
  have HS : Hid (∀ V, Box V w.heap.size 27 #[.string s, .bool n, .slice a xs.length ca, .slice b ys.length cb, .slice t N ct] → V.cell? ⟨w.heap.size, 0, none⟩ = some (.string s) ∧ V.cell? ⟨w.heap.size, 1, none⟩ = some (.bool n) ∧ V.cell? ⟨w.heap.size, 2, none⟩ = some (.slice a xs.length ca) ∧ V.cell? ⟨w.heap.size, 3, none⟩ = some (.slice b ys.length cb)) := fun V h => ⟨h.cell 0, h.cell 1, h.cell 2, h.cell 3⟩
  have HXL : Hid (∀ V, Below Y.heap.size Y V → Box V w.heap.size 27 #[.string s, .bool n, .slice a xs.length ca, .slice b ys.length cb, .slice t N ct]) := fun V hV => HX.out.later hV HX.out.lt
  have hd0 := hid (Below.refl Y.heap.size Y)
  clear sx sy hfx hfy
  go_enter Tryz.func51, Tryz.ntmps51
  go_wp2_with fail
  go_cut [3] from 6 (fun s3 wx => ∃ B a1 c1 a2 c2, s3 = .pointer (some ⟨B, 0, none⟩) ∧ Hid (CpI ⟨s, n, xs, ys, ts.map TL.v⟩ w B a1 c1 a2 c2 [] [] none 0 wx) ∧ Hid (Box wx w.heap.size 27 #[.string s, .bool n, .slice a xs.length ca, .slice b ys.length cb, .slice t N ct] ∧ Box wx (w.heap.size + 1) 27 #[.string ⟨#[]⟩, .bool false, .slice none 0 0, .slice none 0 0, .slice none 0 0]))
  case first =>
    have hs0 := HS.out _ (HXL.out _ hd0.out.drew)
    have hsa := HS.out _ (HXL.out _ ((bel_al hd0.out (.cells #[.string ⟨#[]⟩, .bool false, .slice none 0 0, .slice none 0 0, .slice none 0 0] 27)).drew))
    go_region_held3 (fun V : World => V.cell? ⟨w.heap.size, 0, none⟩ = some (.string s) ∧ V.cell? ⟨w.heap.size, 1, none⟩ = some (.bool n) ∧ V.cell? ⟨w.heap.size, 2, none⟩ = some (.slice a xs.length ca) ∧ V.cell? ⟨w.heap.size, 3, none⟩ = some (.slice b ys.length cb)) (first | exact hs2 | exact hs1a | exact hs1 | exact hsa | exact hs0 | go_keep)
      (first
        | (go_at_call 115; (with_reducible refine Calls.mono (HC.out _ (by first | exact hd0.out.drew | exact (bel_al hd0.out _).drew)) ?_); rintro e w1 ⟨a1, c1, a2, c2, rfl, o1, o2, b1, ct1⟩; (first | (have hbA := hid (bt hd0.out.drew b1)) | (have hbA := hid (bt (bel_al hd0.out _).drew b1))); have HA1 := hid (And.intro o1 (And.intro o2 (And.intro b1 ct1))); have hs1 := HS.out _ (HXL.out _ hbA.out); have hs1a := HS.out _ (HXL.out _ (bel_al hbA.out (.cells #[.string ⟨#[]⟩, .bool false, .slice none 0 0, .slice none 0 0, .slice none 0 0] 27))); (first | (have HQ := hid (Box.later ((Box.made Y 27 #[.string ⟨#[]⟩, .bool false, .slice none 0 0, .slice none 0 0, .slice none 0 0]).drewN 1) b1 (Box.made Y 27 _).lt)) | (have HQ := hid (Box.made w1 27 #[.string ⟨#[]⟩, .bool false, .slice none 0 0, .slice none 0 0, .slice none 0 0]))); obtain ⟨A0, A1, A2, A3, A4, hA0, hA1, hA2, hA3, hA4, ⟨q0, q1, q2, q3, q4⟩, ⟨f0, f1, f2, f3, f4⟩, HA⟩ := pchain5 HQ.out (.string s) (.bool n) (.slice a1 xs.length c1) (.slice a2 ys.length c2) (.slice none 0 0); have hs2 := HS.out A4 (HA.out.2.1 _ _ _ (by have h1 := hbA.out.size; have h2 := HYs.out; omega) (by first | exact HXL.out _ hbA.out | exact HXL.out _ (bel_al hbA.out _)))))
    all_goals
      have HN1 : Hid (w.heap.size + 1 < w1.heap.size) := by have h1 := hbA.out.size; have h2 := HYs.out; show _ < _; omega
      have HE : Hid (∃ B, A4.cell? ⟨B, 0, none⟩ = A4.cell? ⟨B, 0, none⟩) := ⟨0, rfl⟩
      clear HE q0 q1 q2 q3 q4 f0 f1 f2 f3 f4 hs0 hsa hs1 hs1a hs2 HC HS
      go_wp2_with fail
      go_meet
    · exact ⟨_, a1, c1, a2, c2, rfl, CpI.start (p := ⟨s, n, xs, ys, ts.map TL.v⟩) (bt HB.out hd0.out.drew) HA1.out.1 HA1.out.2.1 HA1.out.2.2.1 HA1.out.2.2.2 (alloc_later w1 _) HA.out HN1.out, HA.out.2.1 _ _ _ (by have h1 := HN1.out; omega) (HXL.out _ (bel_al hbA.out _)), HA.out.2.1 _ _ _ (by have h1 := HN1.out; omega) (HR.out.later (bel_al hbA.out _) HR.out.lt)⟩
    · exact ⟨_, a1, c1, a2, c2, rfl, CpI.start (p := ⟨s, n, xs, ys, ts.map TL.v⟩) (bt HB.out (bel_al hd0.out _).drew) HA1.out.1 HA1.out.2.1 HA1.out.2.2.1 HA1.out.2.2.2 (Below.refl _ w1) HA.out HYs.out, HA.out.2.1 _ _ _ (by have h1 := HYs.out; omega) (HXL.out _ hbA.out), HA.out.2.1 _ _ _ (by have h1 := HYs.out; omega) (HR.out.later hbA.out HR.out.lt)⟩
  case rest =>
    obtain ⟨B, a1, c1, a2, c2, rfl, HI, HBX⟩ := hcut
    have k4 : wc.cell? ⟨w.heap.size, 4, none⟩ = some (.slice t N ct) := HBX.out.1.cell 4
    have HRC := hid HBX.out.2
    have HBW := hid HI.out.bel
    clear HBX HC HS HXL HX HR hd0 hX hY HXs HYs HB
    go_wp2_with fail
    clear k4
    go_loopw [15] (fun x wr => ∃ (i : Nat) (L : List TL) (q : Option Addr) (cq : Nat), x = .int .i64 (i : Int) ∧ i ≤ N ∧ Hid (L.map TL.v = (ts.take i).map TL.v) ∧ Hid (CpI ⟨s, n, xs, ys, ts.map TL.v⟩ w B a1 c1 a2 c2 L L q cq wr) ∧ Hid (Box wr (w.heap.size + 1) 27 #[.string ⟨#[]⟩, .bool false, .slice none 0 0, .slice none 0 0, .slice none 0 0])) (fun x _ => N - (intOf x).toNat)
    case atStart => exact ⟨0, [], none, 0, rfl, by omega, (rfl : ([] : List TL).map TL.v = _), HI, HRC⟩
    case round =>
      obtain ⟨i, L, q, cq, rfl, hi, HV, HI, HRC⟩ := hrel
      have hLi : L.length = i := by
        have q := congrArg List.length HV.out
        rw [List.length_map, List.length_map, List.length_take, HLN.out] at q
        omega
      by_cases hin : i < N
      · have hil : i < ts.length := by rw [HLN.out]; exact hin
        have HTW := hid (HTS.out.later HI.out.bel)
        rcases HTW.out.2 with e | ⟨bb, o, rfl, hbb, hc⟩
        · rw [e] at hil; exact absurd hil (by simp)
        have HCC : Hid (∀ V, Below w.heap.size w V → Calls Tryz.prog 52 #[.agg #[.string (tT ts i).s, .int .i32 (tT ts i).f, .int .i32 (tT ts i).r, .bool (tT ts i).n, .slice (tT ts i).a (tT ts i).xs.length (tT ts i).ca, .slice (tT ts i).b (tT ts i).ys.length (tT ts i).cb, .bool (tT ts i).m, .slice (tT ts i).c (tT ts i).us.length (tT ts i).cc, .slice (tT ts i).d (tT ts i).vs.length (tT ts i).cd]] V fun e w' => ∃ u : TL, e = .returned (.agg #[.string u.s, .int .i32 u.f, .int .i32 u.r, .bool u.n, .slice u.a u.xs.length u.ca, .slice u.b u.ys.length u.cb, .bool u.m, .slice u.c u.us.length u.cc, .slice u.d u.vs.length u.cd]) ∧ u.v = (tT ts i).v ∧ u.g.Ow w' V.heap.size ∧ u.g.In V.heap.size w'.heap.size ∧ Below V.heap.size V w') := fun V hV => tlcopy_any (tT ts i) V ((HTS.out.later hV).1 _ (tT_mem hil)) (HFW.out i hil)
        have HVN : Hid (∀ u : TL, u.v = (tT ts i).v → (L ++ [u]).map TL.v = (ts.take (i + 1)).map TL.v) := fun u hu => by
          have q : ts.take (i + 1) = ts.take i ++ [tT ts i] := by
            have e := tT_at hil
            rw [List.take_add_one, e]; rfl
          rw [q, List.map_append, List.map_append, HV.out, List.map_cons, List.map_cons, hu]
        have hci := hc i _ (tT_at hil)
        have e0 := hci 0 (by decide)
        have e1 := hci 1 (by decide)
        have e2 := hci 2 (by decide)
        have e3 := hci 3 (by decide)
        have e4 := hci 4 (by decide)
        have e5 := hci 5 (by decide)
        have e6 := hci 6 (by decide)
        have e7 := hci 7 (by decide)
        have e8 := hci 8 (by decide)
        clear hci hc
        generalize tT ts i = tt at *
        have c0 : wr.cell? ⟨bb, o + i * 9, none⟩ = some (.string tt.s) := e0
        have c1' : wr.cell? ⟨bb, o + i * 9 + 1, none⟩ = some (.int .i32 tt.f) := e1
        have c2' : wr.cell? ⟨bb, o + i * 9 + 2, none⟩ = some (.int .i32 tt.r) := e2
        have c3 : wr.cell? ⟨bb, o + i * 9 + 3, none⟩ = some (.bool tt.n) := e3
        have c4 : wr.cell? ⟨bb, o + i * 9 + 4, none⟩ = some (.slice tt.a tt.xs.length tt.ca) := e4
        have c5 : wr.cell? ⟨bb, o + i * 9 + 5, none⟩ = some (.slice tt.b tt.ys.length tt.cb) := e5
        have c6 : wr.cell? ⟨bb, o + i * 9 + 6, none⟩ = some (.bool tt.m) := e6
        have c7 : wr.cell? ⟨bb, o + i * 9 + 7, none⟩ = some (.slice tt.c tt.us.length tt.cc) := e7
        have c8 : wr.cell? ⟨bb, o + i * 9 + 8, none⟩ = some (.slice tt.d tt.vs.length tt.cd) := e8
        clear e0 e1 e2 e3 e4 e5 e6 e7 e8
        obtain ⟨A0, A1, A2, A3, A4, A5, A6, A7, A8, q0, q1, q2, q3, q4, q5, q6, q7, q8, ⟨r0, r1, r2, r3, r4, r5, r6, r7, r8⟩, ⟨f0, f1, f2, f3, f4, f5, f6, f7, f8⟩, HA⟩ := tlbox wr tt
        have HIA := hid (HI.out.later (bt HA.out.2 (Below.refl _ A8).drew))
        have HRA := hid (HRC.out.later (bt HA.out.2 (Below.refl _ A8).drew) HRC.out.lt)
        have HXA : Hid (Box A8.drew wr.heap.size 37 tt.cells) := HA.out.1.drewN 1
        have hi0' : (0 : Int) ≤ (i : Int) := by omega
        have hi1 : (i : Int) < (N : Int) := by omega
        have HKT : Hid (∀ V, Box V wr.heap.size 37 tt.cells → V.cell? ⟨wr.heap.size, 0, none⟩ = some (.string tt.s) ∧ V.cell? ⟨wr.heap.size, 1, none⟩ = some (.int .i32 tt.f) ∧ V.cell? ⟨wr.heap.size, 2, none⟩ = some (.int .i32 tt.r) ∧ V.cell? ⟨wr.heap.size, 3, none⟩ = some (.bool tt.n) ∧ V.cell? ⟨wr.heap.size, 4, none⟩ = some (.slice tt.a tt.xs.length tt.ca) ∧ V.cell? ⟨wr.heap.size, 5, none⟩ = some (.slice tt.b tt.ys.length tt.cb) ∧ V.cell? ⟨wr.heap.size, 6, none⟩ = some (.bool tt.m) ∧ V.cell? ⟨wr.heap.size, 7, none⟩ = some (.slice tt.c tt.us.length tt.cc) ∧ V.cell? ⟨wr.heap.size, 8, none⟩ = some (.slice tt.d tt.vs.length tt.cd)) := fun V h => ⟨h.cell 0, h.cell 1, h.cell 2, h.cell 3, h.cell 4, h.cell 5, h.cell 6, h.cell 7, h.cell 8⟩
        have hrow : Hid (∀ g, (Value.slice q L.length cq).ownBlock = some g → g < wr.heap.size) := fun g hg => (HI.out.row.lt g hg).2
        have hBw : Hid (B < wr.heap.size) := HI.out.box.lt
        clear HI HRC HA hbb
        go_wp2_with fail
        clear q0 q1 q2 q3 q4 q5 q6 q7 q8 r0 r1 r2 r3 r4 r5 r6 r7 r8 f0 f1 f2 f3 f4 f5 f6 f7 f8 c0 c1' c2' c3 c4 c5 c6 c7 c8
        generalize wr.heap.size = bx at *
        have HLL : Hid (L.length ≤ 1000000) := by show L.length ≤ _; omega
        clear hLi
        obtain ⟨m0, m1, m2, m3, m4, m5, m6, m7, m8⟩ := HKT.out A8 HXA.out
        have z0 : A8.cell? ⟨B, 4, none⟩ = some (.slice q L.length cq) := HIA.out.box.cell 4
        go_region_law (first
          | (go_simp; go_at_call 52; (with_reducible refine Calls.mono (HCC.out _ HIA.out.bel) ?_); rintro e w1 ⟨u, rfl, hu, ou, iu, b1⟩; have HU := hid hu; have HI1 := hid (HIA.out.call b1 ou iu); have HX1 := hid (HXA.out.later b1 HXA.out.lt); have HR1 := hid (HRA.out.later b1 HRA.out.lt); have z1 : w1.cell? ⟨B, 4, none⟩ = some (.slice q L.length cq) := HI1.out.box.cell 4; have n1 : B ≠ w1.heap.size := Nat.ne_of_lt HI1.out.box.lt; have HI2 := hid (HI1.out.later (alloc_later w1 (.cells u.cells 37))); have z2 : (w1.alloc (.cells #[.string u.s, .int .i32 u.f, .int .i32 u.r, .bool u.n, .slice u.a u.xs.length u.ca, .slice u.b u.ys.length u.cb, .bool u.m, .slice u.c u.us.length u.cc, .slice u.d u.vs.length u.cd] 37)).cell? ⟨B, 4, none⟩ = some (.slice q L.length cq) := HI2.out.box.cell 4; have HR2 := hid (HR1.out.later (alloc_later w1 (.cells u.cells 37)) HR1.out.lt); dsimp only)
          | (refine step_append_own_at rfl (.tmp 20) (.tmp 23) 25 rfl w.heap.size 37 i0 (.agg #[.string ⟨#[]⟩, .int .i32 0, .int .i32 0, .bool false, .slice none 0 0, .slice none 0 0, .bool false, .slice none 0 0, .slice none 0 0]) 9 136 Tryz.underlying25 hi0 hz0 hz1 hz2 rfl (by decide) (.slice q L.length cq) L.length (flatT L) rfl HI2.out.row ⟨w1.heap.size, 0, none⟩ 1 1 u.cells.toList rfl rfl (qcells_new w1 _ _) u.one (by have := HLL.out; unfold maxLen; omega) (by have := HLL.out; omega) HI2.out.bel.size ?_; intro v1 y1 o1 g1 at1; obtain ⟨HB1, a', ct', rfl, Z, hZ, HZ⟩ := HI2.out.add o1 g1; have z3 : y1.cell? ⟨B, 4, none⟩ = some (.slice q L.length cq) := HB1.out.cell 4; have z5 : y1.frozen? ⟨B, 4, none⟩ = false := HB1.out.free 4; have HR4 := hid (HZ.out.2 (w.heap.size + 1) _ _ (by have := HZ.out.1.low; omega) HR2.out (.inl (by decide)))))
        all_goals
          have HVN' := hid (HVN.out u HU.out)
          clear z0 z1 z2 z3 z5 m0 m1 m2 m3 m4 m5 m6 m7 m8 HKT HVN HCC
          go_wp2_with fail
          go_roundw
          case rel => exact ⟨i + 1, L ++ [u], a', ct', by go_num, by omega, HVN', HZ.out.1, HR4⟩
          case measure => simp [intOf]; omega
      · obtain rfl : i = N := by omega
        have hi1 : ¬ (i : Int) < (i : Int) := by omega
        have hk0 : wr.cell? ⟨B, 0, none⟩ = some (.string s) := HI.out.box.cell 0
        have hk1 : wr.cell? ⟨B, 1, none⟩ = some (.bool n) := HI.out.box.cell 1
        have hk2 : wr.cell? ⟨B, 2, none⟩ = some (.slice a1 xs.length c1) := HI.out.box.cell 2
        have hk3 : wr.cell? ⟨B, 3, none⟩ = some (.slice a2 ys.length c2) := HI.out.box.cell 3
        have hk4 : wr.cell? ⟨B, 4, none⟩ = some (.slice q L.length cq) := HI.out.box.cell 4
        obtain ⟨A0, A1, A2, A3, A4, q0, q1, q2, q3, q4, ⟨r0, r1, r2, r3, r4⟩, ⟨f0, f1, f2, f3, f4⟩, HA⟩ := pchain5 HRC.out (.string s) (.bool n) (.slice a1 xs.length c1) (.slice a2 ys.length c2) (.slice q L.length cq)
        have HM : Hid (Made ⟨s, n, a1, c1, xs, a2, c2, ys, q, cq, L⟩ ⟨s, n, xs, ys, ts.map TL.v⟩ w A4) := CpI.done HI.out (by show L.map TL.v = ts.map TL.v; rw [HV.out, ← HLN.out, List.take_length]) (Nat.le_succ _) HA.out.2.2.1 HA.out.2.2.2.1 HA.out.2.2.2.2
        have HE := hid HA.out.1
        clear HI HRC HA HV HTS HFW hLi
        go_wp2_with fail
        exact bodyPost_ret (results_cell_row (by rfl) _ _ (w.heap.size + 1) 27 _ (0, 0) _ (by rfl) HE.out Tryz.underlying27 rfl (by kernel_rfl)) rfl ⟨⟨s, n, a1, c1, xs, a2, c2, ys, q, cq, L⟩, rfl, HM.out⟩
end Go.Proofs.YtnfemheabikolaaGreatDoor

/- package tide: Parse, of any text. -/
namespace Go.Proofs.YtnfemheabikolaaGreatDoor
open Go.RowKit Go.Lib
set_option linter.unusedVariables false
set_option linter.unusedSimpArgs false

end Go.Proofs.YtnfemheabikolaaGreatDoor

/- Layer 13: the laws' example and awake: what the document's examples say. -/
namespace Go.Proofs.YtnfemheabikolaaGreatDoor
open Go.RowKit Go.Lib
set_option linter.unusedVariables false
set_option linter.unusedSimpArgs false

theorem zw (x : Int) (h0 : 0 ≤ x) (h1 : x ≤ 4294967295) : Wd [x] := Wd.one ⟨h0, h1⟩
theorem zk32 : rchk false [3] [2] = 0 := rchk_good (by simp) (by simp) rfl rfl (by simp) (.inl rfl) (by decide)
theorem zname : tname [77, 50] = true := by decide +kernel
end Go.Proofs.YtnfemheabikolaaGreatDoor

/- Texts of fractions beside one another: cut at a blank, read back. Nothing here speaks of the program. -/
namespace Go.Proofs.YtnfemheabikolaaGreatDoor
open Go.RowKit Go.Lib
set_option linter.unusedVariables false
set_option linter.unusedSimpArgs false

theorem znotlong {n : Bool} {xs ys : List Int} (wx : Wd xs) (wy : Wd ys) (h : rchk n xs ys = 0) : ¬ rlong (rq n xs ys) := fun hl => absurd ((RTells.self wx wy h).long rfl hl).2.2.2 (by decide)
end Go.Proofs.YtnfemheabikolaaGreatDoor

/- Layer 13: the laws' awake: what the document's examples say. -/
namespace Go.Proofs.YtnfemheabikolaaGreatDoor
open Go.RowKit Go.Lib
set_option linter.unusedVariables false
set_option linter.unusedSimpArgs false

end Go.Proofs.YtnfemheabikolaaGreatDoor

/- Complex fractions: gauss.Conj: of any, good or refused; all four rows apart. -/
namespace Go.Proofs.YtnfemheabikolaaGreatDoor
open Go.RowKit
set_option linter.unusedVariables false

set_option maxHeartbeats 3200000 in
set_option maxRecDepth 100000 in
theorem gConj_full (n : Bool) (a : Option Addr) (ca : Nat) (xs : List Int) (b : Option Addr) (cb : Nat) (ys : List Int) (m : Bool) (c : Option Addr) (cc : Nat) (us : List Int) (d : Option Addr) (cd : Nat) (vs : List Int) (w : World) (sx : Sl w (.slice a xs.length ca) xs) (sy : Sl w (.slice b ys.length cb) ys) (su : Sl w (.slice c us.length cc) us) (sv : Sl w (.slice d vs.length cd) vs) :
    Calls Tryz.prog 57 #[.agg #[.bool n, .slice a xs.length ca, .slice b ys.length cb, .bool m, .slice c us.length cc, .slice d vs.length cd]] w (GToldC w (gchk n xs ys m us vs) (rlong (rq n xs ys) ∨ rlong (-(rq m us vs))) (rq n xs ys) (-(rq m us vs))) := by
  have HX := hid (boxes2r w 35 #[.bool n, .slice a xs.length ca, .slice b ys.length cb, .bool m, .slice c us.length cc, .slice d vs.length cd] #[.bool false, .slice none 0 0, .slice none 0 0, .bool false, .slice none 0 0, .slice none 0 0])
  obtain ⟨X, hX⟩ : ∃ X, (w.alloc (.cells #[.bool n, .slice a xs.length ca, .slice b ys.length cb, .bool m, .slice c us.length cc, .slice d vs.length cd] 35)).alloc (.cells #[.bool false, .slice none 0 0, .slice none 0 0, .bool false, .slice none 0 0, .slice none 0 0] 35) = X := ⟨_, rfl⟩
  rw [hX] at HX
  have HY := hid (Box.made X 35 #[.bool n, .slice a xs.length ca, .slice b ys.length cb, .bool m, .slice c us.length cc, .slice d vs.length cd])
  have HYB := hid (alloc_later X (.cells #[.bool n, .slice a xs.length ca, .slice b ys.length cb, .bool m, .slice c us.length cc, .slice d vs.length cd] 35))
  obtain ⟨Y, hY⟩ : ∃ Y, X.alloc (.cells #[.bool n, .slice a xs.length ca, .slice b ys.length cb, .bool m, .slice c us.length cc, .slice d vs.length cd] 35) = Y := ⟨_, rfl⟩
  rw [hY] at HY HYB
  have HWY := hid (bt HX.out.2.2 HYB.out)
  have HL := hid (glookAt1_any X.heap.size n a ca xs b cb ys m c cc us d cd vs Y HY.out (sx.later HWY.out) (sy.later HWY.out) (su.later HWY.out) (sv.later HWY.out))
  have H1 : Hid (∀ V p, Below w.heap.size w V → Box V p 186 #[.int .i64 (gchk n xs ys m us vs)] → Calls Tryz.prog 117 #[.pointer (some ⟨p, 0, none⟩), .agg #[.bool n, .slice a xs.length ca, .slice b ys.length cb]] V (GTell V p (gchk n xs ys m us vs) (rq n xs ys))) := fun V p hv hb => gcopied_any p (gchk n xs ys m us vs) n a ca xs b cb ys V hb (sx.later hv) (sy.later hv) (fun h => (gchk_ok h).1)
  have H2 : Hid (∀ V p E, Below w.heap.size w V → Box V p 186 #[.int .i64 E] → Calls Tryz.prog 118 #[.pointer (some ⟨p, 0, none⟩), .agg #[.bool m, .slice c us.length cc, .slice d vs.length cd]] V (GTell V p (fstE E (rchk m us vs)) (-(rq m us vs)))) := fun V p E hv hb => gopposite_any p E m c cc us d cd vs V hb (su.later hv) (sv.later hv)
  have HZ1 : Hid (gchk n xs ys m us vs = 0 → rchk n xs ys = 0 ∧ rchk m us vs = 0) := fun h => by
    exact gchk_ok h
  generalize gchk n xs ys m us vs = E0 at *
  generalize rchk m us vs = e2 at *
  generalize rq n xs ys = q1 at *
  generalize -(rq m us vs) = q2 at *
  clear sx sy su sv
  have ka0 : X.cell? ⟨w.heap.size, 0, none⟩ = some (.bool n) := HX.out.1.cell 0
  have ka1 : X.cell? ⟨w.heap.size, 1, none⟩ = some (.slice a xs.length ca) := HX.out.1.cell 1
  have ka2 : X.cell? ⟨w.heap.size, 2, none⟩ = some (.slice b ys.length cb) := HX.out.1.cell 2
  have ka3 : X.cell? ⟨w.heap.size, 3, none⟩ = some (.bool m) := HX.out.1.cell 3
  have ka4 : X.cell? ⟨w.heap.size, 4, none⟩ = some (.slice c us.length cc) := HX.out.1.cell 4
  have ka5 : X.cell? ⟨w.heap.size, 5, none⟩ = some (.slice d vs.length cd) := HX.out.1.cell 5
  go_enter Tryz.func57, Tryz.ntmps57
  go_wp2_with fail
  refine Calls.mono HL.out ?_
  rintro x w1 ⟨p, rfl, hpl, hpb, hb1⟩
  have HW1 := hid (bt HWY.out hb1)
  have HA1 := hid (HX.out.1.later (bt HYB.out hb1) HX.out.1.lt)
  have HR1 := hid (HX.out.2.1.later (bt HYB.out hb1) HX.out.2.1.lt)
  have HP1 := hid hpb
  have hpX : X.heap.size < p := Nat.lt_of_lt_of_le HY.out.lt hpl
  have hrX : w.heap.size + 1 < X.heap.size := HX.out.2.1.lt
  clear hpb hb1 hpl HL ka0 ka1 ka2 ka3 ka4 ka5
  have ka0 : w1.cell? ⟨w.heap.size, 0, none⟩ = some (.bool n) := HA1.out.cell 0
  have ka1 : w1.cell? ⟨w.heap.size, 1, none⟩ = some (.slice a xs.length ca) := HA1.out.cell 1
  have ka2 : w1.cell? ⟨w.heap.size, 2, none⟩ = some (.slice b ys.length cb) := HA1.out.cell 2
  go_wp2_with fail
  refine Calls.mono (H1.out _ p HW1.out HP1.out) ?_
  rintro x w2 ⟨k1, v1, zs1, u1, ts1, code1, rfl, ov1, ou1, ht1, hp2, hg2, hcut1⟩
  obtain ⟨av1, cv1, rfl⟩ := own_slice' ov1
  obtain ⟨au1, cu1, rfl⟩ := own_slice' ou1
  have hw12 : w1.heap.size ≤ w2.heap.size := hg2.size
  have hp1l : p < w1.heap.size := HP1.out.lt
  have HW2 : Hid (Below w.heap.size w w2) := HW1.out.grown hg2 HW1.out.size (fun q hq => by have e := Option.some.inj hq; omega)
  have HA2 := hid (HA1.out.kept' hg2 (by intro e; have := Option.some.inj e; omega))
  have HR2 := hid (HR1.out.kept' hg2 (by intro e; have := Option.some.inj e; omega))
  have HP2 := hid hp2
  have HV1 := hid ov1
  have HU1 := hid ou1
  have HT1 := hid ht1
  have HC1 := hid hcut1
  have HN := hid (Box.made w2 24 #[.bool k1, .slice av1 zs1.length cv1, .slice au1 ts1.length cu1])
  have HNB := hid (alloc_later w2 (.cells #[.bool k1, .slice av1 zs1.length cv1, .slice au1 ts1.length cu1] 24))
  obtain ⟨Z, hZ⟩ : ∃ Z, w2.alloc (.cells #[.bool k1, .slice av1 zs1.length cv1, .slice au1 ts1.length cu1] 24) = Z := ⟨_, rfl⟩
  rw [hZ] at HN HNB
  have HAZ := hid (HA2.out.later HNB.out HA2.out.lt)
  clear ov1 ou1 ht1 hp2 hg2 hcut1 HW1 HA1 HR1 HP1 H1 ka0 ka1 ka2
  have ka0 : Z.cell? ⟨w.heap.size, 3, none⟩ = some (.bool m) := HAZ.out.cell 3
  have ka1 : Z.cell? ⟨w.heap.size, 4, none⟩ = some (.slice c us.length cc) := HAZ.out.cell 4
  have ka2 : Z.cell? ⟨w.heap.size, 5, none⟩ = some (.slice d vs.length cd) := HAZ.out.cell 5
  go_wp2_with fail
  refine Calls.mono (H2.out _ p code1 (bt HW2.out HNB.out) (HP2.out.later HNB.out HP2.out.lt)) ?_
  rintro x w3 ⟨k2, v2, zs2, u2, ts2, code2, rfl, ov2, ou2, ht2, hp3, hg3, hcut2⟩
  obtain ⟨av2, cv2, rfl⟩ := own_slice' ov2
  obtain ⟨au2, cu2, rfl⟩ := own_slice' ou2
  have hZ3 : Z.heap.size ≤ w3.heap.size := hg3.size
  have hw2Z : w2.heap.size < Z.heap.size := HN.out.lt
  have HW3 : Hid (Below w.heap.size w w3) := (bt HW2.out HNB.out).grown hg3 (bt HW2.out HNB.out).size (fun q hq => by have e := Option.some.inj hq; omega)
  have HR3 := hid ((HR2.out.later HNB.out HR2.out.lt).kept' hg3 (by intro e; have := Option.some.inj e; omega))
  have HN3 := hid (HN.out.kept' hg3 (by intro e; have := Option.some.inj e; omega))
  have HP3 := hid hp3
  have hk : ∀ (v : Value) (q : Nat), (∀ g, v.ownBlock = some g → q ≤ g) → p < q → v.ownBlock = none ∨ v.ownBlock ≠ some p := fun v q h1 h2 => by
    cases e : v.ownBlock with
    | none => exact .inl rfl
    | some g => right; intro h; have e2 := Option.some.inj h; have := h1 g e; omega
  have HV3 := hid (World.ownsRow.kept (owns_later HV1.out HNB.out) hg3 (hk _ w1.heap.size (fun g hg => (HV1.out.lt g hg).1) hp1l))
  have HU3 := hid (World.ownsRow.kept (owns_later HU1.out HNB.out) hg3 (hk _ w1.heap.size (fun g hg => (HU1.out.lt g hg).1) hp1l))
  have HV4 := hid ov2
  have HU4 := hid ou2
  have HT2 := hid ht2
  have HC2 := hid hcut2
  clear hk
  have HM := hid (Box.made w3 24 #[.bool k2, .slice av2 zs2.length cv2, .slice au2 ts2.length cu2])
  have HMB := hid (alloc_later w3 (.cells #[.bool k2, .slice av2 zs2.length cv2, .slice au2 ts2.length cu2] 24))
  obtain ⟨Q, hQ⟩ : ∃ Q, w3.alloc (.cells #[.bool k2, .slice av2 zs2.length cv2, .slice au2 ts2.length cu2] 24) = Q := ⟨_, rfl⟩
  rw [hQ] at HM HMB
  have HNQ := hid (HN3.out.later HMB.out HN3.out.lt)
  have HTO := hid (gtold_any p code2 k1 av1 zs1.length cv1 au1 ts1.length cu1 k2 av2 zs2.length cv2 au2 ts2.length cu2 Q (HP3.out.later HMB.out HP3.out.lt))
  clear ov2 ou2 ht2 hp3 hg3 hcut2 H2 ka0 ka1 ka2
  have ka0 : Q.cell? ⟨w2.heap.size, 0, none⟩ = some (.bool k1) := HNQ.out.cell 0
  have ka1 : Q.cell? ⟨w2.heap.size, 1, none⟩ = some (.slice av1 zs1.length cv1) := HNQ.out.cell 1
  have ka2 : Q.cell? ⟨w2.heap.size, 2, none⟩ = some (.slice au1 ts1.length cu1) := HNQ.out.cell 2
  have kb0 : Q.cell? ⟨w3.heap.size, 0, none⟩ = some (.bool k2) := HM.out.cell 0
  have kb1 : Q.cell? ⟨w3.heap.size, 1, none⟩ = some (.slice av2 zs2.length cv2) := HM.out.cell 1
  have kb2 : Q.cell? ⟨w3.heap.size, 2, none⟩ = some (.slice au2 ts2.length cu2) := HM.out.cell 2
  go_wp2_with fail
  refine Calls.mono HTO.out ?_
  rintro x w4 ⟨rfl, hb4⟩
  have HW4x := hid hb4
  have HR4 := hid (HR3.out.later (bt HMB.out hb4) HR3.out.lt)
  have HW4 := hid (bt HW3.out (bt HMB.out hb4))
  have HOO := hid (And.intro (owns_later HV3.out (bt HMB.out hb4)) (And.intro (owns_later HU3.out (bt HMB.out hb4)) (And.intro (owns_later HV4.out (bt HMB.out hb4)) (owns_later HU4.out (bt HMB.out hb4)))))
  have hlo : w.heap.size ≤ w1.heap.size := by omega
  have hlZ : w.heap.size ≤ Z.heap.size := by omega
  clear hb4 ka0 ka1 ka2 kb0 kb1 kb2
  have m0 : w4.cell? ⟨w.heap.size + 1, 0, none⟩ = some (.bool false) := HR4.out.cell 0
  have m1 : w4.cell? ⟨w.heap.size + 1, 1, none⟩ = some (.slice none 0 0) := HR4.out.cell 1
  have m2' : w4.cell? ⟨w.heap.size + 1, 2, none⟩ = some (.slice none 0 0) := HR4.out.cell 2
  have m3 : w4.cell? ⟨w.heap.size + 1, 3, none⟩ = some (.bool false) := HR4.out.cell 3
  have m4 : w4.cell? ⟨w.heap.size + 1, 4, none⟩ = some (.slice none 0 0) := HR4.out.cell 4
  have m5 : w4.cell? ⟨w.heap.size + 1, 5, none⟩ = some (.slice none 0 0) := HR4.out.cell 5
  have f0 := HR4.out.free 0
  have f1 := HR4.out.free 1
  have f2 := HR4.out.free 2
  have f3 := HR4.out.free 3
  have f4 := HR4.out.free 4
  have f5 := HR4.out.free 5
  have hf0 : fstE E0 0 = E0 := by unfold fstE; by_cases h : E0 = 0 <;> simp [h]
  have HTW := hid (gtwo (e1 := 0) (by rw [hf0]; exact HT1.out) HT2.out (fun _ => rfl) (fun h => (HZ1.out h).2))
  have hsQ := (bt HMB.out HW4x.out).size
  clear hf0
  by_cases hc2 : code2 = 0
  · rw [if_pos hc2]
    have HFIN := hid (HTW.out.1 hc2)
    clear HTW hc2
    go_wp2_with fail
    have B1 := box_put6 HR4.out (.bool k1) (.slice av1 zs1.length cv1) (.slice au1 ts1.length cu1) (.bool k2) (.slice av2 zs2.length cv2) (.slice au2 ts2.length cu2)
    have G1 := below_put6 HW4.out (w.heap.size + 1) (by omega) (.bool k1) (.slice av1 zs1.length cv1) (.slice au1 ts1.length cu1) (.bool k2) (.slice av2 zs2.length cv2) (.slice au2 ts2.length cu2)
    have hXX := HX.out.2.2.size
    have hput : ∀ {base k : Nat} {v : Value} {l : List Value}, w4.ownsRow base 78 1 v k l → (∀ g, v.ownBlock = some g → X.heap.size ≤ g) → ((((((w4.setCell ⟨w.heap.size + 1, 0, none⟩ (.bool k1)).setCell ⟨w.heap.size + 1, 1, none⟩ (.slice av1 zs1.length cv1)).setCell ⟨w.heap.size + 1, 2, none⟩ (.slice au1 ts1.length cu1)).setCell ⟨w.heap.size + 1, 3, none⟩ (.bool k2)).setCell ⟨w.heap.size + 1, 4, none⟩ (.slice av2 zs2.length cv2)).setCell ⟨w.heap.size + 1, 5, none⟩ (.slice au2 ts2.length cu2)).ownsRow base 78 1 v k l := fun h hb => own_put6 h _ (fun g hg => by have := hb g hg; omega) _ _ _ _ _ _
    clear m0 m1 m2' m3 m4 m5 f0 f1 f2 f3 f4 f5
    refine bodyPost_ret (gres_run (by rfl) B1 _ rfl) rfl ?_
    exact ⟨k1, av1, cv1, zs1, au1, cu1, ts1, k2, av2, cv2, zs2, au2, cu2, ts2, code2, rfl, ⟨owns_base (hput HOO.out.1 (fun g hg => by have := (HOO.out.1.lt g hg).1; omega)) hlo, owns_base (hput HOO.out.2.1 (fun g hg => by have := (HOO.out.2.1.lt g hg).1; omega)) hlo, owns_base (hput HOO.out.2.2.1 (fun g hg => by have := (HOO.out.2.2.1.lt g hg).1; omega)) hlZ, owns_base (hput HOO.out.2.2.2 (fun g hg => by have := (HOO.out.2.2.2.lt g hg).1; omega)) hlZ⟩, HFIN.out, G1, w2, HC1.out.up hlo (Nat.le_refl _), HC2.out.up HNB.out.size (by simp [World.setCell]; omega)⟩
  · rw [if_neg hc2]
    have HFIN := hid (HTW.out.2 hc2)
    clear HTW hc2
    go_wp2_with fail
    have B1 := box_put6 HR4.out (.bool false) (.slice none 0 0) (.slice none 0 0) (.bool false) (.slice none 0 0) (.slice none 0 0)
    have G1 := below_put6 HW4.out (w.heap.size + 1) (by omega) (.bool false) (.slice none 0 0) (.slice none 0 0) (.bool false) (.slice none 0 0) (.slice none 0 0)
    clear m0 m1 m2' m3 m4 m5 f0 f1 f2 f3 f4 f5
    refine bodyPost_ret (gres_run (by rfl) B1 _ rfl) rfl ?_
    exact ⟨false, none, 0, [], none, 0, [], false, none, 0, [], none, 0, [], code2, rfl, ⟨World.ownsRow_nil _ _ _ _, World.ownsRow_nil _ _ _ _, World.ownsRow_nil _ _ _ _, World.ownsRow_nil _ _ _ _⟩, HFIN.out, G1, _, cut_nil _ _ G1.size, cut_nil _ _ (Nat.le_refl _)⟩

end Go.Proofs.YtnfemheabikolaaGreatDoor

/- package tide: Conj, of any, good or refused; all four rows apart. -/
namespace Go.Proofs.YtnfemheabikolaaGreatDoor
open Go.RowKit
set_option linter.unusedVariables false
set_option linter.unusedSimpArgs false

set_option maxHeartbeats 3200000 in
set_option maxRecDepth 100000 in
theorem tConj_full (s : ByteArray) (f r : Int) (n : Bool) (a : Option Addr) (ca : Nat) (xs : List Int) (b : Option Addr) (cb : Nat) (ys : List Int) (m : Bool) (c : Option Addr) (cc : Nat) (us : List Int) (d : Option Addr) (cd : Nat) (vs : List Int) (w : World) (hz : s.size ≤ 9223372036854775807) (hr : in32 f r) (sx : Sl w (.slice a xs.length ca) xs) (sy : Sl w (.slice b ys.length cb) ys) (su : Sl w (.slice c us.length cc) us) (sv : Sl w (.slice d vs.length cd) vs) :
    Calls Tryz.prog 14 #[.agg #[.string s, .int .i32 f, .int .i32 r, .bool n, .slice a xs.length ca, .slice b ys.length cb, .bool m, .slice c us.length cc, .slice d vs.length cd]] w (TToldC w (tchk s.data.toList f r (gchk n xs ys m us vs)) (rlong (rq n xs ys) ∨ rlong (-(rq m us vs))) s.data.toList f (-r) (rq n xs ys) (-(rq m us vs))) := by
  have HX := hid (boxes2r w 37 #[.string s, .int .i32 f, .int .i32 r, .bool n, .slice a xs.length ca, .slice b ys.length cb, .bool m, .slice c us.length cc, .slice d vs.length cd] #[.string ⟨#[]⟩, .int .i32 0, .int .i32 0, .bool false, .slice none 0 0, .slice none 0 0, .bool false, .slice none 0 0, .slice none 0 0])
  obtain ⟨X, hX⟩ : ∃ X, (w.alloc (.cells #[.string s, .int .i32 f, .int .i32 r, .bool n, .slice a xs.length ca, .slice b ys.length cb, .bool m, .slice c us.length cc, .slice d vs.length cd] 37)).alloc (.cells #[.string ⟨#[]⟩, .int .i32 0, .int .i32 0, .bool false, .slice none 0 0, .slice none 0 0, .bool false, .slice none 0 0, .slice none 0 0] 37) = X := ⟨_, rfl⟩
  rw [hX] at HX
  have HC := hid (tCheck_any s f r n a ca xs b cb ys m c cc us d cd vs X hz hr (sx.later HX.out.2.2) (sy.later HX.out.2.2) (su.later HX.out.2.2) (sv.later HX.out.2.2))
  have HRC : Hid (ochk f r = 0 → ∀ V, Calls Tryz.prog 56 #[.agg #[.int .i32 f, .int .i32 r]] V fun e w' => e = .returned (.tuple #[.agg #[.int .i32 f, .int .i32 (-r)], .int .i64 0]) ∧ Below V.heap.size V w') := fun h V => by
    have hk := rconj_any f r V hr
    have e : rConj f r = (f, -r, 0) := by
      rcases ochk_or f r with g | g
      · exact if_pos g.2
      · rw [h] at g; exact absurd g.1 (by decide)
    rw [e] at hk
    exact hk
  have HGC : Hid (∀ V, Below w.heap.size w V → Calls Tryz.prog 57 #[.agg #[.bool n, .slice a xs.length ca, .slice b ys.length cb, .bool m, .slice c us.length cc, .slice d vs.length cd]] V (GToldC V (gchk n xs ys m us vs) (rlong (rq n xs ys) ∨ rlong (-(rq m us vs))) (rq n xs ys) (-(rq m us vs)))) := fun V hv => gConj_full n a ca xs b cb ys m c cc us d cd vs V (sx.later hv) (sy.later hv) (su.later hv) (sv.later hv)
  have HTK : Hid (tchk s.data.toList f r (gchk n xs ys m us vs) = 0 → ochk f r = 0 ∧ gchk n xs ys m us vs = 0) := fun h => (tchk_ok h).2
  generalize gchk n xs ys m us vs = GE at *
  generalize tchk s.data.toList f r GE = TE at *
  generalize (rlong (rq n xs ys) ∨ rlong (-(rq m us vs))) = L at *
  generalize rq n xs ys = q1 at *
  generalize -(rq m us vs) = q2 at *
  clear sx sy su sv hr
  have hwX : w.heap.size + 1 < X.heap.size := HX.out.2.1.lt
  have k0 : X.cell? ⟨w.heap.size, 0, none⟩ = some (.string s) := HX.out.1.cell 0
  have k1 : X.cell? ⟨w.heap.size, 1, none⟩ = some (.int .i32 f) := HX.out.1.cell 1
  have k2 : X.cell? ⟨w.heap.size, 2, none⟩ = some (.int .i32 r) := HX.out.1.cell 2
  have k3 : X.cell? ⟨w.heap.size, 3, none⟩ = some (.bool n) := HX.out.1.cell 3
  have k4 : X.cell? ⟨w.heap.size, 4, none⟩ = some (.slice a xs.length ca) := HX.out.1.cell 4
  have k5 : X.cell? ⟨w.heap.size, 5, none⟩ = some (.slice b ys.length cb) := HX.out.1.cell 5
  have k6 : X.cell? ⟨w.heap.size, 6, none⟩ = some (.bool m) := HX.out.1.cell 6
  have k7 : X.cell? ⟨w.heap.size, 7, none⟩ = some (.slice c us.length cc) := HX.out.1.cell 7
  have k8 : X.cell? ⟨w.heap.size, 8, none⟩ = some (.slice d vs.length cd) := HX.out.1.cell 8
  go_enter Tryz.func14, Tryz.ntmps14
  go_wp2_with fail
  refine Calls.mono HC.out ?_
  rintro x w1 ⟨rfl, hb1⟩
  have HW1 := hid (bt HX.out.2.2 hb1)
  have HA1 := hid (HX.out.1.later hb1 HX.out.1.lt)
  have HR1 := hid (HX.out.2.1.later hb1 HX.out.2.1.lt)
  have hs1 : X.heap.size ≤ w1.heap.size := hb1.size
  clear hb1 HC k0 k1 k2 k3 k4 k5 k6 k7 k8
  by_cases hTE : TE = 0
  · obtain ⟨hO, hG⟩ := HTK.out hTE
    subst hTE
    subst hG
    have HRC' := hid (HRC.out hO)
    clear HTK HRC hO
    have k1 : w1.cell? ⟨w.heap.size, 1, none⟩ = some (.int .i32 f) := HA1.out.cell 1
    have k2 : w1.cell? ⟨w.heap.size, 2, none⟩ = some (.int .i32 r) := HA1.out.cell 2
    go_wp2_with fail
    refine Calls.mono (HRC'.out _) ?_
    rintro x w2 ⟨rfl, hb2⟩
    have HN := hid (Box.made w2 33 #[.int .i32 f, .int .i32 (-r)])
    have HNB := hid (alloc_later w2 (.cells #[.int .i32 f, .int .i32 (-r)] 33))
    obtain ⟨Y, hY⟩ : ∃ Y, w2.alloc (.cells #[.int .i32 f, .int .i32 (-r)] 33) = Y := ⟨_, rfl⟩
    rw [hY] at HN HNB
    have HWY := hid (bt HW1.out (bt hb2 HNB.out))
    have HAY := hid (HA1.out.later (bt hb2 HNB.out) HA1.out.lt)
    have HRY := hid (HR1.out.later (bt hb2 HNB.out) HR1.out.lt)
    have hs2 : w1.heap.size ≤ Y.heap.size := (bt hb2 HNB.out).size
    clear hb2 HRC' k1 k2
    have k3 : Y.cell? ⟨w.heap.size, 3, none⟩ = some (.bool n) := HAY.out.cell 3
    have k4 : Y.cell? ⟨w.heap.size, 4, none⟩ = some (.slice a xs.length ca) := HAY.out.cell 4
    have k5 : Y.cell? ⟨w.heap.size, 5, none⟩ = some (.slice b ys.length cb) := HAY.out.cell 5
    have k6 : Y.cell? ⟨w.heap.size, 6, none⟩ = some (.bool m) := HAY.out.cell 6
    have k7 : Y.cell? ⟨w.heap.size, 7, none⟩ = some (.slice c us.length cc) := HAY.out.cell 7
    have k8 : Y.cell? ⟨w.heap.size, 8, none⟩ = some (.slice d vs.length cd) := HAY.out.cell 8
    go_wp2_with fail
    refine Calls.mono (HGC.out _ HWY.out) ?_
    rintro x w3 ⟨k1, a1, ca1, xs1, b1, cb1, ys1, m1, c1, cc1, us1, d1, cd1, vs1, code, rfl, hoo, ht, hb3, W1, hc1, hc2⟩
    have HM := hid (Box.made w3 35 #[.bool k1, .slice a1 xs1.length ca1, .slice b1 ys1.length cb1, .bool m1, .slice c1 us1.length cc1, .slice d1 vs1.length cd1])
    have HMB := hid (alloc_later w3 (.cells #[.bool k1, .slice a1 xs1.length ca1, .slice b1 ys1.length cb1, .bool m1, .slice c1 us1.length cc1, .slice d1 vs1.length cd1] 35))
    obtain ⟨Q, hQ⟩ : ∃ Q, w3.alloc (.cells #[.bool k1, .slice a1 xs1.length ca1, .slice b1 ys1.length cb1, .bool m1, .slice c1 us1.length cc1, .slice d1 vs1.length cd1] 35) = Q := ⟨_, rfl⟩
    rw [hQ] at HM HMB
    have HYQ := hid (bt hb3 HMB.out)
    have HWQ := hid (bt HWY.out HYQ.out)
    have HAQ := hid (HAY.out.later HYQ.out HAY.out.lt)
    have HRQ := hid (HRY.out.later HYQ.out HRY.out.lt)
    have HNQ := hid (HN.out.later HYQ.out HN.out.lt)
    have HOQ := hid (And.intro (owns_later hoo.1 HMB.out) (And.intro (owns_later hoo.2.1 HMB.out) (And.intro (owns_later hoo.2.2.1 HMB.out) (owns_later hoo.2.2.2 HMB.out))))
    have HCQ : Hid (∃ W1, Cut Y (.slice a1 xs1.length ca1) (.slice b1 ys1.length cb1) W1 ∧ Cut W1 (.slice c1 us1.length cc1) (.slice d1 vs1.length cd1) Q) := ⟨W1, hc1, hc2.up (Nat.le_refl _) HMB.out.size⟩
    have hbs : w.heap.size + 1 < Y.heap.size := by omega
    have HTT := hid ht
    clear hoo ht hb3 hc1 hc2 HGC k3 k4 k5 k6 k7 k8
    have m0_ : Q.cell? ⟨w.heap.size + 1, 0, none⟩ = some (.string ⟨#[]⟩) := HRQ.out.cell 0
    have m1_ : Q.cell? ⟨w.heap.size + 1, 1, none⟩ = some (.int .i32 0) := HRQ.out.cell 1
    have m2_ : Q.cell? ⟨w.heap.size + 1, 2, none⟩ = some (.int .i32 0) := HRQ.out.cell 2
    have m3_ : Q.cell? ⟨w.heap.size + 1, 3, none⟩ = some (.bool false) := HRQ.out.cell 3
    have m4_ : Q.cell? ⟨w.heap.size + 1, 4, none⟩ = some (.slice none 0 0) := HRQ.out.cell 4
    have m5_ : Q.cell? ⟨w.heap.size + 1, 5, none⟩ = some (.slice none 0 0) := HRQ.out.cell 5
    have m6_ : Q.cell? ⟨w.heap.size + 1, 6, none⟩ = some (.bool false) := HRQ.out.cell 6
    have m7_ : Q.cell? ⟨w.heap.size + 1, 7, none⟩ = some (.slice none 0 0) := HRQ.out.cell 7
    have m8_ : Q.cell? ⟨w.heap.size + 1, 8, none⟩ = some (.slice none 0 0) := HRQ.out.cell 8
    have f0_ := HRQ.out.free 0
    have f1_ := HRQ.out.free 1
    have f2_ := HRQ.out.free 2
    have f3_ := HRQ.out.free 3
    have f4_ := HRQ.out.free 4
    have f5_ := HRQ.out.free 5
    have f6_ := HRQ.out.free 6
    have f7_ := HRQ.out.free 7
    have f8_ := HRQ.out.free 8
    by_cases hL : L
    · have hcode := (HTT.out.long rfl hL).2
      subst hcode
      have HL := hid hL
      clear hL
      go_wp2_with fail
      have B1 := box_put9 HRQ.out (.string ⟨#[]⟩) (.int .i32 0) (.int .i32 0) (.bool false) (.slice none 0 0) (.slice none 0 0) (.bool false) (.slice none 0 0) (.slice none 0 0)
      have G1 := below_put9 HWQ.out (w.heap.size + 1) (by omega) (.string ⟨#[]⟩) (.int .i32 0) (.int .i32 0) (.bool false) (.slice none 0 0) (.slice none 0 0) (.bool false) (.slice none 0 0) (.slice none 0 0)
      clear m0_ f0_ m1_ f1_ m2_ f2_ m3_ f3_ m4_ f4_ m5_ f5_ m6_ f6_ m7_ f7_ m8_ f8_
      exact bodyPost_ret (tres_run (by rfl) B1 _ rfl) rfl (ttoldc_zero (.inr ⟨rfl, HL.out, rfl⟩) G1)
    · have hcode := (HTT.out.good rfl hL).1
      subst hcode
      have HT := hid HTT.out
      clear hL HTT
      have k0 : Q.cell? ⟨w.heap.size, 0, none⟩ = some (.string s) := HAQ.out.cell 0
      have r0 : Q.cell? ⟨w2.heap.size, 0, none⟩ = some (.int .i32 f) := HNQ.out.cell 0
      have r1 : Q.cell? ⟨w2.heap.size, 1, none⟩ = some (.int .i32 (-r)) := HNQ.out.cell 1
      have g0 : Q.cell? ⟨w3.heap.size, 0, none⟩ = some (.bool k1) := HM.out.cell 0
      have g1 : Q.cell? ⟨w3.heap.size, 1, none⟩ = some (.slice a1 xs1.length ca1) := HM.out.cell 1
      have g2 : Q.cell? ⟨w3.heap.size, 2, none⟩ = some (.slice b1 ys1.length cb1) := HM.out.cell 2
      have g3 : Q.cell? ⟨w3.heap.size, 3, none⟩ = some (.bool m1) := HM.out.cell 3
      have g4 : Q.cell? ⟨w3.heap.size, 4, none⟩ = some (.slice c1 us1.length cc1) := HM.out.cell 4
      have g5 : Q.cell? ⟨w3.heap.size, 5, none⟩ = some (.slice d1 vs1.length cd1) := HM.out.cell 5
      go_wp2_with fail
      have B1 := box_put9 HRQ.out (.string s) (.int .i32 f) (.int .i32 (-r)) (.bool k1) (.slice a1 xs1.length ca1) (.slice b1 ys1.length cb1) (.bool m1) (.slice c1 us1.length cc1) (.slice d1 vs1.length cd1)
      have G1 := below_put9 HWQ.out (w.heap.size + 1) (by omega) (.string s) (.int .i32 f) (.int .i32 (-r)) (.bool k1) (.slice a1 xs1.length ca1) (.slice b1 ys1.length cb1) (.bool m1) (.slice c1 us1.length cc1) (.slice d1 vs1.length cd1)
      have hput : ∀ {base k : Nat} {v : Value} {l : List Value}, Q.ownsRow base 78 1 v k l → w.heap.size + 1 < base → (((((((((Q.setCell ⟨w.heap.size + 1, 0, none⟩ (.string s)).setCell ⟨w.heap.size + 1, 1, none⟩ (.int .i32 f)).setCell ⟨w.heap.size + 1, 2, none⟩ (.int .i32 (-r))).setCell ⟨w.heap.size + 1, 3, none⟩ (.bool k1)).setCell ⟨w.heap.size + 1, 4, none⟩ (.slice a1 xs1.length ca1)).setCell ⟨w.heap.size + 1, 5, none⟩ (.slice b1 ys1.length cb1)).setCell ⟨w.heap.size + 1, 6, none⟩ (.bool m1)).setCell ⟨w.heap.size + 1, 7, none⟩ (.slice c1 us1.length cc1)).setCell ⟨w.heap.size + 1, 8, none⟩ (.slice d1 vs1.length cd1)).ownsRow w.heap.size 78 1 v k l := fun h hb => owns_base (own_put9 h _ (fun g hg => by have := (h.lt g hg).1; omega) _ _ _ _ _ _ _ _ _) (by omega)
      clear m0_ f0_ m1_ f1_ m2_ f2_ m3_ f3_ m4_ f4_ m5_ f5_ m6_ f6_ m7_ f7_ m8_ f8_
      refine bodyPost_ret (tres_run (by rfl) B1 _ rfl) rfl ?_
      obtain ⟨W1, hc1, hc2⟩ := HCQ.out
      refine ⟨s, f, (-r), k1, a1, ca1, xs1, b1, cb1, ys1, m1, c1, cc1, us1, d1, cd1, vs1, 0, rfl, ⟨hput HOQ.out.1 hbs, hput HOQ.out.2.1 hbs, hput HOQ.out.2.2.1 hbs, hput HOQ.out.2.2.2 hbs⟩, ⟨HT.out, fun h => absurd rfl h, fun _ => ⟨rfl, rfl, rfl⟩⟩, G1, W1, hc1.up (by omega) (Nat.le_refl _), hc2.up (Nat.le_refl _) (by simp [World.setCell])⟩
  · have hE' : (TE == 0) = false := by simp [hTE]
    have hE2 : (TE != 0) = true := by simp [hTE]
    have m0_ : w1.cell? ⟨w.heap.size + 1, 0, none⟩ = some (.string ⟨#[]⟩) := HR1.out.cell 0
    have m1_ : w1.cell? ⟨w.heap.size + 1, 1, none⟩ = some (.int .i32 0) := HR1.out.cell 1
    have m2_ : w1.cell? ⟨w.heap.size + 1, 2, none⟩ = some (.int .i32 0) := HR1.out.cell 2
    have m3_ : w1.cell? ⟨w.heap.size + 1, 3, none⟩ = some (.bool false) := HR1.out.cell 3
    have m4_ : w1.cell? ⟨w.heap.size + 1, 4, none⟩ = some (.slice none 0 0) := HR1.out.cell 4
    have m5_ : w1.cell? ⟨w.heap.size + 1, 5, none⟩ = some (.slice none 0 0) := HR1.out.cell 5
    have m6_ : w1.cell? ⟨w.heap.size + 1, 6, none⟩ = some (.bool false) := HR1.out.cell 6
    have m7_ : w1.cell? ⟨w.heap.size + 1, 7, none⟩ = some (.slice none 0 0) := HR1.out.cell 7
    have m8_ : w1.cell? ⟨w.heap.size + 1, 8, none⟩ = some (.slice none 0 0) := HR1.out.cell 8
    have f0_ := HR1.out.free 0
    have f1_ := HR1.out.free 1
    have f2_ := HR1.out.free 2
    have f3_ := HR1.out.free 3
    have f4_ := HR1.out.free 4
    have f5_ := HR1.out.free 5
    have f6_ := HR1.out.free 6
    have f7_ := HR1.out.free 7
    have f8_ := HR1.out.free 8
    go_wp2_with fail
    have B1 := box_put9 HR1.out (.string ⟨#[]⟩) (.int .i32 0) (.int .i32 0) (.bool false) (.slice none 0 0) (.slice none 0 0) (.bool false) (.slice none 0 0) (.slice none 0 0)
    have G1 := below_put9 HW1.out (w.heap.size + 1) (by omega) (.string ⟨#[]⟩) (.int .i32 0) (.int .i32 0) (.bool false) (.slice none 0 0) (.slice none 0 0) (.bool false) (.slice none 0 0) (.slice none 0 0)
    clear m0_ f0_ m1_ f1_ m2_ f2_ m3_ f3_ m4_ f4_ m5_ f5_ m6_ f6_ m7_ f7_ m8_ f8_
    exact bodyPost_ret (tres_run (by rfl) B1 _ rfl) rfl (ttoldc_zero (.inl ⟨hTE, rfl⟩) G1)
end Go.Proofs.YtnfemheabikolaaGreatDoor

/- Complex fractions: gauss.Scale: of any fraction and any one, good or refused; all four rows apart. -/
namespace Go.Proofs.YtnfemheabikolaaGreatDoor
open Go.RowKit
set_option linter.unusedVariables false

end Go.Proofs.YtnfemheabikolaaGreatDoor

/- Constituents' texts: what is read prints as it was, what is printed is read as it was. Nothing here speaks of the program. -/
namespace Go.Proofs.YtnfemheabikolaaGreatDoor
open Go.RowKit Go.Lib
set_option linter.unusedVariables false
set_option linter.unusedSimpArgs false

end Go.Proofs.YtnfemheabikolaaGreatDoor

/- Complex fractions that are good: what the calls tell of them, by their fractions. -/
namespace Go.Proofs.YtnfemheabikolaaGreatDoor
open Go.RowKit
set_option linter.unusedVariables false
set_option linter.unusedSimpArgs false

theorem rlong_neg {q : Rat} : rlong (-q) ↔ rlong q := by
  unfold rlong
  rw [Rat.neg_num, Int.natAbs_neg, Rat.neg_den]
end Go.Proofs.YtnfemheabikolaaGreatDoor

/- Constituents that are good: what the calls tell of them, by their fractions. -/
namespace Go.Proofs.YtnfemheabikolaaGreatDoor
open Go.RowKit
set_option linter.unusedVariables false
set_option linter.unusedSimpArgs false

theorem trok {f r : Int} (h : ochk f r = 0) : rOK f r := by
  rcases ochk_or f r with g | g
  · exact g.2
  · rw [h] at g; exact absurd g.1 (by decide)
theorem trok_in {f r : Int} (h : rOK f r) : (-1000 ≤ f ∧ f ≤ 1000) ∧ (-1000 ≤ r ∧ r ≤ 1000) := by
  obtain ⟨h1, h2, h3, h4, _⟩ := h
  omega
theorem trok_neg {f r : Int} (h : ochk f r = 0) : ochk f (-r) = 0 := by
  rcases ochk_or f (-r) with g | g
  · exact g.1
  · refine absurd ?_ g.2
    have k := trok h
    unfold rOK at k ⊢
    rw [Int.natAbs_neg]
    exact k
end Go.Proofs.YtnfemheabikolaaGreatDoor

/- package port: moved: a constituent whose number at the tick 0 is another one's at a tick. (tools/mkqc7.py) -/
namespace Go.Proofs.YtnfemheabikolaaGreatDoor
open Go.RowKit
set_option linter.unusedVariables false
set_option linter.unusedSimpArgs false

theorem pzero9 {W : World} {b t : Nat} (h : Box W b t #[.string ⟨#[]⟩, .int .i32 0, .int .i32 0, .bool false, .slice none 0 0, .slice none 0 0, .bool false, .slice none 0 0, .slice none 0 0]) : (W.setCell ⟨b, 0, none⟩ (.string ⟨#[]⟩) = W ∧ W.setCell ⟨b, 1, none⟩ (.int .i32 0) = W ∧ W.setCell ⟨b, 2, none⟩ (.int .i32 0) = W ∧ W.setCell ⟨b, 3, none⟩ (.bool false) = W ∧ W.setCell ⟨b, 4, none⟩ (.slice none 0 0) = W ∧ W.setCell ⟨b, 5, none⟩ (.slice none 0 0) = W ∧ W.setCell ⟨b, 6, none⟩ (.bool false) = W ∧ W.setCell ⟨b, 7, none⟩ (.slice none 0 0) = W ∧ W.setCell ⟨b, 8, none⟩ (.slice none 0 0) = W) ∧ (W.cell? ⟨b, 0, none⟩ = some (.string ⟨#[]⟩) ∧ W.cell? ⟨b, 1, none⟩ = some (.int .i32 0) ∧ W.cell? ⟨b, 2, none⟩ = some (.int .i32 0) ∧ W.cell? ⟨b, 3, none⟩ = some (.bool false) ∧ W.cell? ⟨b, 4, none⟩ = some (.slice none 0 0) ∧ W.cell? ⟨b, 5, none⟩ = some (.slice none 0 0) ∧ W.cell? ⟨b, 6, none⟩ = some (.bool false) ∧ W.cell? ⟨b, 7, none⟩ = some (.slice none 0 0) ∧ W.cell? ⟨b, 8, none⟩ = some (.slice none 0 0)) ∧ (W.frozen? ⟨b, 0, none⟩ = false ∧ W.frozen? ⟨b, 1, none⟩ = false ∧ W.frozen? ⟨b, 2, none⟩ = false ∧ W.frozen? ⟨b, 3, none⟩ = false ∧ W.frozen? ⟨b, 4, none⟩ = false ∧ W.frozen? ⟨b, 5, none⟩ = false ∧ W.frozen? ⟨b, 6, none⟩ = false ∧ W.frozen? ⟨b, 7, none⟩ = false ∧ W.frozen? ⟨b, 8, none⟩ = false) :=
  ⟨⟨h.same rfl, h.same rfl, h.same rfl, h.same rfl, h.same rfl, h.same rfl, h.same rfl, h.same rfl, h.same rfl⟩, ⟨h.cell 0, h.cell 1, h.cell 2, h.cell 3, h.cell 4, h.cell 5, h.cell 6, h.cell 7, h.cell 8⟩, h.free 0, h.free 1, h.free 2, h.free 3, h.free 4, h.free 5, h.free 6, h.free 7, h.free 8⟩
def TV.q1 (t : TV) : Rat := rq t.n t.xs t.ys
def TV.q2 (t : TV) : Rat := rq t.m t.us t.vs
def TV.Is (v : TV) (q1 q2 : Rat) : Prop := (rchk v.n v.xs v.ys = 0 ∧ rq v.n v.xs v.ys = q1) ∧ (rchk v.m v.us v.vs = 0 ∧ rq v.m v.us v.vs = q2) ∧ Wd v.xs ∧ Wd v.ys ∧ Wd v.us ∧ Wd v.vs
def TV.zero : TV := ⟨⟨#[]⟩, 0, 0, false, [], [], false, [], []⟩
def TL.zero : TL := ⟨⟨#[]⟩, 0, 0, false, none, 0, [], none, 0, [], false, none, 0, [], none, 0, []⟩
theorem TL.zero_ow (W : World) (base : Nat) : TL.zero.g.Ow W base := ⟨World.ownsRow_nil _ _ _ _, World.ownsRow_nil _ _ _ _, World.ownsRow_nil _ _ _ _, World.ownsRow_nil _ _ _ _⟩
theorem TL.zero_in {x y : Nat} (h : x ≤ y) : TL.zero.g.In x y := by
  have hk : ∀ a b : Value, a = .slice none 0 0 → Kp a b := fun a b e => by subst e; exact .inl rfl
  refine ⟨⟨hk _ _ rfl, hk _ _ rfl, hk _ _ rfl, hk _ _ rfl, hk _ _ rfl, hk _ _ rfl⟩, G6.four ?_ ?_ ?_ ?_⟩ <;> (intro g e; cases e)
theorem qin_wide {g : G6} {lo hi lo' hi' : Nat} (h : g.In lo hi) (h1 : lo' ≤ lo) (h2 : hi ≤ hi') : g.In lo' hi' := ⟨h.1, fun j hj => by
  have q := h.2 j hj
  intro b e
  have := q b e
  omega⟩
def MvT (n : Int) (t v : TV) (c : Int) : Prop := (mlong t.q1 t.q2 (oP t.f t.r n).1 (oP t.f t.r n).2 ∧ c = 3) ∨ (¬ mlong t.q1 t.q2 (oP t.f t.r n).1 (oP t.f t.r n).2 ∧ c = 0 ∧ v.s = t.s ∧ v.f = t.f ∧ v.r = t.r ∧ v.Is (t.q1 * (oP t.f t.r n).1 - t.q2 * (oP t.f t.r n).2) (t.q1 * (oP t.f t.r n).2 + t.q2 * (oP t.f t.r n).1))
def TRet (R : TV → Int → Prop) (w : World) (e : Ending) (w' : World) : Prop := ∃ (u : TL) (c : Int), e = .returned (.tuple #[.agg #[.string u.s, .int .i32 u.f, .int .i32 u.r, .bool u.n, .slice u.a u.xs.length u.ca, .slice u.b u.ys.length u.cb, .bool u.m, .slice u.c u.us.length u.cc, .slice u.d u.vs.length u.cd], .int .i64 c]) ∧ R u.v c ∧ u.g.Ow w' w.heap.size ∧ u.g.In w.heap.size w'.heap.size ∧ Below w.heap.size w w'
set_option maxHeartbeats 3200000 in
set_option maxRecDepth 100000 in
theorem pmoved_any (t : TL) (n : Int) (w : World) (ht : t.ok w) (hk : t.chk = 0) (n0 : -1024 ≤ n) (n1 : n ≤ 1024) : Calls Tryz.prog 64 #[.agg t.cells, .int .i64 n] w (TRet (MvT n t.v) w) := by
  obtain ⟨X, hX⟩ : ∃ X, w.alloc (.cells #[.string t.s, .int .i32 t.f, .int .i32 t.r, .bool t.n, .slice t.a t.xs.length t.ca, .slice t.b t.ys.length t.cb, .bool t.m, .slice t.c t.us.length t.cc, .slice t.d t.vs.length t.cd] 37) = X := ⟨_, rfl⟩
  obtain ⟨Y, hY⟩ : ∃ Y, X.alloc (.cells #[.string ⟨#[]⟩, .int .i32 0, .int .i32 0, .bool false, .slice none 0 0, .slice none 0 0, .bool false, .slice none 0 0, .slice none 0 0] 37) = Y := ⟨_, rfl⟩
  have hXs : X.heap.size = w.heap.size + 1 := by subst hX; simp
  have HX : Hid (Box Y w.heap.size 37 #[.string t.s, .int .i32 t.f, .int .i32 t.r, .bool t.n, .slice t.a t.xs.length t.ca, .slice t.b t.ys.length t.cb, .bool t.m, .slice t.c t.us.length t.cc, .slice t.d t.vs.length t.cd]) := by
    subst hY hX
    exact (Box.made w _ _).later (alloc_later _ _) (Box.made w 37 _).lt
  have HR : Hid (Box Y (w.heap.size + 1) 37 #[.string ⟨#[]⟩, .int .i32 0, .int .i32 0, .bool false, .slice none 0 0, .slice none 0 0, .bool false, .slice none 0 0, .slice none 0 0]) := by
    rw [← hXs]
    subst hY
    exact Box.made X _ _
  have HB : Hid (Below w.heap.size w Y) := by
    subst hY hX
    exact bt (alloc_later _ _) (alloc_later _ _)
  have HYs : Hid (w.heap.size + 1 < Y.heap.size) := HR.out.lt
  have hro := (tchk_ok hk).2.1
  have hgc := (tchk_ok hk).2.2
  have HP := hid (oPower_any t.f t.r n Y (trok hro) n0 n1)
  have HM : Hid (∀ (g : G6) (V : World), Below Y.heap.size Y V → g.Ow V Y.heap.size → g.Is (oP t.f t.r n).1 (oP t.f t.r n).2 → Calls Tryz.prog 105 #[.agg #[.bool t.n, .slice t.a t.xs.length t.ca, .slice t.b t.ys.length t.cb, .bool t.m, .slice t.c t.us.length t.cc, .slice t.d t.vs.length t.cd], .agg #[.bool g.n, .slice g.a g.xs.length g.ca, .slice g.b g.ys.length g.cb, .bool g.m, .slice g.c g.us.length g.cc, .slice g.d g.vs.length g.cd]] V (KGq V 0 (mlong t.v.q1 t.v.q2 (oP t.f t.r n).1 (oP t.f t.r n).2) (t.v.q1 * (oP t.f t.r n).1 - t.v.q2 * (oP t.f t.r n).2) (t.v.q1 * (oP t.f t.r n).2 + t.v.q2 * (oP t.f t.r n).1))) := fun g V hV hg hi => by
    have hs := hg.sl hi
    have hv := bt HB.out hV
    have q := gMul_cut t.n t.a t.ca t.xs t.b t.cb t.ys t.m t.c t.cc t.us t.d t.cd t.vs g.n g.a g.ca g.xs g.b g.cb g.ys g.m g.c g.cc g.us g.d g.cd g.vs V (ht.sx.later hv) (ht.sy.later hv) (ht.su.later hv) (ht.sv.later hv) hs.1 hs.2.1 hs.2.2.1 hs.2.2.2
    rw [hgc, hi.chk, fstE_zero, hi.1.2, hi.2.1.2] at q
    exact Calls.mono q (fun x w' h => kgq_of h)
  have HD1 : Hid (mlong t.v.q1 t.v.q2 (oP t.f t.r n).1 (oP t.f t.r n).2 → ∀ v, MvT n t.v v 3) := fun h v => .inl ⟨h, rfl⟩
  have HD2 : Hid (¬ mlong t.v.q1 t.v.q2 (oP t.f t.r n).1 (oP t.f t.r n).2 → ∀ v : TV, v.s = t.v.s → v.f = t.v.f → v.r = t.v.r → v.Is (t.v.q1 * (oP t.f t.r n).1 - t.v.q2 * (oP t.f t.r n).2) (t.v.q1 * (oP t.f t.r n).2 + t.v.q2 * (oP t.f t.r n).1) → MvT n t.v v 0) := fun h v h1 h2 h3 h4 => .inr ⟨h, rfl, h1, h2, h3, h4⟩
  unfold TL.cells
  clear ht hk hro hgc n0 n1
  generalize MvT n t.v = R at *
  generalize (oP t.f t.r n).1 = P1 at *
  generalize (oP t.f t.r n).2 = P2 at *
  generalize mlong t.v.q1 t.v.q2 P1 P2 = ML at *
  generalize t.v.q1 * P1 - t.v.q2 * P2 = Z1 at *
  generalize t.v.q1 * P2 + t.v.q2 * P1 = Z2 at *
  have k1 : Y.cell? ⟨w.heap.size, 1, none⟩ = some (.int .i32 t.f) := HX.out.cell 1
  have k2 : Y.cell? ⟨w.heap.size, 2, none⟩ = some (.int .i32 t.r) := HX.out.cell 2
  go_enter Tryz.func64, Tryz.ntmps64
  go_wp2_with fail
  refine Calls.mono HP.out ?_
  rintro e w1 ⟨g, rfl, ho, hi, hb, _⟩
  obtain ⟨Q, hQ⟩ : ∃ Q, w1.alloc (.cells #[.bool g.n, .slice g.a g.xs.length g.ca, .slice g.b g.ys.length g.cb, .bool g.m, .slice g.c g.us.length g.cc, .slice g.d g.vs.length g.cd] 35) = Q := ⟨_, rfl⟩
  have HG : Hid (Box Q w1.heap.size 35 #[.bool g.n, .slice g.a g.xs.length g.ca, .slice g.b g.ys.length g.cb, .bool g.m, .slice g.c g.us.length g.cc, .slice g.d g.vs.length g.cd]) := by
    subst hQ
    exact Box.made w1 _ _
  have HBQ : Hid (Below w1.heap.size w1 Q) := by
    subst hQ
    exact alloc_later _ _
  have HYQ := hid (bt hb.out HBQ.out)
  have HXQ := hid (HX.out.later HYQ.out HX.out.lt)
  have HRQ := hid (HR.out.later HYQ.out HR.out.lt)
  have HMQ := hid (HM.out g Q HYQ.out (ho.out.later HBQ.out) hi.out)
  have HWQ := hid (bt HB.out HYQ.out)
  have hw1 : Y.heap.size ≤ w1.heap.size := hb.out.size
  clear HM HP ho hi hb HBQ k1 k2 HX HR
  have k3 : Q.cell? ⟨w.heap.size, 3, none⟩ = some (.bool t.n) := HXQ.out.cell 3
  have k4 : Q.cell? ⟨w.heap.size, 4, none⟩ = some (.slice t.a t.xs.length t.ca) := HXQ.out.cell 4
  have k5 : Q.cell? ⟨w.heap.size, 5, none⟩ = some (.slice t.b t.ys.length t.cb) := HXQ.out.cell 5
  have k6 : Q.cell? ⟨w.heap.size, 6, none⟩ = some (.bool t.m) := HXQ.out.cell 6
  have k7 : Q.cell? ⟨w.heap.size, 7, none⟩ = some (.slice t.c t.us.length t.cc) := HXQ.out.cell 7
  have k8 : Q.cell? ⟨w.heap.size, 8, none⟩ = some (.slice t.d t.vs.length t.cd) := HXQ.out.cell 8
  have g0 : Q.cell? ⟨w1.heap.size, 0, none⟩ = some (.bool g.n) := HG.out.cell 0
  have g1 : Q.cell? ⟨w1.heap.size, 1, none⟩ = some (.slice g.a g.xs.length g.ca) := HG.out.cell 1
  have g2 : Q.cell? ⟨w1.heap.size, 2, none⟩ = some (.slice g.b g.ys.length g.cb) := HG.out.cell 2
  have g3 : Q.cell? ⟨w1.heap.size, 3, none⟩ = some (.bool g.m) := HG.out.cell 3
  have g4 : Q.cell? ⟨w1.heap.size, 4, none⟩ = some (.slice g.c g.us.length g.cc) := HG.out.cell 4
  have g5 : Q.cell? ⟨w1.heap.size, 5, none⟩ = some (.slice g.d g.vs.length g.cd) := HG.out.cell 5
  go_wp2_with fail
  refine Calls.mono HMQ.out ?_
  rintro e w2 ⟨r, code, rfl, ho2, ht2, hin2, hb2⟩
  obtain ⟨Q2, hQ2⟩ : ∃ Q2, w2.alloc (.cells #[.bool r.n, .slice r.a r.xs.length r.ca, .slice r.b r.ys.length r.cb, .bool r.m, .slice r.c r.us.length r.cc, .slice r.d r.vs.length r.cd] 35) = Q2 := ⟨_, rfl⟩
  have HG2 : Hid (Box Q2 w2.heap.size 35 #[.bool r.n, .slice r.a r.xs.length r.ca, .slice r.b r.ys.length r.cb, .bool r.m, .slice r.c r.us.length r.cc, .slice r.d r.vs.length r.cd]) := by
    subst hQ2
    exact Box.made w2 _ _
  have HBQ2 : Hid (Below w2.heap.size w2 Q2) := by
    subst hQ2
    exact alloc_later _ _
  have HQQ := hid (bt hb2 HBQ2.out)
  have HX2 := hid (HXQ.out.later HQQ.out HXQ.out.lt)
  have HR2 := hid (HRQ.out.later HQQ.out HRQ.out.lt)
  have HW2 := hid (bt HWQ.out HQQ.out)
  have HO2 : Hid (r.Ow Q2 Q.heap.size) := ho2.out.later HBQ2.out
  have hsz : w.heap.size + 1 < Q.heap.size := by have h1 := HYs.out; have h2 := HYQ.out.size; omega
  have HI2 : Hid (r.In Q.heap.size w2.heap.size) := hin2.out
  have hw2 : w2.heap.size ≤ Q2.heap.size := HBQ2.out.size
  clear HMQ k3 k4 k5 k6 k7 k8 g0 g1 g2 g3 g4 g5 HG HXQ HRQ HWQ ho2 hin2 hb2
  by_cases hL : ML
  · have hc := (ht2.out.long rfl hL).2
    subst hc
    have HE := hid (HD1.out hL)
    clear hL HD2 ht2
    obtain ⟨⟨s0, s1, s2, s3, s4, s5, s6, s7, s8⟩, ⟨x0, x1, x2, x3, x4, x5, x6, x7, x8⟩, ⟨u0, u1, u2, u3, u4, u5, u6, u7, u8⟩⟩ := pzero9 HR2.out
    go_wp2_with fail
    exact bodyPost_ret (tres_run (by rfl) HR2.out _ rfl) rfl ⟨TL.zero, 3, rfl, HE.out _, TL.zero_ow _ _, TL.zero_in HW2.out.size, HW2.out⟩
  · obtain ⟨hc, h1, h2⟩ := ht2.out.good rfl hL
    subst hc
    have HE := hid (HD2.out hL ⟨t.s, t.f, t.r, r.n, r.xs, r.ys, r.m, r.us, r.vs⟩ rfl rfl rfl ⟨h1, h2, ht2.out.wd⟩)
    clear hL HD1 ht2 h1 h2
    have k0 : Q2.cell? ⟨w.heap.size, 0, none⟩ = some (.string t.s) := HX2.out.cell 0
    have k1 : Q2.cell? ⟨w.heap.size, 1, none⟩ = some (.int .i32 t.f) := HX2.out.cell 1
    have k2 : Q2.cell? ⟨w.heap.size, 2, none⟩ = some (.int .i32 t.r) := HX2.out.cell 2
    have g0 : Q2.cell? ⟨w2.heap.size, 0, none⟩ = some (.bool r.n) := HG2.out.cell 0
    have g1 : Q2.cell? ⟨w2.heap.size, 1, none⟩ = some (.slice r.a r.xs.length r.ca) := HG2.out.cell 1
    have g2 : Q2.cell? ⟨w2.heap.size, 2, none⟩ = some (.slice r.b r.ys.length r.cb) := HG2.out.cell 2
    have g3 : Q2.cell? ⟨w2.heap.size, 3, none⟩ = some (.bool r.m) := HG2.out.cell 3
    have g4 : Q2.cell? ⟨w2.heap.size, 4, none⟩ = some (.slice r.c r.us.length r.cc) := HG2.out.cell 4
    have g5 : Q2.cell? ⟨w2.heap.size, 5, none⟩ = some (.slice r.d r.vs.length r.cd) := HG2.out.cell 5
    obtain ⟨A0, A1, A2, A3, A4, A5, A6, A7, A8, q0, q1, q2, q3, q4, q5, q6, q7, q8, ⟨p0, p1, p2, p3, p4, p5, p6, p7, p8⟩, ⟨f0, f1, f2, f3, f4, f5, f6, f7, f8⟩⟩ := tchain9 HR2.out (.string t.s) (.int .i32 t.f) (.int .i32 t.r) (.bool r.n) (.slice r.a r.xs.length r.ca) (.slice r.b r.ys.length r.cb) (.bool r.m) (.slice r.c r.us.length r.cc) (.slice r.d r.vs.length r.cd)
    have HA : Hid (Box A8 (w.heap.size + 1) 37 #[.string t.s, .int .i32 t.f, .int .i32 t.r, .bool r.n, .slice r.a r.xs.length r.ca, .slice r.b r.ys.length r.cb, .bool r.m, .slice r.c r.us.length r.cc, .slice r.d r.vs.length r.cd] ∧ Below w.heap.size w A8 ∧ A8.heap.size = Q2.heap.size ∧ r.Ow A8 w.heap.size) := by
      have hb := HR2.out
      have hw := HW2.out
      have ho := HO2.out.base (Nat.le_of_lt (Nat.lt_of_succ_lt hsz) : w.heap.size ≤ Q.heap.size)
      have hne : ∀ v : Value, ∀ k l, Q2.ownsRow Q.heap.size 78 1 v k l → ∀ g, v.ownBlock = some g → g ≠ w.heap.size + 1 := fun v k l h g hg => by have := (h.lt g hg).1; omega
      have h0 := HO2.out
      clear p0 p1 p2 p3 p4 p5 p6 p7 p8 f0 f1 f2 f3 f4 f5 f6 f7 f8
      subst q0 q1 q2 q3 q4 q5 q6 q7 q8
      have put : ∀ v k l, Q2.ownsRow Q.heap.size 78 1 v k l → _ := fun v k l h => owns_base (own_put9 h (w.heap.size + 1) (hne v k l h) (.string t.s) (.int .i32 t.f) (.int .i32 t.r) (.bool r.n) (.slice r.a r.xs.length r.ca) (.slice r.b r.ys.length r.cb) (.bool r.m) (.slice r.c r.us.length r.cc) (.slice r.d r.vs.length r.cd)) (Nat.le_of_lt (Nat.lt_of_succ_lt hsz) : w.heap.size ≤ Q.heap.size)
      exact ⟨box_put9 hb _ _ _ _ _ _ _ _ _, below_put9 hw _ (by omega) _ _ _ _ _ _ _ _ _, by simp [World.setCell], put _ _ _ h0.1, put _ _ _ h0.2.1, put _ _ _ h0.2.2.1, put _ _ _ h0.2.2.2⟩
    clear HX2 HR2 HW2 HO2 HG2
    go_wp2_with fail
    refine bodyPost_ret (tres_run (by rfl) HA.out.1 _ rfl) rfl ⟨⟨t.s, t.f, t.r, r.n, r.a, r.ca, r.xs, r.b, r.cb, r.ys, r.m, r.c, r.cc, r.us, r.d, r.cd, r.vs⟩, 0, rfl, HE.out, HA.out.2.2.2, ?_, HA.out.2.1⟩
    exact qin_wide HI2.out (by omega) (by rw [HA.out.2.2.1]; exact hw2)
end Go.Proofs.YtnfemheabikolaaGreatDoor

/- package port: the two changes, tide.Conj and Moved's closure, told alike. (tools/mkqc8.py) -/
namespace Go.Proofs.YtnfemheabikolaaGreatDoor
open Go.RowKit
set_option linter.unusedVariables false
set_option linter.unusedSimpArgs false

theorem tput9 {W A8 : World} {b base : Nat} {r : TL} (hb : Box W b 37 #[.string ⟨#[]⟩, .int .i32 0, .int .i32 0, .bool false, .slice none 0 0, .slice none 0 0, .bool false, .slice none 0 0, .slice none 0 0]) (hB : base ≤ b) {w : World} (hw : Below base w W) {r0 : Nat} (ho : r.g.Ow W r0) (hr : b < r0)
    (h : ((((((((W.setCell ⟨b, 0, none⟩ (.string r.s)).setCell ⟨b, 1, none⟩ (.int .i32 r.f)).setCell ⟨b, 2, none⟩ (.int .i32 r.r)).setCell ⟨b, 3, none⟩ (.bool r.n)).setCell ⟨b, 4, none⟩ (.slice r.a r.xs.length r.ca)).setCell ⟨b, 5, none⟩ (.slice r.b r.ys.length r.cb)).setCell ⟨b, 6, none⟩ (.bool r.m)).setCell ⟨b, 7, none⟩ (.slice r.c r.us.length r.cc)).setCell ⟨b, 8, none⟩ (.slice r.d r.vs.length r.cd) = A8) : Box A8 b 37 r.cells ∧ Below base w A8 ∧ A8.heap.size = W.heap.size ∧ r.g.Ow A8 r0 := by
  subst h
  have put : ∀ v k l, W.ownsRow r0 78 1 v k l → _ := fun v k l h => own_put9 h b (fun g hg => by have := (h.lt g hg).1; omega) (.string r.s) (.int .i32 r.f) (.int .i32 r.r) (.bool r.n) (.slice r.a r.xs.length r.ca) (.slice r.b r.ys.length r.cb) (.bool r.m) (.slice r.c r.us.length r.cc) (.slice r.d r.vs.length r.cd)
  exact ⟨box_put9 hb _ _ _ _ _ _ _ _ _, below_put9 hw _ hB _ _ _ _ _ _ _ _ _, by simp [World.setCell], put _ _ _ ho.1, put _ _ _ ho.2.1, put _ _ _ ho.2.2.1, put _ _ _ ho.2.2.2⟩
set_option maxHeartbeats 3200000 in
set_option maxRecDepth 100000 in
theorem pMovedC_any (t : TL) (n : Int) (g : Nat) (w : World) (ht : t.ok w) (hk : t.chk = 0) (n0 : -1024 ≤ n) (n1 : n ≤ 1024) (hg : Box w g 3 #[.int .i64 n]) : Calls Tryz.prog 63 #[.agg t.cells, .pointer (some ⟨g, 0, none⟩)] w (TRet (MvT n t.v) w) := by
  obtain ⟨X, hX⟩ : ∃ X, w.alloc (.cells #[.string t.s, .int .i32 t.f, .int .i32 t.r, .bool t.n, .slice t.a t.xs.length t.ca, .slice t.b t.ys.length t.cb, .bool t.m, .slice t.c t.us.length t.cc, .slice t.d t.vs.length t.cd] 37) = X := ⟨_, rfl⟩
  obtain ⟨Y, hY⟩ : ∃ Y, X.alloc (.cells #[.string ⟨#[]⟩, .int .i32 0, .int .i32 0, .bool false, .slice none 0 0, .slice none 0 0, .bool false, .slice none 0 0, .slice none 0 0] 37) = Y := ⟨_, rfl⟩
  have hXs : X.heap.size = w.heap.size + 1 := by subst hX; simp
  have HBOX : Hid (Box Y w.heap.size 37 #[.string t.s, .int .i32 t.f, .int .i32 t.r, .bool t.n, .slice t.a t.xs.length t.ca, .slice t.b t.ys.length t.cb, .bool t.m, .slice t.c t.us.length t.cc, .slice t.d t.vs.length t.cd]) := by
    subst hY hX
    exact (Box.made w _ _).later (alloc_later _ _) (Box.made w 37 _).lt
  have HR : Hid (Box Y (w.heap.size + 1) 37 #[.string ⟨#[]⟩, .int .i32 0, .int .i32 0, .bool false, .slice none 0 0, .slice none 0 0, .bool false, .slice none 0 0, .slice none 0 0]) := by
    rw [← hXs]
    subst hY
    exact Box.made X _ _
  have HB : Hid (Below w.heap.size w Y) := by
    subst hY hX
    exact bt (alloc_later _ _) (alloc_later _ _)
  have HYs : Hid (w.heap.size + 1 < Y.heap.size) := HR.out.lt
  have HC := hid (pmoved_any t n Y (ht.later HB.out) hk n0 n1)
  generalize MvT n t.v = R at *
  have gg : Y.cell? ⟨g, 0, none⟩ = some (.int .i64 n) := (hg.later HB.out hg.lt).cell 0
  have k0 : Y.cell? ⟨w.heap.size, 0, none⟩ = some (.string t.s) := HBOX.out.cell 0
  have k1 : Y.cell? ⟨w.heap.size, 1, none⟩ = some (.int .i32 t.f) := HBOX.out.cell 1
  have k2 : Y.cell? ⟨w.heap.size, 2, none⟩ = some (.int .i32 t.r) := HBOX.out.cell 2
  have k3 : Y.cell? ⟨w.heap.size, 3, none⟩ = some (.bool t.n) := HBOX.out.cell 3
  have k4 : Y.cell? ⟨w.heap.size, 4, none⟩ = some (.slice t.a t.xs.length t.ca) := HBOX.out.cell 4
  have k5 : Y.cell? ⟨w.heap.size, 5, none⟩ = some (.slice t.b t.ys.length t.cb) := HBOX.out.cell 5
  have k6 : Y.cell? ⟨w.heap.size, 6, none⟩ = some (.bool t.m) := HBOX.out.cell 6
  have k7 : Y.cell? ⟨w.heap.size, 7, none⟩ = some (.slice t.c t.us.length t.cc) := HBOX.out.cell 7
  have k8 : Y.cell? ⟨w.heap.size, 8, none⟩ = some (.slice t.d t.vs.length t.cd) := HBOX.out.cell 8
  unfold TL.cells
  clear ht hk n0 n1 hg
  go_enter Tryz.func63, Tryz.ntmps63
  go_wp2_with fail
  refine Calls.mono HC.out ?_
  rintro e w1 ⟨u, c, rfl, hr, ho, hi, hb⟩
  have HR1 := hid (HR.out.later hb HR.out.lt)
  have HB1 := hid (bt HB.out hb)
  have HO := hid ho
  have HI := hid hi
  have HRR := hid hr
  have hsz := hb.size
  have hy := HYs.out
  clear hb HC k0 k1 k2 k3 k4 k5 k6 k7 k8 gg HR HBOX ho hi hr
  obtain ⟨A0, A1, A2, A3, A4, A5, A6, A7, A8, q0, q1, q2, q3, q4, q5, q6, q7, q8, ⟨p0, p1, p2, p3, p4, p5, p6, p7, p8⟩, ⟨f0, f1, f2, f3, f4, f5, f6, f7, f8⟩⟩ := tchain9 HR1.out (.string u.s) (.int .i32 u.f) (.int .i32 u.r) (.bool u.n) (.slice u.a u.xs.length u.ca) (.slice u.b u.ys.length u.cb) (.bool u.m) (.slice u.c u.us.length u.cc) (.slice u.d u.vs.length u.cd)
  have HA := hid (tput9 (A8 := A8) HR1.out (Nat.le_succ _) HB1.out HO.out hy (by rw [q0, q1, q2, q3, q4, q5, q6, q7, q8]))
  clear HR1 HB1 HO
  go_wp2_with fail
  exact bodyPost_ret (tres_run (by rfl) HA.out.1 _ rfl) rfl ⟨u, c, rfl, HRR.out, HA.out.2.2.2.base (by omega), qin_wide HI.out (by omega) (by rw [HA.out.2.2.1]; exact Nat.le_refl _), HA.out.2.1⟩
def CjT (t v : TV) (c : Int) : Prop := c = 0 ∧ v.s = t.s ∧ v.f = t.f ∧ v.r = -t.r ∧ v.Is t.q1 (-t.q2)
theorem pConjC_any (t : TL) (w : World) (ht : t.ok w) (hk : t.chk = 0) : Calls Tryz.prog 14 #[.agg t.cells] w (TRet (CjT t.v) w) := by
  have hg := (tchk_ok hk).2.2
  obtain ⟨g1, g2⟩ := gchk_ok hg
  have hl : ¬ (rlong (rq t.n t.xs t.ys) ∨ rlong (-(rq t.m t.us t.vs))) := by
    rintro (h | h)
    · exact znotlong ht.sx.wd ht.sy.wd g1 h
    · exact znotlong ht.su.wd ht.sv.wd g2 (rlong_neg.1 h)
  refine Calls.mono (tConj_full t.s t.f t.r t.n t.a t.ca t.xs t.b t.cb t.ys t.m t.c t.cc t.us t.d t.cd t.vs w ht.size ht.rot ht.sx ht.sy ht.su ht.sv) ?_
  rintro x w' ⟨S, F, R, n, a, ca, xs, b, cb, ys, m, c, cc, us, d, cd, vs, code, rfl, ho, tt, hb, W1, k1, k2⟩
  obtain ⟨hc, e1, e2⟩ := tt.num.good hk hl
  obtain ⟨e3, e4, e5⟩ := tt.good hc
  have e : S = t.s := ByteArray.ext (Array.toList_inj.1 e3)
  exact ⟨⟨S, F, R, n, a, ca, xs, b, cb, ys, m, c, cc, us, d, cd, vs⟩, code, rfl, ⟨hc, e, e4, e5, e1, e2, tt.num.wd⟩, ho, G6.in_of (g := ⟨n, a, ca, xs, b, cb, ys, m, c, cc, us, d, cd, vs⟩) ho k1 k2, hb⟩
end Go.Proofs.YtnfemheabikolaaGreatDoor

/- package port: slices.IndexFunc over constituents, Find. -/
namespace Go.Proofs.YtnfemheabikolaaGreatDoor
open Go.RowKit
set_option linter.unusedVariables false
set_option linter.unusedSimpArgs false

def FstI (q : Nat → Bool) (n : Nat) (z : Int) : Prop := (∃ i : Nat, i < n ∧ z = i ∧ q i = true ∧ ∀ j, j < i → q j = false) ∨ (z = -1 ∧ ∀ j, j < n → q j = false)
end Go.Proofs.YtnfemheabikolaaGreatDoor

/- package port: clashes. -/
namespace Go.Proofs.YtnfemheabikolaaGreatDoor
open Go.RowKit
set_option linter.unusedVariables false
set_option linter.unusedSimpArgs false

def clB (u t : TL) : Bool := (u.s.toList == t.s.toList) || (u.f == t.f && u.r == t.r)
set_option maxHeartbeats 1600000 in
set_option maxRecDepth 100000 in
theorem pClash1_any (t u : TL) (g : Nat) (w : World) (hk : Box w g 37 t.cells) : Calls Tryz.prog 114 #[.agg u.cells, .pointer (some ⟨g, 0, none⟩)] w fun e w' => e = .returned (.bool (clB u t)) ∧ Below w.heap.size w w' := by
  have HB := hid ((Below.refl w.heap.size w).alloc (Nat.le_refl _) (.cells u.cells 37))
  have HX : Hid (Box (w.alloc (.cells u.cells 37)) w.heap.size 37 u.cells) := Box.made w _ _
  have HK : Hid (Box (w.alloc (.cells u.cells 37)) g 37 t.cells) := hk.later (alloc_later _ _) hk.lt
  obtain ⟨X, hX⟩ : ∃ X, w.alloc (.cells u.cells 37) = X := ⟨_, rfl⟩
  rw [hX] at HB HX HK
  unfold TL.cells at hX
  have a0 : X.cell? ⟨w.heap.size, 0, none⟩ = some (.string u.s) := HX.out.cell 0
  have a1 : X.cell? ⟨w.heap.size, 1, none⟩ = some (.int .i32 u.f) := HX.out.cell 1
  have a2 : X.cell? ⟨w.heap.size, 2, none⟩ = some (.int .i32 u.r) := HX.out.cell 2
  have b0 : X.cell? ⟨g, 0, none⟩ = some (.string t.s) := HK.out.cell 0
  have b1 : X.cell? ⟨g, 1, none⟩ = some (.int .i32 t.f) := HK.out.cell 1
  have b2 : X.cell? ⟨g, 2, none⟩ = some (.int .i32 t.r) := HK.out.cell 2
  have hro := troEq u.f u.r t.f t.r X
  have HQ : Hid (clB u t = ((u.s.toList == t.s.toList) || (u.f == t.f && u.r == t.r))) := rfl
  generalize clB u t = Q at *
  unfold TL.cells
  clear hk
  cases hs : (u.s.toList == t.s.toList) with
  | true =>
    rw [hs] at HQ
    go_enter Tryz.func114, Tryz.ntmps114
    go_wp2_with fail
    go_ret
    exact ⟨ret_bool (HQ.out.trans (Bool.true_or _)).symm, HB.out⟩
  | false =>
    rw [hs] at HQ
    have HQ3 : Q = (u.f == t.f && u.r == t.r) := HQ.out.trans (Bool.false_or _)
    go_enter Tryz.func114, Tryz.ntmps114
    go_wp2_with fail
    all_goals go_ret
    all_goals (
      refine ⟨ret_bool ?_, HB.out⟩
      rw [HQ3]
      simp [*])
set_option maxHeartbeats 3200000 in
set_option maxRecDepth 100000 in
theorem pindexC_any (g : Nat) (q : Nat → Bool) (t : Option Addr) (n ct : Nat) (ts : List TL) (w : World) (hn : n ≤ 1000000) (hl : ts.length = n) (ht : RdT w t ts) (hC : ∀ j V, j < n → Below w.heap.size w V → Calls Tryz.prog 114 #[.agg (tT ts j).cells, .pointer (some ⟨g, 0, none⟩)] V fun e w' => e = .returned (.bool (q j)) ∧ Below V.heap.size V w') :
    Calls Tryz.prog 54 #[.slice t n ct, .func (.func 114) #[] #[.pointer (some ⟨g, 0, none⟩)]] w fun e w' => ∃ z : Int, e = .returned (.int .i64 z) ∧ FstI q n z ∧ Below w.heap.size w w' := by
  have HX := hid ht
  have HL := hid hl
  have HC := hid hC
  clear ht hl hC
  go_enter Tryz.func54, Tryz.ntmps54
  go_wp2_with fail
  go_loopw [8] (fun x wr => ∃ k : Nat, k ≤ n ∧ x = .int .i64 (k : Int) ∧ Hid (Below w.heap.size w wr) ∧ Hid (∀ j, j < k → q j = false)) (fun x _ => n - (intOf x).toNat)
  case atStart => exact ⟨0, Nat.zero_le _, rfl, Below.refl _ _, (fun j hj => by omega : ∀ j, j < 0 → _)⟩
  case round =>
    obtain ⟨k, hk, rfl, HW, HT⟩ := hrel
    by_cases hlt : k < n
    · have hkx : k < ts.length := by have := HL.out; omega
      rcases HX.out.2 with h0 | ⟨bb, o, rfl, hg, hx⟩
      · rw [h0] at hkx; exact absurd hkx (by simp)
      have hci := hx k _ (tT_at hkx)
      have HCk := hid (HC.out k wr hlt HW.out)
      have e0 := (HW.out.cell (p := ⟨bb, o + k * 9 + 0, none⟩) hg).trans (hci 0 (by decide))
      have e1 := (HW.out.cell (p := ⟨bb, o + k * 9 + 1, none⟩) hg).trans (hci 1 (by decide))
      have e2 := (HW.out.cell (p := ⟨bb, o + k * 9 + 2, none⟩) hg).trans (hci 2 (by decide))
      have e3 := (HW.out.cell (p := ⟨bb, o + k * 9 + 3, none⟩) hg).trans (hci 3 (by decide))
      have e4 := (HW.out.cell (p := ⟨bb, o + k * 9 + 4, none⟩) hg).trans (hci 4 (by decide))
      have e5 := (HW.out.cell (p := ⟨bb, o + k * 9 + 5, none⟩) hg).trans (hci 5 (by decide))
      have e6 := (HW.out.cell (p := ⟨bb, o + k * 9 + 6, none⟩) hg).trans (hci 6 (by decide))
      have e7 := (HW.out.cell (p := ⟨bb, o + k * 9 + 7, none⟩) hg).trans (hci 7 (by decide))
      have e8 := (HW.out.cell (p := ⟨bb, o + k * 9 + 8, none⟩) hg).trans (hci 8 (by decide))
      clear hci hx
      generalize tT ts k = tt at *
      have c0 : wr.cell? ⟨bb, o + k * 9, none⟩ = some (.string tt.s) := e0
      have c1 : wr.cell? ⟨bb, o + k * 9 + 1, none⟩ = some (.int .i32 tt.f) := e1
      have c2 : wr.cell? ⟨bb, o + k * 9 + 2, none⟩ = some (.int .i32 tt.r) := e2
      have c3 : wr.cell? ⟨bb, o + k * 9 + 3, none⟩ = some (.bool tt.n) := e3
      have c4 : wr.cell? ⟨bb, o + k * 9 + 4, none⟩ = some (.slice tt.a tt.xs.length tt.ca) := e4
      have c5 : wr.cell? ⟨bb, o + k * 9 + 5, none⟩ = some (.slice tt.b tt.ys.length tt.cb) := e5
      have c6 : wr.cell? ⟨bb, o + k * 9 + 6, none⟩ = some (.bool tt.m) := e6
      have c7 : wr.cell? ⟨bb, o + k * 9 + 7, none⟩ = some (.slice tt.c tt.us.length tt.cc) := e7
      have c8 : wr.cell? ⟨bb, o + k * 9 + 8, none⟩ = some (.slice tt.d tt.vs.length tt.cd) := e8
      clear e0 e1 e2 e3 e4 e5 e6 e7 e8
      have hk1 : (k : Int) < (n : Int) := by omega
      go_wp2_with fail
      refine Calls.mono HCk.out ?_
      rintro e w2 ⟨rfl, hb⟩
      have HB := hid (bt HW.out hb)
      clear hb c0 c1 c2 c3 c4 c5 c6 c7 c8 HCk
      cases hq : q k with
      | true =>
        have HR := hid hq
        go_wp2_with fail
        go_ret
        exact ⟨(k : Int), rfl, .inl ⟨k, hlt, rfl, HR.out, HT.out⟩, HB.out⟩
      | false =>
        have HN : Hid (∀ j, j < k + 1 → q j = false) := fun j hj => by
          rcases Nat.lt_or_ge j k with g1 | g1
          · exact HT.out j g1
          · obtain rfl : j = k := by omega
            exact hq
        go_wp2_with fail
        go_roundw
        case rel => exact ⟨k + 1, by omega, by go_num, HB.out, HN⟩
        case measure => simp [intOf]; omega
    · obtain rfl : k = n := by omega
      have hkk : ¬ (k : Int) < (k : Int) := by omega
      go_wp2_with fail
      go_ret
      exact ⟨-1, rfl, .inr ⟨rfl, HT.out⟩, HW.out⟩
set_option maxHeartbeats 3200000 in
set_option maxRecDepth 100000 in
theorem pcontC_any (g : Nat) (q : Nat → Bool) (t : Option Addr) (n ct : Nat) (ts : List TL) (w : World) (hn : n ≤ 1000000) (hl : ts.length = n) (ht : RdT w t ts) (hC : ∀ j V, j < n → Below w.heap.size w V → Calls Tryz.prog 114 #[.agg (tT ts j).cells, .pointer (some ⟨g, 0, none⟩)] V fun e w' => e = .returned (.bool (q j)) ∧ Below V.heap.size V w') :
    Calls Tryz.prog 58 #[.slice t n ct, .func (.func 114) #[] #[.pointer (some ⟨g, 0, none⟩)]] w fun e w' => ∃ bo : Bool, e = .returned (.bool bo) ∧ (bo = true ↔ ∃ j, j < n ∧ q j = true) ∧ Below w.heap.size w w' := by
  have HI := hid (pindexC_any g q t n ct ts w hn hl ht hC)
  clear ht hC
  go_enter Tryz.func58, Tryz.ntmps58
  go_wp2_with fail
  refine Calls.mono HI.out ?_
  rintro e w1 ⟨z, rfl, hz, hb⟩
  have e0 : decide (0 ≤ z) = true ↔ ∃ j, j < n ∧ q j = true := by
    rw [decide_eq_true_iff]
    rcases hz with ⟨i, hi, rfl, hq, _⟩ | ⟨rfl, hb⟩
    · exact ⟨fun _ => ⟨i, hi, hq⟩, fun _ => by omega⟩
    · exact ⟨fun h => by omega, fun ⟨j, hj, h⟩ => by rw [hb j hj] at h; cases h⟩
  have HE := hid e0
  have HB := hid hb
  clear e0 hz hb
  go_wp2_with fail
  go_ret
  exact ⟨decide (0 ≤ z), rfl, HE.out, HB.out⟩
end Go.Proofs.YtnfemheabikolaaGreatDoor

/- package port: clashes, of every port and constituent. -/
namespace Go.Proofs.YtnfemheabikolaaGreatDoor
open Go.RowKit
set_option linter.unusedVariables false

set_option maxHeartbeats 3200000 in
set_option maxRecDepth 100000 in
theorem pClashes_any (p : PL) (t : TL) (w : World) (hn : p.ts.length ≤ 1000000) (hp : p.ok w) :
    Calls Tryz.prog 50 #[.agg p.cells, .agg t.cells] w fun e w' => ∃ bo : Bool, e = .returned (.bool bo) ∧ (bo = true ↔ ∃ j, j < p.ts.length ∧ clB (tT p.ts j) t = true) ∧ Below w.heap.size w w' := by
  obtain ⟨X, hX⟩ : ∃ X, w.alloc (.cells p.cells 27) = X := ⟨_, rfl⟩
  obtain ⟨Y, hY⟩ : ∃ Y, X.alloc (.cells t.cells 37) = Y := ⟨_, rfl⟩
  have HX : Hid (Box X w.heap.size 27 p.cells) := by
    subst hX
    exact Box.made w _ _
  have HK : Hid (Box Y X.heap.size 37 t.cells) := by
    subst hY
    exact Box.made X _ _
  have HY : Hid (Box Y w.heap.size 27 p.cells) := by
    subst hY
    exact HX.out.later (alloc_later _ _) HX.out.lt
  have HB : Hid (Below w.heap.size w Y) := by
    subst hY hX
    exact bt (alloc_later _ _) (alloc_later _ _)
  have HI := hid (pcontC_any X.heap.size (fun j => clB (tT p.ts j) t) p.t p.ts.length p.ct p.ts Y hn rfl (hp.ts.later HB.out) (fun j V hj hV => pClash1_any t (tT p.ts j) X.heap.size V (HK.out.later hV HK.out.lt)))
  have k4 : Y.cell? ⟨w.heap.size, 4, none⟩ = some (.slice p.t p.ts.length p.ct) := HY.out.cell 4
  unfold PL.cells at hX
  unfold TL.cells at hY
  unfold PL.cells TL.cells
  clear hp HX HK HY
  go_enter Tryz.func50, Tryz.ntmps50
  go_wp2_with fail
  refine Calls.mono HI.out ?_
  rintro e w1 ⟨bo, rfl, hz, hb⟩
  have HZ := hid hz
  have HB1 := hid (bt HB.out hb)
  clear hz hb
  go_wp2_with fail
  go_ret
  exact ⟨bo, rfl, HZ.out, HB1.out⟩
end Go.Proofs.YtnfemheabikolaaGreatDoor

/- package port: With, of every port and constituent. -/
namespace Go.Proofs.YtnfemheabikolaaGreatDoor
open Go.RowKit
set_option linter.unusedVariables false
set_option linter.unusedSimpArgs false

theorem rwords {n : Bool} {xs ys : List Int} (h : rchk n xs ys = 0) : xs.length ≤ 2048 ∧ ys.length ≤ 2048 := ⟨(rchk_ok h).1, (rchk_ok h).2.1⟩
theorem TL.few_of {t : TL} (h : t.chk = 0) : t.v.few := by
  obtain ⟨_, _, hg⟩ := tchk_ok h
  obtain ⟨g1, g2⟩ := gchk_ok hg
  have a := rwords g1
  have b := rwords g2
  show t.xs.length ≤ 1099511627776 ∧ t.ys.length ≤ 1099511627776 ∧ t.us.length ≤ 1099511627776 ∧ t.vs.length ≤ 1099511627776
  omega
theorem phd_ok {l : List UInt8} {rc : Int} {k : Nat} (h : phd l rc k = 0) : tname l = true ∧ rc = 0 ∧ k ≤ 24 := by
  unfold phd at h
  by_cases hn : tname l = true
  · rw [if_pos hn] at h
    by_cases hr : rc = 0
    · rw [hr, fstE_zero] at h
      by_cases hk : 24 < k
      · rw [if_pos hk] at h; cases h
      · exact ⟨hn, hr, by omega⟩
    · rw [fstE_err _ hr] at h
      exact absurd h hr
  · rw [if_neg hn] at h; cases h
structure PL.good (p : PL) : Prop where
  nm : tname p.s.data.toList = true
  mean : rchk p.n p.xs p.ys = 0
  len : p.ts.length ≤ 24
  all : TOkTo p.ts p.ts.length
theorem PChk.good {p : PL} {z : Int} (h : PChk p.hd p.ts 0 z) : p.good ∧ z = 0 := by
  rcases h with ⟨h0, h1, _⟩ | ⟨h0, h1⟩
  · exact absurd h1.symm h0
  · obtain ⟨a, b, c⟩ := phd_ok h0
    rcases h1 with ⟨i, _, _, _, ⟨q, e⟩ | ⟨_, _, e⟩⟩ | ⟨hT, _, e⟩
    · exact absurd e.symm q
    · cases e
    · exact ⟨⟨a, b, c, hT⟩, e⟩
theorem PL.good.chk {p : PL} (h : p.good) : PChk p.hd p.ts 0 0 := by
  refine .inr ⟨?_, .inr ⟨h.all, rfl, rfl⟩⟩
  unfold PL.hd phd
  rw [if_pos h.nm, h.mean, fstE_zero, if_neg (by have := h.len; omega)]
theorem PL.good.few {p : PL} (h : p.good) : p.v.few := by
  have a := rwords h.mean
  refine ⟨by show p.xs.length ≤ _; omega, by show p.ys.length ≤ _; omega, by show (p.ts.map TL.v).length ≤ _; rw [List.length_map]; have := h.len; omega, fun t ht => ?_⟩
  obtain ⟨u, hu, rfl⟩ := List.mem_map.1 ht
  obtain ⟨j, hj, he⟩ := List.mem_iff_getElem.1 hu
  refine TL.few_of ?_
  have q := (h.all j hj).1
  have e : tT p.ts j = u := by
    have := tT_at hj
    rw [List.getElem?_eq_getElem hj, he] at this
    exact (Option.some.inj this).symm
  rw [← e]
  exact q
def PL.has (p : PL) (t : TL) : Prop := ∃ j, j < p.ts.length ∧ clB (tT p.ts j) t = true
def WtE (p : PL) (t : TL) (c : Int) : Prop := (∃ z, PChk p.hd p.ts c z ∧ c ≠ 0) ∨ (p.good ∧ ((t.chk ≠ 0 ∧ c = t.chk) ∨ (t.chk = 0 ∧ ((p.has t ∧ c = 5) ∨ (¬ p.has t ∧ ((p.ts.length = 24 ∧ c = 3) ∨ (p.ts.length ≠ 24 ∧ c = 0)))))))
def PV.more (p : PV) (t : TV) : PV := ⟨p.s, p.n, p.xs, p.ys, p.ts ++ [t]⟩
set_option maxHeartbeats 6400000 in
set_option maxRecDepth 100000 in
theorem pWith_any (p : PL) (t : TL) (w : World) (hp : p.ok w) (ht : t.ok w) : Calls Tryz.prog 9 #[.agg p.cells, .agg t.cells] w fun e w' => ∃ (q : PL) (c : Int), e = .returned (.tuple #[.agg q.cells, .int .i64 c]) ∧ WtE p t c ∧ Made q (if c = 0 then p.v.more t.v else PV.zero) w w' := by
  obtain ⟨i0, hi0, hz0, hz1, hz2⟩ := info_parts Tryz.infoT
  obtain ⟨X, hX⟩ : ∃ X, w.alloc (.cells p.cells 27) = X := ⟨_, rfl⟩
  obtain ⟨X2, hX2⟩ : ∃ X2, X.alloc (.cells t.cells 37) = X2 := ⟨_, rfl⟩
  obtain ⟨Y, hY⟩ : ∃ Y, X2.alloc (.cells #[.string ⟨#[]⟩, .bool false, .slice none 0 0, .slice none 0 0, .slice none 0 0] 27) = Y := ⟨_, rfl⟩
  have hXs : X.heap.size = w.heap.size + 1 := by subst hX; simp
  have hXs2 : X2.heap.size = w.heap.size + 1 + 1 := by subst hX2; simp [hXs]
  have HX : Hid (Box Y w.heap.size 27 p.cells) := by
    subst hY hX2 hX
    exact (Box.made w _ _).later (bt (alloc_later _ _) (alloc_later _ _)) (Box.made w 27 _).lt
  have HT : Hid (Box Y (w.heap.size + 1) 37 t.cells) := by
    rw [← hXs]
    subst hY hX2
    exact (Box.made X _ _).later (alloc_later _ _) (Box.made X 37 _).lt
  have HR : Hid (Box Y (w.heap.size + 1 + 1) 27 #[.string ⟨#[]⟩, .bool false, .slice none 0 0, .slice none 0 0, .slice none 0 0]) := by
    rw [← hXs2]
    subst hY
    exact Box.made X2 _ _
  have HB : Hid (Below w.heap.size w Y) := by
    subst hY hX2 hX
    exact bt (alloc_later _ _) (bt (alloc_later _ _) (alloc_later _ _))
  have HYs : Hid (w.heap.size + 1 + 1 < Y.heap.size) := HR.out.lt
  have HC1 := hid (plcheck_any p Y (hp.later HB.out))
  have HC2 : Hid (∀ V, Below Y.heap.size Y V → Calls Tryz.prog 49 #[.agg t.cells] V fun e w' => e = .returned (.int .i64 t.chk) ∧ Below V.heap.size V w') := fun V hV => tlcheck_any t V (ht.later (bt HB.out hV))
  have HC3 : Hid (p.good → ∀ V, Below Y.heap.size Y V → Calls Tryz.prog 50 #[.agg p.cells, .agg t.cells] V fun e w' => ∃ bo : Bool, e = .returned (.bool bo) ∧ (bo = true ↔ p.has t) ∧ Below V.heap.size V w') := fun h V hV => pClashes_any p t V (by have := h.len; omega) (hp.later (bt HB.out hV))
  have HC4 : Hid (p.good → ∀ V, Below Y.heap.size Y V → Calls Tryz.prog 51 #[.agg p.cells] V fun e w' => ∃ q : PL, e = .returned (.agg #[.string q.s, .bool q.n, .slice q.a q.xs.length q.ca, .slice q.b q.ys.length q.cb, .slice q.t q.ts.length q.ct]) ∧ Made q p.v V w') := fun h V hV => pCopied_any p V (hp.later (bt HB.out hV)) h.few
  have HC5 : Hid (t.chk = 0 → ∀ V, Below Y.heap.size Y V → Calls Tryz.prog 52 #[.agg #[.string t.s, .int .i32 t.f, .int .i32 t.r, .bool t.n, .slice t.a t.xs.length t.ca, .slice t.b t.ys.length t.cb, .bool t.m, .slice t.c t.us.length t.cc, .slice t.d t.vs.length t.cd]] V fun e w' => ∃ u : TL, e = .returned (.agg #[.string u.s, .int .i32 u.f, .int .i32 u.r, .bool u.n, .slice u.a u.xs.length u.ca, .slice u.b u.ys.length u.cb, .bool u.m, .slice u.c u.us.length u.cc, .slice u.d u.vs.length u.cd]) ∧ u.v = t.v ∧ u.g.Ow w' V.heap.size ∧ u.g.In V.heap.size w'.heap.size ∧ Below V.heap.size V w') := fun h V hV => tlcopy_any t V (ht.later (bt HB.out hV)) (TL.few_of h)
  have HG : Hid (∀ z, PChk p.hd p.ts 0 z → p.good) := fun z h => h.good.1
  have HE1 : Hid (∀ c z, PChk p.hd p.ts c z → c ≠ 0 → WtE p t c) := fun c z h h0 => .inl ⟨z, h, h0⟩
  have HE2 : Hid (p.good → t.chk ≠ 0 → WtE p t t.chk) := fun h h0 => .inr ⟨h, .inl ⟨h0, rfl⟩⟩
  have HE3 : Hid (p.good → t.chk = 0 → p.has t → WtE p t 5) := fun h h0 h1 => .inr ⟨h, .inr ⟨h0, .inl ⟨h1, rfl⟩⟩⟩
  have HE4 : Hid (p.good → t.chk = 0 → ¬ p.has t → p.ts.length = 24 → WtE p t 3) := fun h h0 h1 h2 => .inr ⟨h, .inr ⟨h0, .inr ⟨h1, .inl ⟨h2, rfl⟩⟩⟩⟩
  have HE5 : Hid (p.good → t.chk = 0 → ¬ p.has t → p.ts.length ≠ 24 → WtE p t 0) := fun h h0 h1 h2 => .inr ⟨h, .inr ⟨h0, .inr ⟨h1, .inr ⟨h2, rfl⟩⟩⟩⟩
  have HKP : Hid (∀ V, Box V w.heap.size 27 p.cells → V.cell? ⟨w.heap.size, 0, none⟩ = some (.string p.s) ∧ V.cell? ⟨w.heap.size, 1, none⟩ = some (.bool p.n) ∧ V.cell? ⟨w.heap.size, 2, none⟩ = some (.slice p.a p.xs.length p.ca) ∧ V.cell? ⟨w.heap.size, 3, none⟩ = some (.slice p.b p.ys.length p.cb) ∧ V.cell? ⟨w.heap.size, 4, none⟩ = some (.slice p.t p.ts.length p.ct)) := fun V h => ⟨h.cell 0, h.cell 1, h.cell 2, h.cell 3, h.cell 4⟩
  have HKT : Hid (∀ V, Box V (w.heap.size + 1) 37 t.cells → V.cell? ⟨w.heap.size + 1, 0, none⟩ = some (.string t.s) ∧ V.cell? ⟨w.heap.size + 1, 1, none⟩ = some (.int .i32 t.f) ∧ V.cell? ⟨w.heap.size + 1, 2, none⟩ = some (.int .i32 t.r) ∧ V.cell? ⟨w.heap.size + 1, 3, none⟩ = some (.bool t.n) ∧ V.cell? ⟨w.heap.size + 1, 4, none⟩ = some (.slice t.a t.xs.length t.ca) ∧ V.cell? ⟨w.heap.size + 1, 5, none⟩ = some (.slice t.b t.ys.length t.cb) ∧ V.cell? ⟨w.heap.size + 1, 6, none⟩ = some (.bool t.m) ∧ V.cell? ⟨w.heap.size + 1, 7, none⟩ = some (.slice t.c t.us.length t.cc) ∧ V.cell? ⟨w.heap.size + 1, 8, none⟩ = some (.slice t.d t.vs.length t.cd)) := fun V h => ⟨h.cell 0, h.cell 1, h.cell 2, h.cell 3, h.cell 4, h.cell 5, h.cell 6, h.cell 7, h.cell 8⟩
  clear hp ht
  obtain ⟨k0, k1, k2, k3, k4⟩ := HKP.out _ HX.out
  go_enter Tryz.func9, Tryz.ntmps9
  go_wp2_with fail
  refine Calls.mono HC1.out ?_
  rintro e w1 ⟨c, z, rfl, hc, b1⟩
  have HX1 := hid (HX.out.later b1 HX.out.lt)
  have HT1 := hid (HT.out.later b1 HT.out.lt)
  have HR1 := hid (HR.out.later b1 HR.out.lt)
  obtain ⟨W2, hW2⟩ : ∃ W2, w1.alloc (.cells #[.int .i64 0, .int .i64 0] 40) = W2 := ⟨_, rfl⟩
  have HF : Hid (Box W2 w1.heap.size 40 #[.int .i64 0, .int .i64 0]) := by
    subst hW2
    exact Box.made w1 _ _
  have HB2 : Hid (Below w1.heap.size w1 W2) := by
    subst hW2
    exact alloc_later _ _
  have hs1 : Y.heap.size ≤ w1.heap.size := b1.size
  obtain ⟨A0, A1, q0, q1, ⟨r0, r1⟩, ⟨v0, v1⟩, HA⟩ := rchain2 HF.out (by decide) (.int .i64 c) (.int .i64 z)
  have hy := HYs.out
  have HYA : Hid (Below Y.heap.size Y A1) := HA.out.2.2.2.1 _ _ hs1 (bt b1 HB2.out)
  have HXA := hid (HA.out.2.1 _ _ _ (show w.heap.size ≠ w1.heap.size by omega) (HX1.out.later HB2.out HX1.out.lt))
  have HTA := hid (HA.out.2.1 _ _ _ (show w.heap.size + 1 ≠ w1.heap.size by omega) (HT1.out.later HB2.out HT1.out.lt))
  have HRA := hid (HA.out.2.1 _ _ _ (show w.heap.size + 1 + 1 ≠ w1.heap.size by omega) (HR1.out.later HB2.out HR1.out.lt))
  have HBA := hid (bt HB.out HYA.out)
  have y0 : A1.cell? ⟨w1.heap.size, 0, none⟩ = some (.int .i64 c) := HA.out.1.cell 0
  have HCK := hid hc
  clear b1 HC1 k0 k1 k2 k3 k4 HX1 HT1 HR1 HF HB2 HX HT HR hc
  by_cases hc0 : c = 0
  · subst hc0
    have hG := HG.out _ HCK.out
    obtain ⟨m0, m1, m2, m3, m4, m5, m6, m7, m8⟩ := HKT.out _ HTA.out
    go_wp2_with fail
    refine Calls.mono (HC2.out A1 HYA.out) ?_
    rintro e w2 ⟨rfl, b2⟩
    have HX2 := hid (HXA.out.later b2 HXA.out.lt)
    have HT2 := hid (HTA.out.later b2 HTA.out.lt)
    have HR2 := hid (HRA.out.later b2 HRA.out.lt)
    have HY2 := hid (bt HYA.out b2)
    have HB2 := hid (bt HBA.out b2)
    clear b2 m0 m1 m2 m3 m4 m5 m6 m7 m8 HXA HTA HRA HYA HBA HC2 q0 q1 r0 r1 v0 v1 y0 HA HCK HE1 hW2 hs1
    by_cases hk : t.chk = 0
    · rw [hk]
      obtain ⟨k0, k1, k2, k3, k4⟩ := HKP.out _ HX2.out
      obtain ⟨m0, m1, m2, m3, m4, m5, m6, m7, m8⟩ := HKT.out _ HT2.out
      go_wp2_with fail
      refine Calls.mono (HC3.out hG w2 HY2.out) ?_
      rintro e w3 ⟨bo, rfl, hbo, b3⟩
      have HX3 := hid (HX2.out.later b3 HX2.out.lt)
      have HT3 := hid (HT2.out.later b3 HT2.out.lt)
      have HR3 := hid (HR2.out.later b3 HR2.out.lt)
      have HY3 := hid (bt HY2.out b3)
      have HB3 := hid (bt HB2.out b3)
      have HBO := hid hbo
      clear hbo b3 k0 k1 k2 k3 k4 m0 m1 m2 m3 m4 m5 m6 m7 m8 HX2 HT2 HR2 HY2 HB2 HC3 HE2
      cases bo with
      | true =>
        have HE := hid (HE3.out hG hk (HBO.out.1 rfl))
        obtain ⟨⟨s0, s1, s2, s3, s4⟩, ⟨x0, x1, x2, x3, x4⟩, ⟨u0, u1, u2, u3, u4⟩⟩ := pzero5 HR3.out
        clear HX3 HT3 HC4 HC5 HKP HKT
        go_wp2_with fail
        exact bodyPost_ret (pres_run (by rfl) HR3.out _ rfl) rfl ⟨PL.zero, 5, rfl, HE.out, by rw [if_neg (by decide)]; exact Made.none HB3.out⟩
      | false =>
        have hnh : ¬ p.has t := fun h => by have := HBO.out.2 h; cases this
        obtain ⟨k0, k1, k2, k3, k4⟩ := HKP.out _ HX3.out
        by_cases hN : p.ts.length = 24
        · have hN' : (p.ts.length : Int) = 24 := by omega
          have HE := hid (HE4.out hG hk hnh hN)
          obtain ⟨⟨s0, s1, s2, s3, s4⟩, ⟨x0, x1, x2, x3, x4⟩, ⟨u0, u1, u2, u3, u4⟩⟩ := pzero5 HR3.out
          clear HX3 HT3 HC4 HC5 HKP HKT
          go_wp2_with fail
          exact bodyPost_ret (pres_run (by rfl) HR3.out _ rfl) rfl ⟨PL.zero, 3, rfl, HE.out, by rw [if_neg (by decide)]; exact Made.none HB3.out⟩
        · have hN' : ¬ (p.ts.length : Int) = 24 := by omega
          have HE := hid (HE5.out hG hk hnh hN)
          have HLT := hid hG.len
          go_wp2_with fail
          refine Calls.mono (HC4.out hG w3 HY3.out) ?_
          rintro e w4 ⟨q, rfl, hm⟩
          have HM := hid hm
          obtain ⟨W5, hW5⟩ : ∃ W5, w4.alloc (.cells #[.string ⟨#[]⟩, .bool false, .slice none 0 0, .slice none 0 0, .slice none 0 0] 27) = W5 := ⟨_, rfl⟩
          have HQ : Hid (Box W5 w4.heap.size 27 #[.string ⟨#[]⟩, .bool false, .slice none 0 0, .slice none 0 0, .slice none 0 0]) := by
            subst hW5
            exact Box.made w4 _ _
          have HB5 : Hid (Below w4.heap.size w4 W5) := by
            subst hW5
            exact alloc_later _ _
          have HT5 := hid (HT3.out.later (bt hm.bel HB5.out) HT3.out.lt)
          have HR5 := hid (HR3.out.later (bt hm.bel HB5.out) HR3.out.lt)
          have hlow : w.heap.size + 1 + 1 < w4.heap.size := by have h1 := HY3.out.size; have h2 := hm.bel.size; omega
          obtain ⟨A0, A1, A2, A3, A4, q0, q1, q2, q3, q4, ⟨r0, r1, r2, r3, r4⟩, ⟨f0, f1, f2, f3, f4⟩, HA⟩ := pchain5 HQ.out (.string q.s) (.bool q.n) (.slice q.a q.xs.length q.ca) (.slice q.b q.ys.length q.cb) (.slice q.t q.ts.length q.ct)
          have HI0 := hid (CpI.of_made hm HB3.out HB5.out HA.out (by omega))
          have HTA : Hid (Box A4 (w.heap.size + 1) 37 t.cells) := HA.out.2.1 _ _ _ (by omega) HT5.out
          have HRA : Hid (Box A4 (w.heap.size + 1 + 1) 27 #[.string ⟨#[]⟩, .bool false, .slice none 0 0, .slice none 0 0, .slice none 0 0]) := HA.out.2.1 _ _ _ (by omega) HR5.out
          have hYA : Below Y.heap.size Y A4 := HA.out.2.2.2.1 _ _ (by have h1 := HY3.out.size; have h2 := hm.bel.size; omega) (bt (bt HY3.out hm.bel) HB5.out)
          have HYA := hid hYA
          have HLQ : Hid (q.ts.length ≤ 24) := by
            have e := congrArg PV.ts hm.v
            have e2 := congrArg List.length e
            rw [show q.v.ts = q.ts.map TL.v from rfl, show p.v.ts = p.ts.map TL.v from rfl, List.length_map, List.length_map] at e2
            rw [e2]
            exact HLT.out
          have hrow : Hid (∀ g, (Value.slice q.t q.ts.length q.ct).ownBlock = some g → w.heap.size + 1 + 1 < g) := fun g hg => by have h1 := (hm.ow.row.lt g hg).1; have h2 := HY3.out.size; show _ < _; omega
          clear hm HC4 k0 k1 k2 k3 k4 HX3 HT3 HR3 HY3 HB3 HQ HB5 HT5 HR5 HA hYA
          go_wp2_with fail
          clear q0 q1 q2 q3 q4 r0 r1 r2 r3 r4 f0 f1 f2 f3 f4
          have HIA := hid (HI0.out.later (Below.refl _ A4).drew)
          have HXA : Hid (Box A4.drew (w.heap.size + 1) 37 t.cells) := HTA.out.drewN 1
          have HRB : Hid (Box A4.drew (w.heap.size + 1 + 1) 27 #[.string ⟨#[]⟩, .bool false, .slice none 0 0, .slice none 0 0, .slice none 0 0]) := HRA.out.drewN 1
          have HC5' := hid (HC5.out hk)
          have HYB : Hid (Below Y.heap.size Y A4.drew) := HYA.out.drew
          obtain ⟨m0, m1, m2, m3, m4, m5, m6, m7, m8⟩ := HKT.out _ HTA.out
          generalize w4.heap.size = B at *
          have z0 : A4.cell? ⟨B, 4, none⟩ = some (.slice q.t q.ts.length q.ct) := HI0.out.box.cell 4
          clear HI0 HTA HRA HYA HKT HKP HC5
          go_region_law (first
            | (go_simp; go_at_call 52; (with_reducible refine Calls.mono (HC5'.out _ HYB.out) ?_); rintro e w6 ⟨u, rfl, hu, ou, iu, b1⟩; have HU := hid hu; have HI1 := hid (HIA.out.call b1 ou iu); have HR1 := hid (HRB.out.later b1 HRB.out.lt); have z1 : w6.cell? ⟨B, 4, none⟩ = some (.slice q.t q.ts.length q.ct) := HI1.out.box.cell 4; have HI2 := hid (HI1.out.later (alloc_later w6 (.cells u.cells 37))); have z2 : (w6.alloc (.cells #[.string u.s, .int .i32 u.f, .int .i32 u.r, .bool u.n, .slice u.a u.xs.length u.ca, .slice u.b u.ys.length u.cb, .bool u.m, .slice u.c u.us.length u.cc, .slice u.d u.vs.length u.cd] 37)).cell? ⟨B, 4, none⟩ = some (.slice q.t q.ts.length q.ct) := HI2.out.box.cell 4; have HR2 := hid (HR1.out.later (alloc_later w6 (.cells u.cells 37)) HR1.out.lt); dsimp only)
            | (refine step_append_own_at rfl (.tmp 35) (.tmp 38) 25 rfl w.heap.size 37 i0 (.agg #[.string ⟨#[]⟩, .int .i32 0, .int .i32 0, .bool false, .slice none 0 0, .slice none 0 0, .bool false, .slice none 0 0, .slice none 0 0]) 9 136 Tryz.underlying25 hi0 hz0 hz1 hz2 rfl (by decide) (.slice q.t q.ts.length q.ct) q.ts.length (flatT q.ts) rfl HI2.out.row ⟨w6.heap.size, 0, none⟩ 1 1 u.cells.toList rfl rfl (qcells_new w6 _ _) u.one (by have := HLQ.out; unfold maxLen; omega) (by have := HLQ.out; omega) HI2.out.bel.size ?_; intro v1 y1 o1 g1 at1; obtain ⟨HB1, a', ct', rfl, Z, hZ, HZ⟩ := HI2.out.add o1 g1; have z3 : y1.cell? ⟨B, 4, none⟩ = some (.slice q.t q.ts.length q.ct) := HB1.out.cell 4; have z5 : y1.frozen? ⟨B, 4, none⟩ = false := HB1.out.free 4; have HR4 := hid (HZ.out.2 (w.heap.size + 1 + 1) _ _ (by omega) HR2.out (.inl (by decide)))))
          all_goals
            have hl2 : (q.ts ++ [u]).length = q.ts.length + 1 := by simp
            have hk0 : Z.cell? ⟨B, 0, none⟩ = some (.string q.s) := HZ.out.1.box.cell 0
            have hk1 : Z.cell? ⟨B, 1, none⟩ = some (.bool q.n) := HZ.out.1.box.cell 1
            have hk2 : Z.cell? ⟨B, 2, none⟩ = some (.slice q.a q.xs.length q.ca) := HZ.out.1.box.cell 2
            have hk3 : Z.cell? ⟨B, 3, none⟩ = some (.slice q.b q.ys.length q.cb) := HZ.out.1.box.cell 3
            have hk4 : Z.cell? ⟨B, 4, none⟩ = some (.slice a' (q.ts ++ [u]).length ct') := HZ.out.1.box.cell 4
            rw [hl2] at hk4
            obtain ⟨A0, A1, A2, A3, A4, q0, q1, q2, q3, q4, ⟨r0, r1, r2, r3, r4⟩, ⟨f0, f1, f2, f3, f4⟩, HA⟩ := pchain5 HR4.out (.string q.s) (.bool q.n) (.slice q.a q.xs.length q.ca) (.slice q.b q.ys.length q.cb) (.slice a' (q.ts.length + 1) ct')
            have HD : Hid (Made ⟨q.s, q.n, q.a, q.ca, q.xs, q.b, q.cb, q.ys, a', ct', q.ts ++ [u]⟩ (p.v.more t.v) w A4) := by
              have e : p.v.more t.v = ⟨q.v.s, q.v.n, q.v.xs, q.v.ys, (q.ts ++ [u]).map TL.v⟩ := by
                rw [← HM.out.v, ← HU.out]
                show PV.mk _ _ _ _ _ = _
                rw [List.map_append]
                rfl
              rw [e]
              exact CpI.done (HZ.out.1.re _) rfl (by omega) HA.out.2.2.1 HA.out.2.2.2.1 HA.out.2.2.2.2
            have HE' := hid HA.out.1
            clear z0 z1 z2 z3 z5 m0 m1 m2 m3 m4 m5 m6 m7 m8 HA HZ HR4 HR2 HI2 HI1 HIA hl2
            go_wp2_with fail
            refine bodyPost_ret (pres_run (by rfl) HE'.out _ rfl) rfl ⟨⟨q.s, q.n, q.a, q.ca, q.xs, q.b, q.cb, q.ys, a', ct', q.ts ++ [u]⟩, 0, ?_, HE.out, by rw [if_pos rfl]; exact HD.out⟩
            unfold PL.cells
            rw [show (q.ts ++ [u]).length = q.ts.length + 1 by simp]
            rfl
    · have h0' : (t.chk == 0) = false := by simp [hk]
      have h0'' : (t.chk != 0) = true := by simp [hk]
      have HE := hid (HE2.out hG hk)
      have HKN := hid hk
      obtain ⟨⟨s0, s1, s2, s3, s4⟩, ⟨x0, x1, x2, x3, x4⟩, ⟨u0, u1, u2, u3, u4⟩⟩ := pzero5 HR2.out
      clear HX2 HT2 HC3 HC4 HC5 HKP HKT HE3 HE4 HE5 hk
      go_wp2_with fail
      exact bodyPost_ret (pres_run (by rfl) HR2.out _ rfl) rfl ⟨PL.zero, t.chk, rfl, HE.out, by rw [if_neg HKN.out]; exact Made.none HB2.out⟩
  · have h0' : (c == 0) = false := by simp [hc0]
    have h0'' : (c != 0) = true := by simp [hc0]
    have HE := hid (HE1.out c z HCK.out hc0)
    obtain ⟨⟨s0, s1, s2, s3, s4⟩, ⟨x0, x1, x2, x3, x4⟩, ⟨u0, u1, u2, u3, u4⟩⟩ := pzero5 HRA.out
    clear HC2 HC3 HC4 HC5 HG HE1 HE2 HE3 HE4 HE5 HKP HKT HXA HTA HYA
    go_wp2_with fail
    go_region_held3 (fun V : World => V.cell? ⟨w1.heap.size, 0, none⟩ = some (.int .i64 c)) (first | exact y0 | go_keep) (fail)
    all_goals
      have HCN := hid hc0
      clear hc0
      go_wp2_with fail
      exact bodyPost_ret (pres_run (by rfl) (HRA.out.drewN 1) _ rfl) rfl ⟨PL.zero, c, rfl, HE.out, by rw [if_neg HCN.out]; exact Made.none HBA.out.drew⟩
end Go.Proofs.YtnfemheabikolaaGreatDoor

