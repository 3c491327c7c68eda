/- nat.Print tells the decimal digits of a number's value, or its error: of every list that can be read, where the library's table of powers of ten stands as its text lays it. -/
import Derived.Test.YtbcangblmadnpacDoorFormat
import Derived.Test.YtbcangblmadnpacDoorSplit
namespace Go.Proofs.YtbcangblmadnpacDoor
open Go.RowKit Go.Lib
set_option linter.unusedVariables false

/-- Nine digits, noughts ahead. -/
def pad : Nat → Nat → List UInt8
  | 0, _ => []
  | k + 1, p => pad k (p / 10) ++ [UInt8.ofNat (48 + p % 10)]
theorem digits_pad (hi : Nat) (h : 1 ≤ hi) : ∀ (k p : Nat), p < 10 ^ k → decDigits (hi * 10 ^ k + p) = decDigits hi ++ pad k p
  | 0, p, hp => by
    have : p = 0 := by simpa using hp
    subst this; simp [pad]
  | k + 1, p, hp => by
    have hk : 1 ≤ 10 ^ k := Nat.one_le_pow _ _ (by decide)
    have e1 : hi * 10 ^ (k + 1) = hi * 10 ^ k * 10 := by rw [Nat.pow_succ, Nat.mul_assoc]
    have h2 : hi ≤ hi * 10 ^ k := Nat.le_mul_of_pos_right hi hk
    have hge : ¬ hi * 10 ^ (k + 1) + p < 10 := by omega
    rw [decDigits, dif_neg hge]
    have e2 : (hi * 10 ^ (k + 1) + p) / 10 = hi * 10 ^ k + p / 10 := by omega
    have e3 : (hi * 10 ^ (k + 1) + p) % 10 = p % 10 := by omega
    rw [e2, e3, digits_pad hi h k (p / 10) (by rw [Nat.pow_succ] at hp; omega), pad, List.append_assoc]
theorem pad_eq : ∀ (k p : Nat), p < 10 ^ (k + 1) → pad (k + 1) p = List.replicate (k + 1 - nDigits p) 48 ++ decDigits p ∧ nDigits p ≤ k + 1
  | 0, p, hp => by
    have h10 : p < 10 := by simpa using hp
    rw [nDigits_small h10, decDigits_one h10]
    refine ⟨?_, Nat.le_refl _⟩
    simp [pad]
    congr 1
    omega
  | k + 1, p, hp => by
    by_cases h10 : p < 10
    · have ih := pad_eq k (p / 10) (by rw [Nat.pow_succ] at hp; omega)
      have e0 : p / 10 = 0 := by omega
      rw [e0, nDigits_small (by omega), decDigits_one (by omega)] at ih
      rw [nDigits_small h10, decDigits_one h10]
      refine ⟨?_, by omega⟩
      show pad (k + 1) (p / 10) ++ _ = _
      rw [e0, ih.1]
      have e1 : k + 1 + 1 - 1 = (k + 1 - 1) + 1 := by omega
      rw [e1, List.replicate_succ', show p % 10 = p by omega]
      rfl
    · have ih := pad_eq k (p / 10) (by rw [Nat.pow_succ] at hp; omega)
      rw [nDigits_big h10]
      refine ⟨?_, by omega⟩
      show pad (k + 1) (p / 10) ++ _ = _
      rw [ih.1, decDigits.eq_def p, dif_neg h10, List.append_assoc]
      congr 2
      omega

theorem repeat_noughts : ∀ c, repeatL [48] c = List.replicate c 48
  | 0 => rfl
  | c + 1 => by show [48] ++ repeatL [48] c = _; rw [repeat_noughts c]; rfl

/-- The digits of the pieces from place k on. -/
theorem piece_step (ps : List Int) (hp : Pc ps) (k : Nat) (hk : k + 1 < ps.length) (htop : 0 < ps[ps.length - 1]?.getD 0) :
    decDigits (pval (ps.drop k)).toNat = decDigits (pval (ps.drop (k + 1))).toNat ++ (List.replicate (9 - nDigits (ps[k]?.getD 0).toNat) 48 ++ decDigits (ps[k]?.getD 0).toNat) ∧ nDigits (ps[k]?.getD 0).toNat ≤ 9 := by
  have hb := hp.at k
  have e1 : ps.drop k = ps[k]?.getD 0 :: ps.drop (k + 1) := by
    rw [List.drop_eq_getElem_cons (by omega), List.getElem?_eq_getElem (by omega)]; rfl
  have hpc : Pc (ps.drop (k + 1)) := fun q hq => hp q (List.mem_of_mem_drop hq)
  have hpos : 1 ≤ pval (ps.drop (k + 1)) := by
    have main : ∀ l : List Int, Pc l → 0 < l.length → 0 < l[l.length - 1]?.getD 0 → 1 ≤ pval l := by
      intro l
      induction l with
      | nil => intro _ h; simp at h
      | cons q l ih =>
        intro hc _ ht
        have hq := hc q List.mem_cons_self
        show 1 ≤ q + pval l * 1000000000
        rcases l with _ | ⟨q2, l⟩
        · simp at ht; simp [pval]; omega
        · have := ih (fun x hx => hc x (List.mem_cons_of_mem _ hx)) (by simp) (by simpa using ht)
          omega
    refine main _ hpc (by rw [List.length_drop]; omega) ?_
    rw [List.getElem?_drop, List.length_drop, show k + 1 + (ps.length - (k + 1) - 1) = ps.length - 1 by omega]
    exact htop
  have e2 : (pval (ps.drop k)).toNat = (pval (ps.drop (k + 1))).toNat * 10 ^ 9 + (ps[k]?.getD 0).toNat := by
    rw [e1]
    show (ps[k]?.getD 0 + pval (ps.drop (k + 1)) * 1000000000).toNat = _
    omega
  have pe := pad_eq 8 (ps[k]?.getD 0).toNat (by omega)
  rw [e2, digits_pad _ (by omega) 9 _ (by omega), pe.1]
  exact ⟨rfl, pe.2⟩

theorem builder_later {T e B b : Nat} {bs : List Value} {w w' : World} (h : IsBuilder T e B b bs w) (hb : Below w.heap.size w w') : IsBuilder T e B b bs w' := by
  have main : ∀ p, BuilderAt T e B b p bs w → BuilderAt T e B b p bs w' := by
    intro p h
    have hlt := h.lt
    obtain ⟨hB, v, hbk, hown, hne⟩ := h
    exact ⟨hB, v, (hb.block b hlt).trans hbk, owns_later hown hb, hne⟩
  exact h.imp (main _) (main _)
theorem builder_lt {T e B b : Nat} {bs : List Value} {w : World} (h : IsBuilder T e B b bs w) : b < w.heap.size := by
  rcases h with h | h
  · exact h.lt
  · exact h.lt

theorem ret_text {a b : ByteArray} {c d : Int} (h : a = b) (g : c = d) : Ending.returned (.tuple #[.string a, .int .i64 c]) = .returned (.tuple #[.string b, .int .i64 d]) := by rw [h, g]

set_option maxHeartbeats 6400000 in
set_option maxRecDepth 100000 in
theorem print_any (v : Value) (xs : List Int) (w : World) (h : Sl w v xs) (hn : xs.length ≤ 281474976710656) (htab : Tab w) :
    Calls Tryd.prog 23 #[v] w fun e w' => e = .returned (.tuple #[.string (if chk xs = 0 then ⟨(decDigits (val xs).toNat).toArray⟩ else ⟨#[]⟩), .int .i64 (chk xs)]) ∧ Below w.heap.size w w' := by
  by_cases hc : chk xs = 0
  · have HC := hid (check_sl v xs w h hn)
    rw [hc] at HC ⊢
    rw [if_pos rfl]
    have l1 := (chk_ok hc).1
    have t1 := (chk_ok hc).2
    have wx := h.wd
    clear hc
    by_cases h0 : xs.length = 0
    · have hx : xs = [] := List.eq_nil_of_length_eq_zero h0
      have HF : Hid ((⟨(decDigits (val xs).toNat).toArray⟩ : ByteArray) = ⟨#[48]⟩) := by
        show _ = _
        rw [hx, val_nil, show Int.toNat 0 = 0 from rfl, decDigits_one (by decide)]
        rfl
      obtain ⟨a, cap, rfl, hr⟩ := h
      have hz : ((xs.length : Int) == 0) = true := by simp [hx]
      clear hx h0 hr t1
      go_enter Tryd.func23, Tryd.ntmps23
      go_wp2_with fail
      refine Calls.mono HC.out ?_
      rintro e w' ⟨rfl, rfl⟩
      go_wp2_with fail
      go_ret2
      exact ⟨ret_text HF.out.symm rfl, Below.refl _ _⟩
    · have hz : ((xs.length : Int) == 0) = false := by simp; exact fun e => h0 (by simp [e])
      have HS := hid (split_any v xs w h l1 t1 (by omega))
      have HT := hid htab
      obtain ⟨a, cap, rfl, hr⟩ := h
      clear hr t1 h0 htab
      go_enter Tryd.func23, Tryd.ntmps23
      go_wp2_with fail
      refine Calls.mono HC.out ?_
      rintro e w' ⟨rfl, rfl⟩
      go_wp2_with fail
      refine Calls.mono HS.out ?_
      rintro e w1 ⟨vp, ps, rfl, op, hpc, hpv, hp0, hp1, htop, hb1⟩
      obtain ⟨gp, cp, hvp, hcp1, hcp2⟩ := own_shape' op hp0
      rw [hvp] at op ⊢
      have hgp := op.lt gp rfl
      have hcell : ∀ j, j < ps.length → w1.cell? ⟨gp, j, none⟩ = some (.int .u32 (ps[j]?.getD 0)) := fun j hj => by
        rw [op.cellAt j (by omega), List.getElem?_map, List.getElem?_eq_getElem hj]; rfl
      have HCE := hid hcell
      have HPV := hid hpv
      have HTP := hid htop
      obtain ⟨K, hK⟩ : ∃ K, K = ps.length := ⟨_, rfl⟩
      have HK := hid hK
      rw [← hK] at hp0 hp1 hcp1 ⊢
      have hs1 := hb1.size
      have hcp3 : cp ≤ 9223372036854775807 := by unfold maxLen at hcp2; omega
      obtain ⟨b, hb⟩ : ∃ b, b = w1.heap.size := ⟨_, rfl⟩
      have HBB : Hid (IsBuilder 71 5 b b (byteCells []) (w1.alloc (.cells #[.pointer none, .slice none 0 0] 71))) := by
        left
        exact ⟨Nat.le_refl _, .slice none 0 0, by rw [hb]; exact heap_alloc_new w1 _, World.ownsRow_nil _ _ _ _, by simp [Value.ownBlock]⟩
      have hbA : Below w.heap.size w (w1.alloc (.cells #[.pointer none, .slice none 0 0] 71)) := hb1.alloc hs1 _
      have hbB : Below b w1 (w1.alloc (.cells #[.pointer none, .slice none 0 0] 71)) := (Below.refl _ _).alloc (by omega) _
      have hgpb : gp < b := by omega
      have hwb : w.heap.size ≤ b := by omega
      clear op hcell hpv htop hK hcp2 hvp hs1 HS HC
      go_wp2_with fail
      rw [← hb]
      clear hb
      go_loopw [7] (fun t wr => ∃ (k : Nat) (txt : List UInt8), k ≤ K ∧ t = .int .i64 ((k : Int) - 1) ∧ Hid (k < K → txt = decDigits (pval (ps.drop k)).toNat) ∧ Hid (k = K → txt = []) ∧ txt.length ≤ 9 * (K - k) ∧
        IsBuilder 71 5 b b (byteCells txt) wr ∧ Below w.heap.size w wr ∧ Below b w1 wr) (fun t _ => (RowKit.intOf t + 1).toNat)
      case atStart => exact ⟨K, [], Nat.le_refl _, rfl, fun e => by omega, fun _ => rfl, by simp, HBB.out, hbA, hbB⟩
      case round =>
        obtain ⟨k, txt, hk, rfl, HX, HY, hlen, hbu, hb2, hb3⟩ := hrel
        have hblt := builder_lt hbu
        rcases k with _ | k
        · have HX' : Hid (txt = decDigits (val xs).toNat) := by
            show _ = _
            rw [HX.out hp0, List.drop_zero, HPV.out]
          clear HX HY
          go_wp2_with fail
          refine (Tryd.Builder_String_any b b txt wr hbu (by omega)).mono ?_
          rintro e w3 ⟨rfl, hb4⟩
          have hbF : Below w.heap.size w w3 := hb2.trans (hb4.mono hwb)
          go_wp2_with fail
          go_ret2
          exact ⟨ret_text (by rw [HX'.out]) rfl, hbF⟩
        · have ek : (((k + 1 : Nat) : Int) - 1) = (k : Int) := by omega
          rw [ek]
          clear ek
          have bp := hpc.at k
          have x1 : wr.cell? ⟨gp, k, none⟩ = some (.int .u32 (ps[k]?.getD 0)) := (hb3.cell (p := ⟨gp, k, none⟩) hgpb).trans (HCE.out k (by have := HK.out; omega))
          obtain ⟨p, hp⟩ : ∃ p : Nat, (p : Int) = ps[k]?.getD 0 := ⟨(ps[k]?.getD 0).toNat, by omega⟩
          rw [← hp] at x1 bp
          have hp9 : p < 1000000000 := by omega
          have HP := hid hp
          have htw := HT.out.later hb2
          clear hp bp
          go_wp2_with fail
          refine (format_any p (by omega) wr htw).mono ?_
          rintro e w4 ⟨rfl, hb4⟩
          have hnd : nDigits p ≤ 9 := (pad_eq 8 p (by omega)).2
          obtain ⟨S, hS⟩ : ∃ S : ByteArray, S = ⟨(decDigits p).toArray⟩ := ⟨_, rfl⟩
          have hSs : S.size = nDigits p := by rw [hS, ← decDigits_length]; exact List.size_toArray
          rw [← hS]
          have hSn : S.size ≤ 9 := by omega
          have HSE := hid hS
          have HSS := hid hSs
          have hbu4 := builder_later hbu hb4
          have hs4 := hb4.size
          have hb24 : Below w.heap.size w w4 := bt hb2 hb4
          have hb34 : Below b w1 w4 := hb3.trans (hb4.mono (by omega))
          clear hS hSs hbu hb4 htw x1 hb2 hb3
          by_cases hlast : k + 1 < K
          · have hli : (k : Int) < (K : Int) - 1 := by omega
            go_wp2_with fail
            rw [show (9 : Int) - (S.size : Int) = ((9 - S.size : Nat) : Int) by omega]
            refine (Tryd.strings_Repeat ⟨#[48]⟩ (9 - S.size) w4 (by omega) (by show 1 * _ ≤ _; omega)).mono ?_
            rintro e w5 ⟨rfl, hb5⟩
            have hbu5 := builder_later hbu4 hb5
            have hs5 := hb5.size
            obtain ⟨Z, hZ⟩ : ∃ Z : ByteArray, Z = ⟨(repeatL [48] (9 - S.size)).toArray⟩ := ⟨_, rfl⟩
            have hZs : Z.size = 9 - S.size := by rw [hZ]; show (repeatL [48] (9 - S.size)).toArray.size = _; rw [List.size_toArray, repeatL_length]; simp
            have hZ' : Z = ⟨(repeatL (ByteArray.mk #[48]).data.toList (9 - S.size)).toArray⟩ := hZ
            rw [← hZ']
            have HZE := hid hZ
            have hb25 : Below w.heap.size w w5 := bt hb24 hb5
            have hb35 : Below b w1 w5 := hb34.trans (hb5.mono (by omega))
            have HZS := hid hZs
            have hz9 : Z.size ≤ 9 := by omega
            clear hZ hZ' hZs hbu4 hb5 hb24 hb34
            go_wp2_with fail
            refine (Tryd.Builder_WriteString b b (byteCells txt) Z w5 hbu5 (by rw [byteCells_length]; omega) (by omega)).mono ?_
            rintro e w6 ⟨rfl, hbu6, hb6⟩
            have hs6 := hb6.size
            have hb26 : Below w.heap.size w w6 := hb25.trans (hb6.mono hwb)
            have hb36 : Below b w1 w6 := hb35.trans hb6
            rw [strCells_eq, ← byteCells_append] at hbu6
            clear hbu5 hb6 hb25 hb35
            go_wp2_with fail
            refine (Tryd.Builder_WriteString b b (byteCells (txt ++ Z.data.toList)) S w6 (.inr hbu6) (by have e1 : Z.data.toList.length = Z.size := Array.length_toList; rw [byteCells_length, List.length_append]; omega) (by omega)).mono ?_
            rintro e w7 ⟨rfl, hbu7, hb7⟩
            have hb27 : Below w.heap.size w w7 := hb26.trans (hb7.mono hwb)
            have hb37 : Below b w1 w7 := hb36.trans hb7
            rw [strCells_eq, ← byteCells_append] at hbu7
            have HB7 := hid (show IsBuilder 71 5 b b (byteCells (txt ++ Z.data.toList ++ S.data.toList)) w7 from .inr hbu7)
            have HTX : Hid (txt ++ Z.data.toList ++ S.data.toList = decDigits (pval (ps.drop k)).toNat) := by
              show _ = _
              have st := piece_step ps hpc k (by have := HK.out; omega) HTP.out
              have ep : (ps[k]?.getD 0).toNat = p := by have := HP.out; omega
              rw [ep] at st
              rw [st.1, HX.out hlast, HZE.out, HSS.out, HSE.out, repeat_noughts, List.append_assoc]
            have HLN : Hid ((txt ++ Z.data.toList ++ S.data.toList).length ≤ 9 * (K - k)) := by
              show _ ≤ _
              have e1 : Z.data.toList.length = Z.size := Array.length_toList
              have e2 : S.data.toList.length = S.size := Array.length_toList
              have := HZS.out
              rw [List.length_append, List.length_append]
              omega
            clear hbu6 hbu7 hb7 hb26 hb36 HX HY
            go_wp2_with fail
            go_roundw
            case rel => exact ⟨k, _, by omega, rfl, fun _ => HTX.out, fun e => by omega, HLN.out, HB7.out, hb27, hb37⟩
            case measure => simp [RowKit.intOf]
          · have hkK : k + 1 = K := by omega
            have hli : ¬ (k : Int) < (K : Int) - 1 := by omega
            have htx : txt = [] := HY.out hkK
            go_wp2_with fail
            refine (Tryd.Builder_WriteString b b (byteCells txt) S w4 hbu4 (by rw [byteCells_length]; omega) (by omega)).mono ?_
            rintro e w5 ⟨rfl, hbu5, hb5⟩
            rw [strCells_eq, ← byteCells_append] at hbu5
            have hb25 : Below w.heap.size w w5 := hb24.trans (hb5.mono hwb)
            have hb35 : Below b w1 w5 := hb34.trans hb5
            have HB5 := hid (show IsBuilder 71 5 b b (byteCells (txt ++ S.data.toList)) w5 from .inr hbu5)
            have HTX : Hid (txt ++ S.data.toList = decDigits (pval (ps.drop k)).toNat) := by
              show _ = _
              have ed : ps.drop k = [ps[k]?.getD 0] := by
                rw [List.drop_eq_getElem_cons (by have := HK.out; omega), List.getElem?_eq_getElem (by have := HK.out; omega), List.drop_eq_nil_of_le (by have := HK.out; omega)]; rfl
              have ep : (ps[k]?.getD 0).toNat = p := by have := HP.out; omega
              rw [htx, ed, HSE.out]
              simp [pval, ep]
            have HLN : Hid ((txt ++ S.data.toList).length ≤ 9 * (K - k)) := by
              show _ ≤ _
              have e2 : S.data.toList.length = S.size := Array.length_toList
              rw [List.length_append, htx]
              simp
              omega
            clear hbu4 hbu5 hb5 hb24 hb34 HX HY htx
            go_wp2_with fail
            go_roundw
            case rel => exact ⟨k, _, by omega, rfl, fun _ => HTX.out, fun e => by omega, HLN.out, HB5.out, hb25, hb35⟩
            case measure => simp [RowKit.intOf]
  · have hne : (chk xs != 0) = true := by simp [hc]
    rw [if_neg hc]
    clear hc
    go_enter Tryd.func23, Tryd.ntmps23
    go_wp2_with fail
    refine (check_sl v xs w h hn).mono ?_
    rintro e w' ⟨rfl, rfl⟩
    go_wp2
    go_ret2
    exact ⟨rfl, Below.refl _ _⟩
end Go.Proofs.YtbcangblmadnpacDoor
