/- nat.join, nat.Parse: the number of digits, piece by piece, in new memory; every text read, or its error. -/
import Derived.Test.YtbcangblmadnpacDoorParse2
namespace Go.Proofs.YtbcangblmadnpacDoor
open Go.RowKit
set_option linter.unusedVariables false

theorem list_size (s : ByteArray) {l : List UInt8} (h : s.data.toList = l) : s.size = l.length := by rw [← h]; exact (size_list s).symm

theorem extract_list (s : ByteArray) (i j : Nat) : (s.extract i j).data.toList = (s.data.toList.drop i).take (j - i) := by
  rw [ByteArray.data_extract, Array.toList_extract, List.extract_eq_take_drop]
theorem numTo_take (l : List UInt8) (n : Nat) : numTo (l.take n) n = numTo l n :=
  numTo_congr _ _ _ (fun j hj => by rw [List.getElem?_take, if_pos hj])
theorem numTo_piece (l : List UInt8) (m n k : Nat) (t : Int) (ht : t = numTo l m) (h : m = 0 ∨ k % 9 = 0) (hn : n = (k - 1) % 9 + 1) (hk : 0 < k) : t * 1000000000 + numTo (l.drop m) n = numTo l (m + n) := by
  rw [numTo_add, ht]
  rcases h with h | h
  · rw [h]; simp [numTo]
  · have : n = 9 := by omega
    rw [this]; rfl

set_option maxHeartbeats 3200000 in
set_option maxRecDepth 100000 in
theorem join_any (s : ByteArray) (w : World) (hs : s.size ≤ 65536) (hd : Dg s.data.toList) :
    Calls Tryd.prog 54 #[.string s] w fun e w' => ∃ (v : Value) (zs : List Int), e = .returned v ∧ w'.ownsRow w.heap.size 40 1 v zs.length (zs.map (Value.int .u32)) ∧ Wd zs ∧ zs.length ≤ s.size ∧ val zs = numTo s.data.toList s.size ∧ Below w.heap.size w w' := by
  have HD := hid hd
  have HL := hid (size_list s)
  clear hd
  go_enter Tryd.func54, Tryd.ntmps54
  go_wp2_with fail
  go_loopg [0, 3] s.size (fun k t v wr => ∃ (m : Nat) (s' : ByteArray) (ys : List Int), t = .string s' ∧ m + k = s.size ∧ s'.size = k ∧ Hid (s'.data.toList = s.data.toList.drop m) ∧ wr.ownsRow w.heap.size 40 1 v ys.length (ys.map (Value.int .u32)) ∧ Wd ys ∧ ys.length ≤ m ∧
    Hid (val ys = numTo s.data.toList m) ∧ Hid (m = 0 ∨ k % 9 = 0) ∧ Below w.heap.size w wr)
  case atStart => exact ⟨0, s, [], rfl, by omega, rfl, show _ = _ by simp, World.ownsRow_nil _ _ _ _, Wd.nil, by simp, show _ = _ by simp [val, valTo, numTo], .inl rfl, Below.refl _ _⟩
  case round =>
    obtain ⟨m, s', ys, rfl, hmk, hsz, HS, hop, hwy, hly, HV, HN, hb⟩ := hrel
    by_cases h0 : s'.size = 0
    · have hse : s' = ⟨#[]⟩ := by
        obtain ⟨d⟩ := s'
        have : d = #[] := Array.eq_empty_of_size_eq_zero h0
        rw [this]
      subst hse
      have hm : m = s.size := by omega
      have HV' : Hid (val ys = numTo s.data.toList s.size) := by show _ = _; rw [HV.out, hm]
      have HO := hid hop
      clear hop HS h0
      go_wp2_with fail
      go_ret
      exact ⟨_, ys, rfl, HO.out, hwy, by omega, HV'.out, hb⟩
    · have hp : 0 < s'.size := by omega
      have hem : s'.toList.isEmpty = false := by
        rw [ByteArray.toList_eq]
        have hl := size_list s'
        cases hx : s'.data.toList with
        | nil => rw [hx] at hl; simp at hl; omega
        | cons _ _ => rfl
      have hen : ¬ s'.toList = [] := fun e => by rw [e] at hem; simp at hem
      have hl1 : (s'.extract 0 ((gk - 1) % 9 + 1)).data.toList = (s.data.toList.drop m).take ((gk - 1) % 9 + 1) := by rw [extract_list, HS.out]; simp
      have hl2 : (s'.extract ((gk - 1) % 9 + 1) gk).data.toList = s.data.toList.drop (m + ((gk - 1) % 9 + 1)) := by
        rw [extract_list, HS.out, List.drop_drop, List.take_of_length_le (by rw [List.length_drop, HL.out]; omega)]
      have z1 : (s'.extract 0 ((gk - 1) % 9 + 1)).size = (gk - 1) % 9 + 1 := by
        rw [list_size _ hl1, List.length_take, List.length_drop, HL.out]; omega
      have z2 : (s'.extract ((gk - 1) % 9 + 1) gk).size = gk - ((gk - 1) % 9 + 1) := by
        rw [list_size _ hl2, List.length_drop, HL.out]; omega
      have hdg : Dg (s'.extract 0 ((gk - 1) % 9 + 1)).data.toList := by rw [hl1]; exact (HD.out.drop _).take _
      have hnum : numTo (s'.extract 0 ((gk - 1) % 9 + 1)).data.toList (s'.extract 0 ((gk - 1) % 9 + 1)).size = numTo (s.data.toList.drop m) ((gk - 1) % 9 + 1) := by
        rw [z1, hl1, numTo_take]
      have hpc := numTo_piece s.data.toList m ((gk - 1) % 9 + 1) gk _ HV.out HN.out rfl (by omega)
      have hbd := numTo_bounds (HD.out.drop m) ((gk - 1) % 9 + 1)
      have hp9 : (10 : Int) ^ ((gk - 1) % 9 + 1) ≤ 10 ^ 9 := by
        have h9 : (gk - 1) % 9 + 1 ≤ 9 := by omega
        generalize (gk - 1) % 9 + 1 = q at h9
        obtain ⟨d, hd⟩ : ∃ d, 9 = q + d := ⟨9 - q, by omega⟩
        rw [hd, Int.pow_add]
        have h1 : (0 : Int) < 10 ^ q := Int.pow_pos (by decide)
        have h2 : (0 : Int) < 10 ^ d := Int.pow_pos (by decide)
        have h3 : (10 : Int) ^ q * 1 ≤ 10 ^ q * 10 ^ d := Int.mul_le_mul_of_nonneg_left (by omega) (by omega)
        omega
      have HW := hid (wordOf_any (s'.extract 0 ((gk - 1) % 9 + 1)) wr (by rw [z1]; omega) hdg)
      rw [hnum] at HW
      obtain ⟨x, hx⟩ : ∃ x, x = numTo (s.data.toList.drop m) ((gk - 1) % 9 + 1) := ⟨_, rfl⟩
      rw [← hx] at HW hpc hbd
      have hx0 := hbd.1
      have hx1 : x ≤ 4294967295 := by have := hbd.2; omega
      have hbs := hb.size
      have HT := hid (timesPiece_any w.heap.size _ u3 ys x wr hop hwy (by omega) ⟨hx0, hx1⟩ hbs)
      have HPC := hid hpc
      have HL2 := hid hl2
      have HN' : Hid (m + ((gk - 1) % 9 + 1) = 0 ∨ (gk - ((gk - 1) % 9 + 1)) % 9 = 0) := by right; omega
      clear hop hx hl1 hl2 z1 hdg hnum hpc hbd hp9 HV HN HS
      go_wp2_with fail
      refine Calls.mono HW.out ?_
      rintro e w1 ⟨rfl, rfl⟩
      go_wp2_with fail
      refine Calls.mono HT.out ?_
      rintro e w2 ⟨v2, zs, rfl, ho2, hwz, hlz, hvz, hb2⟩
      have HO2 := hid ho2
      have HV2 : Hid (val zs = numTo s.data.toList (m + ((gk - 1) % 9 + 1))) := by show _ = _; rw [hvz]; exact HPC.out
      clear ho2 hvz HT HW HPC
      go_wp2_with fail
      go_roundg (gk - ((gk - 1) % 9 + 1))
      case measure => omega
      case rel => exact ⟨m + ((gk - 1) % 9 + 1), _, zs, rfl, by omega, z2, HL2, HO2.out, hwz, by omega, HV2, HN', hb.trans hb2⟩

set_option maxHeartbeats 800000 in
set_option maxRecDepth 100000 in
theorem told_own (base n : Nat) (v : Value) (ys : List Int) (w : World) (ho : w.ownsRow base 40 1 v n (ys.map (Value.int .u32))) (hw : Wd ys) (hN : n ≤ 1099511627776) :
    Calls Tryd.prog 53 #[v] w fun e w' => ∃ v zs code, e = .returned (.tuple #[v, .int .i64 code]) ∧ w.ownsRow base 40 1 v zs.length (zs.map (Value.int .u32)) ∧ Tells 0 (val ys) zs code ∧ w = w' := by
  have hlen : ys.length = n := by have := ho.1; simpa using this
  have sx := sz_le ys
  rw [hlen] at sx
  have HT := hid (Tells.told hw)
  rcases ho.2 with ⟨rfl, rfl⟩ | ⟨g, cap, cur, rfl, hrest⟩
  · have hy : ys = [] := List.eq_nil_of_length_eq_zero hlen
    subst hy
    rw [if_neg (by simp [sz, szTo]), if_neg (by simp [sz, szTo])] at HT
    have HZ := hid (size_any none 0 0 [] w.heap.size w (by obtain ⟨a, cap, hv, hr⟩ := Reads.own ho hw; simp only [Value.slice.injEq] at hv; obtain ⟨rfl, _, rfl⟩ := hv; exact hr) (by omega))
    clear ho
    go_enter Tryd.func53, Tryd.ntmps53
    go_wp2_with fail
    refine Calls.mono HZ.out ?_
    rintro e w' ⟨rfl, rfl⟩
    rw [show sz [] = 0 from rfl]
    go_wp2
    go_ret2
    exact ⟨_, [], _, rfl, World.ownsRow_nil _ _ _ _, HT.out, rfl⟩
  · have ho' : OwnC w base g n cap ys := ho
    have hcap := ho'.cap
    have hcp1 := hcap.1
    have hcp2 : cap ≤ 9223372036854775807 := by have := hcap.2; unfold maxLen at this; omega
    have hr : Reads w w.heap.size (some ⟨g, 0, none⟩) n cap ys := by
      obtain ⟨a, cap, hv, hr⟩ := Reads.own ho' hw
      simp only [Value.slice.injEq] at hv
      obtain ⟨rfl, _, rfl⟩ := hv
      exact hr
    by_cases hs : 8192 < sz ys
    · rw [if_pos hs, if_pos hs] at HT
      have hsi : (8192 : Int) < (sz ys : Int) := by omega
      clear hlen hrest hcap
      go_enter Tryd.func53, Tryd.ntmps53
      go_wp2_with fail
      refine (size_any _ _ _ ys _ _ hr (by omega)).mono ?_
      rintro e w' ⟨rfl, rfl⟩
      go_wp2
      go_ret2
      exact ⟨_, [], _, rfl, World.ownsRow_nil _ _ _ _, HT.out, rfl⟩
    · rw [if_neg hs, if_neg hs] at HT
      have hsi : (sz ys : Int) ≤ 8192 := by omega
      have HO := hid (owns_len (ho'.take (sz ys) sx))
      clear hlen hrest hcap
      go_enter Tryd.func53, Tryd.ntmps53
      go_wp2_with fail
      refine (size_any _ _ _ ys _ _ hr (by omega)).mono ?_
      rintro e w' ⟨rfl, rfl⟩
      go_wp2
      go_ret2
      exact ⟨_, _, _, rfl, HO.out, HT.out, rfl⟩

open Classical in
/-- Parse's error, of a text. -/
noncomputable def pErr (s : ByteArray) : Int := if 65536 < s.size then 3 else if IsNum s.data.toList then 0 else 110

open Classical in
set_option maxHeartbeats 1600000 in
set_option maxRecDepth 100000 in
theorem parse_any (s : ByteArray) (w : World) (hs : s.size ≤ maxLen) :
    Calls Tryd.prog 27 #[.string s] w (Told w (pErr s) (numTo s.data.toList s.size)) := by
  unfold maxLen at hs
  by_cases h1 : 65536 < s.size
  · have HE : Hid (pErr s = 3) := by show _ = _; unfold pErr; rw [if_pos h1]
    have HT := hid (Tells.err (t := numTo s.data.toList s.size) (e := 3) (by decide))
    rw [HE.out]
    go_enter Tryd.func27, Tryd.ntmps27
    go_wp2_with fail
    go_ret2
    exact ⟨_, [], _, rfl, World.ownsRow_nil _ _ _ _, HT.out, Below.refl _ _⟩
  · have h2 : s.size ≤ 65536 := by omega
    by_cases hnum : IsNum s.data.toList
    · have HE : Hid (pErr s = 0) := by show _ = _; unfold pErr; rw [if_neg h1, if_pos hnum]
      have HI := hid (isNumber_any s w h2)
      rw [decide_eq_true hnum] at HI
      have HJ := hid (join_any s w h2 hnum.2.2)
      rw [HE.out]
      clear h1 hnum
      go_enter Tryd.func27, Tryd.ntmps27
      go_wp2_with fail
      refine Calls.mono HI.out ?_
      rintro e w' ⟨rfl, rfl⟩
      go_wp2_with fail
      refine Calls.mono HJ.out ?_
      rintro e w1 ⟨v, zs, rfl, ho, hwz, hlz, hvz, hb⟩
      have HT := hid (told_own _ _ v zs w1 ho hwz (by omega))
      clear ho
      go_wp2_with fail
      refine Calls.mono HT.out ?_
      rintro e w2 ⟨v2, us, code, rfl, ho2, ht2, rfl⟩
      rw [hvz] at ht2
      have HO2 := hid ho2
      have HT2 := hid ht2
      clear ho2 ht2 hvz
      go_wp2
      go_ret2
      exact ⟨_, us, code, rfl, HO2.out, HT2.out, hb⟩
    · have HE : Hid (pErr s = 110) := by show _ = _; unfold pErr; rw [if_neg h1, if_neg hnum]
      have HI := hid (isNumber_any s w h2)
      rw [decide_eq_false hnum] at HI
      have HT := hid (Tells.err (t := numTo s.data.toList s.size) (e := 110) (by decide))
      rw [HE.out]
      clear h1 hnum
      go_enter Tryd.func27, Tryd.ntmps27
      go_wp2_with fail
      refine Calls.mono HI.out ?_
      rintro e w' ⟨rfl, rfl⟩
      go_wp2_with fail
      go_ret2
      exact ⟨_, [], _, rfl, World.ownsRow_nil _ _ _ _, HT.out, Below.refl _ _⟩
end Go.Proofs.YtbcangblmadnpacDoor
