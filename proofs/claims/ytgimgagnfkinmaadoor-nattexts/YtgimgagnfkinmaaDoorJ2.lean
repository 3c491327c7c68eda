/- My texts on the way to NatTexts, one behind the other: contracts of the program and of the document's answers. -/
import Derived.Test.YtgimgagnfkinmaaDoorJ1
import Derived.Laws.BytesString
import Derived.Laws.Cells
import Derived.BigQuiet
import Derived.Lib.ItoaNum
/- nat.timesPiece, nat.join: the number of digits, piece by piece, in new memory. -/
namespace Go.Proofs.YtgimgagnfkinmaaDoor
open Go.RowKit
set_option linter.unusedVariables false

theorem times_step (ys us : List Int) (k : Nat) (x c t : Int) (hk : k < us.length) (ht : c + ys[k]?.getD 0 * 1000000000 = t)
    (h : valTo us k + c * 4294967296 ^ k = valTo ys k * 1000000000 + x) :
    valTo (us.set k (t % 4294967296)) (k + 1) + t / 4294967296 * 4294967296 ^ (k + 1) = valTo ys (k + 1) * 1000000000 + x := by
  rw [valTo_set us k _ hk, valTo_succ, pw_succ]
  have e := carry_step (4294967296 ^ k) (t % 4294967296) (t / 4294967296) t (by omega)
  have e2 : t * 4294967296 ^ k = c * 4294967296 ^ k + ys[k]?.getD 0 * 4294967296 ^ k * 1000000000 := by
    rw [← ht, Int.add_mul, Int.mul_assoc, Int.mul_comm 1000000000, ← Int.mul_assoc]
  omega
theorem val_snoc (us : List Int) (z : Int) : val (us ++ [z]) = val us + z * 4294967296 ^ us.length := by
  unfold val
  rw [List.length_append, List.length_singleton, valTo_succ, valTo_congr (us ++ [z]) us us.length (fun j hj => by rw [List.getElem?_append_left hj])]
  simp

set_option maxHeartbeats 3200000 in
set_option maxRecDepth 100000 in
theorem timesPiece_any (base n : Nat) (v : Value) (ys : List Int) (x : Int) (w : World) (ho : w.ownsRow base 47 1 v n (ys.map (Value.int .u32))) (hwy : Wd ys) (hn : n ≤ 1000000) (hx : 0 ≤ x ∧ x ≤ 4294967295) (hbase : base ≤ w.heap.size) :
    Calls Tryd.prog 71 #[v, .int .u32 x] w fun e w' => ∃ (v' : Value) (zs : List Int), e = .returned v' ∧ w'.ownsRow base 47 1 v' zs.length (zs.map (Value.int .u32)) ∧ Wd zs ∧ zs.length ≤ n + 1 ∧ val zs = val ys * 1000000000 + x ∧ Below base w w' := by
  obtain ⟨i0, hi, hz0, hz1, hz2⟩ := info_parts Tryd.infoW
  have hx1 := hx.1
  have hx2 := hx.2
  rcases ho.2 with ⟨rfl, rfl⟩ | ⟨g, cap, cur, rfl, hrest⟩
  · have hy : ys = [] := List.eq_nil_of_length_eq_zero (by have := ho.1; simpa using this)
    subst hy
    clear ho
    by_cases h0 : x = 0
    · subst h0
      go_enter Tryd.func71, Tryd.ntmps71
      go_wp2
      refine wp_loop_rounds 1 ?_
      rw [rounds_succ]
      go_wp2
      go_ret
      exact ⟨_, [], rfl, World.ownsRow_nil _ _ _ _, Wd.nil, by simp, by simp [val, valTo], Below.refl _ _⟩
    · have hne : (x != 0) = true := by simp [h0]
      clear h0
      go_enter Tryd.func71, Tryd.ntmps71
      go_wp2_with fail
      refine wp_loop_rounds 1 ?_
      rw [rounds_succ]
      go_wp2_with (at_builtin; refine wpList_append_own _ rfl _ _ 22 rfl base 47 i0 (.int .u32 0) 1 4 Tryd.underlying22 hi hz0 hz1 hz2 rfl (by decide) _ _ _ rfl (World.ownsRow_nil _ _ _ _) ⟨w.heap.size, 0, none⟩ 1 1 [.int .u32 x] rfl rfl (cell_one_new _ _ _) (by simp [Value.oneCell']) (by unfold maxLen; omega) (by omega) (by simp; omega) ?_)
      intro v3 w3 op3 hg3 _
      have hb3 : Below base w w3 := ((Below.refl base w).alloc (by omega) _).grown hg3 (by simp; omega) (fun g hg => by simp [Value.ownBlock] at hg)
      have HP : Hid (w3.ownsRow base 47 1 v3 [x].length ([x].map (Value.int .u32))) := op3
      clear op3 hg3
      go_wp2
      go_ret
      exact ⟨v3, [x], rfl, HP.out, Wd.one hx, by simp, by rw [val_one, val_nil]; omega, hb3⟩
  · have ho' : OwnC w base g n cap ys := ho
    have hlen := ho'.len
    have hgl := World.ownsRow.lt ho g rfl
    have hcap := ho'.cap
    have hcp1 := hcap.1
    have hcp2 : cap ≤ 9223372036854775807 := by have := hcap.2; unfold maxLen at this; omega
    have HLN := hid hlen
    clear hlen hrest ho hx hcap
    go_enter Tryd.func71, Tryd.ntmps71
    go_wp2_with fail
    go_loopw [5, 12] (fun c t wr => ∃ (k : Nat) (r : Int) (us : List Int), k ≤ n ∧ t = .int .i64 k ∧ c = .int .u64 r ∧ 0 ≤ r ∧ r ≤ 4294967295 ∧ Wd us ∧ Hid (valTo us k + r * 4294967296 ^ k = valTo ys k * 1000000000 + x) ∧
      Hid (∀ j, k ≤ j → us[j]?.getD 0 = ys[j]?.getD 0) ∧ OwnC wr base g n cap us ∧ Below base w wr) (fun _ t _ => n - (intOf t).toNat)
    case atStart => exact ⟨0, x, ys, by omega, rfl, by go_num, by omega, by omega, hwy, show _ = _ by simp [valTo], fun _ _ => rfl, ho', Below.refl _ _⟩
    case round =>
      obtain ⟨k, r, us, hk, rfl, rfl, r0, r1, hwu, HV, HK, hou, hb⟩ := hrel
      by_cases hlt : k < n
      · have y1 := hou.cell k hlt
        have f1 := hou.free k
        have bu := hwu.at k
        have hlu := hou.len
        obtain ⟨t, ht⟩ : ∃ t, t = r + us[k]?.getD 0 * 1000000000 := ⟨_, rfl⟩
        have HT := hid ht
        have HV' := hid (times_step ys us k x r t (by omega) (by rw [ht, HK.out k (by omega)]) HV.out)
        have HK' : Hid (∀ j, k + 1 ≤ j → (us.set k (t % 4294967296))[j]?.getD 0 = ys[j]?.getD 0) := fun j hj => by
          rw [List.getElem?_set, if_neg (by omega)]
          exact HK.out j (by omega)
        have HO' := hid (hou.set k (t % 4294967296)).1
        have HB' := hid (hb.setCell (p := ⟨g, k, none⟩) hgl.1 (.int .u32 (t % 4294967296)))
        have ht0 : 0 ≤ t ∧ t ≤ 18446744073709551615 := by omega
        clear hlu hou hb HV HK ht
        go_wp2
        go_roundw
        case rel => rw [← HT.out]; exact ⟨k + 1, t / 4294967296, us.set k (t % 4294967296), by omega, by go_num, by go_num, by have := HT.out; omega, by have := HT.out; omega, hwu.set _ (by omega), HV', HK', HO'.out, HB'.out⟩
        case measure => simp [intOf]; omega
      · have hkm : k = n := by omega
        subst hkm
        have HV' : Hid (val us + r * 4294967296 ^ us.length = val ys * 1000000000 + x) := by
          show _ = _
          have e := HV.out
          rw [valTo_stable us k (by have := hou.len; omega), valTo_stable ys k (by have := HLN.out; omega)] at e
          rw [hou.len]
          exact e
        clear HV
        by_cases h0 : r = 0
        · subst h0
          have HE : Hid (val us = val ys * 1000000000 + x) := by show _ = _; have := HV'.out; omega
          have HO := hid (owns_len hou)
          have HU := hid hou.len
          clear hou HV'
          go_wp2_with fail
          go_ret
          exact ⟨_, us, rfl, HO.out, hwu, by have := HU.out; omega, HE.out, hb⟩
        · have hne : (r != 0) = true := by simp [h0]
          obtain ⟨R, hR⟩ : ∃ R, R = us.map (Value.int .u32) := ⟨_, rfl⟩
          have HM : Hid ((us ++ [r]).map (Value.int .u32) = R ++ [.int .u32 r]) := by show _ = _; rw [hR]; simp
          have hop : wr.ownsRow base 47 1 (.slice (some ⟨g, 0, none⟩) k cap) k R := by rw [hR]; exact hou
          have HU := hid hou.len
          have hbs := hb.size
          clear hR hou h0
          go_wp2_with (at_builtin; refine wpList_append_own _ rfl _ _ 22 rfl base 47 i0 (.int .u32 0) 1 4 Tryd.underlying22 hi hz0 hz1 hz2 rfl (by decide) _ _ _ rfl (hop.alloc _) ⟨wr.heap.size, 0, none⟩ 1 1 [.int .u32 r] rfl rfl (cell_one_new _ _ _) (by simp [Value.oneCell']) (by unfold maxLen; omega) (by omega) (by simp; omega) ?_)
          intro v3 w3 op3 hg3 _
          have hb3 : Below base w w3 := (hb.alloc (by omega) _).grown hg3 (by simp; omega) (fun g2 hg2 => by have := hop.lt g2 hg2; omega)
          have HPP : Hid (w3.ownsRow base 47 1 v3 (us ++ [r]).length ((us ++ [r]).map (Value.int .u32))) := by
            show World.ownsRow _ _ _ _ _ _ _
            rw [HM.out, List.length_append, List.length_singleton, HU.out]
            exact op3
          clear op3 hg3 hop
          go_wp2
          go_ret
          exact ⟨v3, us ++ [r], rfl, HPP.out, hwu.append (Wd.one ⟨r0, r1⟩), by rw [List.length_append, HU.out]; simp, by rw [val_snoc]; exact HV'.out, hb3⟩
end Go.Proofs.YtgimgagnfkinmaaDoor

/- nat.join, nat.Parse: the number of digits, piece by piece, in new memory; every text read, or its error. -/
namespace Go.Proofs.YtgimgagnfkinmaaDoor
open Go.RowKit
set_option linter.unusedVariables false

theorem list_size (s : ByteArray) {l : List UInt8} (h : s.data.toList = l) : s.size = l.length := by rw [← h]; exact (size_list s).symm

theorem extract_list (s : ByteArray) (i j : Nat) : (s.extract i j).data.toList = (s.data.toList.drop i).take (j - i) := by
  rw [ByteArray.data_extract, Array.toList_extract, List.extract_eq_take_drop]
theorem numTo_take (l : List UInt8) (n : Nat) : numTo (l.take n) n = numTo l n :=
  numTo_congr _ _ _ (fun j hj => by rw [List.getElem?_take, if_pos hj])
theorem numTo_piece (l : List UInt8) (m n k : Nat) (t : Int) (ht : t = numTo l m) (h : m = 0 ∨ k % 9 = 0) (hn : n = (k - 1) % 9 + 1) (hk : 0 < k) : t * 1000000000 + numTo (l.drop m) n = numTo l (m + n) := by
  rw [numTo_add, ht]
  rcases h with h | h
  · rw [h]; simp [numTo]
  · have : n = 9 := by omega
    rw [this]; rfl

set_option maxHeartbeats 3200000 in
set_option maxRecDepth 100000 in
theorem join_any (s : ByteArray) (w : World) (hs : s.size ≤ 65536) (hd : Dg s.data.toList) :
    Calls Tryd.prog 43 #[.string s] w fun e w' => ∃ (v : Value) (zs : List Int), e = .returned v ∧ w'.ownsRow w.heap.size 47 1 v zs.length (zs.map (Value.int .u32)) ∧ Wd zs ∧ zs.length ≤ s.size ∧ val zs = numTo s.data.toList s.size ∧ Below w.heap.size w w' := by
  have HD := hid hd
  have HL := hid (size_list s)
  clear hd
  go_enter Tryd.func43, Tryd.ntmps43
  go_wp2_with fail
  go_loopg [0, 3] s.size (fun k t v wr => ∃ (m : Nat) (s' : ByteArray) (ys : List Int), t = .string s' ∧ m + k = s.size ∧ s'.size = k ∧ Hid (s'.data.toList = s.data.toList.drop m) ∧ wr.ownsRow w.heap.size 47 1 v ys.length (ys.map (Value.int .u32)) ∧ Wd ys ∧ ys.length ≤ m ∧
    Hid (val ys = numTo s.data.toList m) ∧ Hid (m = 0 ∨ k % 9 = 0) ∧ Below w.heap.size w wr)
  case atStart => exact ⟨0, s, [], rfl, by omega, rfl, show _ = _ by simp, World.ownsRow_nil _ _ _ _, Wd.nil, by simp, show _ = _ by simp [val, valTo, numTo], .inl rfl, Below.refl _ _⟩
  case round =>
    obtain ⟨m, s', ys, rfl, hmk, hsz, HS, hop, hwy, hly, HV, HN, hb⟩ := hrel
    by_cases h0 : s'.size = 0
    · have hse : s' = ⟨#[]⟩ := by
        obtain ⟨d⟩ := s'
        have : d = #[] := Array.eq_empty_of_size_eq_zero h0
        rw [this]
      subst hse
      have hm : m = s.size := by omega
      have HV' : Hid (val ys = numTo s.data.toList s.size) := by show _ = _; rw [HV.out, hm]
      have HO := hid hop
      clear hop HS h0
      go_wp2_with fail
      go_ret
      exact ⟨_, ys, rfl, HO.out, hwy, by omega, HV'.out, hb⟩
    · have hp : 0 < s'.size := by omega
      have hem : s'.toList.isEmpty = false := by
        rw [ByteArray.toList_eq]
        have hl := size_list s'
        cases hx : s'.data.toList with
        | nil => rw [hx] at hl; simp at hl; omega
        | cons _ _ => rfl
      have hen : ¬ s'.toList = [] := fun e => by rw [e] at hem; simp at hem
      have hl1 : (s'.extract 0 ((gk - 1) % 9 + 1)).data.toList = (s.data.toList.drop m).take ((gk - 1) % 9 + 1) := by rw [extract_list, HS.out]; simp
      have hl2 : (s'.extract ((gk - 1) % 9 + 1) gk).data.toList = s.data.toList.drop (m + ((gk - 1) % 9 + 1)) := by
        rw [extract_list, HS.out, List.drop_drop, List.take_of_length_le (by rw [List.length_drop, HL.out]; omega)]
      have z1 : (s'.extract 0 ((gk - 1) % 9 + 1)).size = (gk - 1) % 9 + 1 := by
        rw [list_size _ hl1, List.length_take, List.length_drop, HL.out]; omega
      have z2 : (s'.extract ((gk - 1) % 9 + 1) gk).size = gk - ((gk - 1) % 9 + 1) := by
        rw [list_size _ hl2, List.length_drop, HL.out]; omega
      have hdg : Dg (s'.extract 0 ((gk - 1) % 9 + 1)).data.toList := by rw [hl1]; exact (HD.out.drop _).take _
      have hnum : numTo (s'.extract 0 ((gk - 1) % 9 + 1)).data.toList (s'.extract 0 ((gk - 1) % 9 + 1)).size = numTo (s.data.toList.drop m) ((gk - 1) % 9 + 1) := by
        rw [z1, hl1, numTo_take]
      have hpc := numTo_piece s.data.toList m ((gk - 1) % 9 + 1) gk _ HV.out HN.out rfl (by omega)
      have hbd := numTo_bounds (HD.out.drop m) ((gk - 1) % 9 + 1)
      have hp9 : (10 : Int) ^ ((gk - 1) % 9 + 1) ≤ 10 ^ 9 := by
        have h9 : (gk - 1) % 9 + 1 ≤ 9 := by omega
        generalize (gk - 1) % 9 + 1 = q at h9
        obtain ⟨d, hd⟩ : ∃ d, 9 = q + d := ⟨9 - q, by omega⟩
        rw [hd, Int.pow_add]
        have h1 : (0 : Int) < 10 ^ q := Int.pow_pos (by decide)
        have h2 : (0 : Int) < 10 ^ d := Int.pow_pos (by decide)
        have h3 : (10 : Int) ^ q * 1 ≤ 10 ^ q * 10 ^ d := Int.mul_le_mul_of_nonneg_left (by omega) (by omega)
        omega
      have HW := hid (wordOf_any (s'.extract 0 ((gk - 1) % 9 + 1)) wr (by rw [z1]; omega) hdg)
      rw [hnum] at HW
      obtain ⟨x, hx⟩ : ∃ x, x = numTo (s.data.toList.drop m) ((gk - 1) % 9 + 1) := ⟨_, rfl⟩
      rw [← hx] at HW hpc hbd
      have hx0 := hbd.1
      have hx1 : x ≤ 4294967295 := by have := hbd.2; omega
      have hbs := hb.size
      have HT := hid (timesPiece_any w.heap.size _ u3 ys x wr hop hwy (by omega) ⟨hx0, hx1⟩ hbs)
      have HPC := hid hpc
      have HL2 := hid hl2
      have HN' : Hid (m + ((gk - 1) % 9 + 1) = 0 ∨ (gk - ((gk - 1) % 9 + 1)) % 9 = 0) := by right; omega
      clear hop hx hl1 hl2 z1 hdg hnum hpc hbd hp9 HV HN HS
      go_wp2_with fail
      refine Calls.mono HW.out ?_
      rintro e w1 ⟨rfl, rfl⟩
      go_wp2_with fail
      refine Calls.mono HT.out ?_
      rintro e w2 ⟨v2, zs, rfl, ho2, hwz, hlz, hvz, hb2⟩
      have HO2 := hid ho2
      have HV2 : Hid (val zs = numTo s.data.toList (m + ((gk - 1) % 9 + 1))) := by show _ = _; rw [hvz]; exact HPC.out
      clear ho2 hvz HT HW HPC
      go_wp2_with fail
      go_roundg (gk - ((gk - 1) % 9 + 1))
      case measure => omega
      case rel => exact ⟨m + ((gk - 1) % 9 + 1), _, zs, rfl, by omega, z2, HL2, HO2.out, hwz, by omega, HV2, HN', hb.trans hb2⟩

set_option maxHeartbeats 800000 in
set_option maxRecDepth 100000 in
theorem told_own (base n : Nat) (v : Value) (ys : List Int) (w : World) (ho : w.ownsRow base 47 1 v n (ys.map (Value.int .u32))) (hw : Wd ys) (hN : n ≤ 1099511627776) :
    Calls Tryd.prog 28 #[v] w fun e w' => ∃ v zs code, e = .returned (.tuple #[v, .int .i64 code]) ∧ w.ownsRow base 47 1 v zs.length (zs.map (Value.int .u32)) ∧ Tells 0 (val ys) zs code ∧ w = w' := by
  have hlen : ys.length = n := by have := ho.1; simpa using this
  have sx := sz_le ys
  rw [hlen] at sx
  have HT := hid (Tells.told hw)
  rcases ho.2 with ⟨rfl, rfl⟩ | ⟨g, cap, cur, rfl, hrest⟩
  · have hy : ys = [] := List.eq_nil_of_length_eq_zero hlen
    subst hy
    rw [if_neg (by simp [sz, szTo]), if_neg (by simp [sz, szTo])] at HT
    have HZ := hid (size_any none 0 0 [] w.heap.size w (by obtain ⟨a, cap, hv, hr⟩ := Reads.own ho hw; simp only [Value.slice.injEq] at hv; obtain ⟨rfl, _, rfl⟩ := hv; exact hr) (by omega))
    clear ho
    go_enter Tryd.func28, Tryd.ntmps28
    go_wp2_with fail
    refine Calls.mono HZ.out ?_
    rintro e w' ⟨rfl, rfl⟩
    rw [show sz [] = 0 from rfl]
    go_wp2
    go_ret2
    exact ⟨_, [], _, rfl, World.ownsRow_nil _ _ _ _, HT.out, rfl⟩
  · have ho' : OwnC w base g n cap ys := ho
    have hcap := ho'.cap
    have hcp1 := hcap.1
    have hcp2 : cap ≤ 9223372036854775807 := by have := hcap.2; unfold maxLen at this; omega
    have hr : Reads w w.heap.size (some ⟨g, 0, none⟩) n cap ys := by
      obtain ⟨a, cap, hv, hr⟩ := Reads.own ho' hw
      simp only [Value.slice.injEq] at hv
      obtain ⟨rfl, _, rfl⟩ := hv
      exact hr
    by_cases hs : 8192 < sz ys
    · rw [if_pos hs, if_pos hs] at HT
      have hsi : (8192 : Int) < (sz ys : Int) := by omega
      clear hlen hrest hcap
      go_enter Tryd.func28, Tryd.ntmps28
      go_wp2_with fail
      refine (size_any _ _ _ ys _ _ hr (by omega)).mono ?_
      rintro e w' ⟨rfl, rfl⟩
      go_wp2
      go_ret2
      exact ⟨_, [], _, rfl, World.ownsRow_nil _ _ _ _, HT.out, rfl⟩
    · rw [if_neg hs, if_neg hs] at HT
      have hsi : (sz ys : Int) ≤ 8192 := by omega
      have HO := hid (owns_len (ho'.take (sz ys) sx))
      clear hlen hrest hcap
      go_enter Tryd.func28, Tryd.ntmps28
      go_wp2_with fail
      refine (size_any _ _ _ ys _ _ hr (by omega)).mono ?_
      rintro e w' ⟨rfl, rfl⟩
      go_wp2
      go_ret2
      exact ⟨_, _, _, rfl, HO.out, HT.out, rfl⟩

open Classical in
/-- Parse's error, of a text. -/
noncomputable def pErr (s : ByteArray) : Int := if 65536 < s.size then 3 else if IsNum s.data.toList then 0 else 110

open Classical in
set_option maxHeartbeats 1600000 in
set_option maxRecDepth 100000 in
theorem parse_any (s : ByteArray) (w : World) (hs : s.size ≤ maxLen) :
    Calls Tryd.prog 11 #[.string s] w (Told w (pErr s) (numTo s.data.toList s.size)) := by
  unfold maxLen at hs
  by_cases h1 : 65536 < s.size
  · have HE : Hid (pErr s = 3) := by show _ = _; unfold pErr; rw [if_pos h1]
    have HT := hid (Tells.err (t := numTo s.data.toList s.size) (e := 3) (by decide))
    rw [HE.out]
    go_enter Tryd.func11, Tryd.ntmps11
    go_wp2_with fail
    go_ret2
    exact ⟨_, [], _, rfl, World.ownsRow_nil _ _ _ _, HT.out, Below.refl _ _⟩
  · have h2 : s.size ≤ 65536 := by omega
    by_cases hnum : IsNum s.data.toList
    · have HE : Hid (pErr s = 0) := by show _ = _; unfold pErr; rw [if_neg h1, if_pos hnum]
      have HI := hid (isNumber_any s w h2)
      rw [decide_eq_true hnum] at HI
      have HJ := hid (join_any s w h2 hnum.2.2)
      rw [HE.out]
      clear h1 hnum
      go_enter Tryd.func11, Tryd.ntmps11
      go_wp2_with fail
      refine Calls.mono HI.out ?_
      rintro e w' ⟨rfl, rfl⟩
      go_wp2_with fail
      refine Calls.mono HJ.out ?_
      rintro e w1 ⟨v, zs, rfl, ho, hwz, hlz, hvz, hb⟩
      have HT := hid (told_own _ _ v zs w1 ho hwz (by omega))
      clear ho
      go_wp2_with fail
      refine Calls.mono HT.out ?_
      rintro e w2 ⟨v2, us, code, rfl, ho2, ht2, rfl⟩
      rw [hvz] at ht2
      have HO2 := hid ho2
      have HT2 := hid ht2
      clear ho2 ht2 hvz
      go_wp2
      go_ret2
      exact ⟨_, us, code, rfl, HO2.out, HT2.out, hb⟩
    · have HE : Hid (pErr s = 110) := by show _ = _; unfold pErr; rw [if_neg h1, if_neg hnum]
      have HI := hid (isNumber_any s w h2)
      rw [decide_eq_false hnum] at HI
      have HT := hid (Tells.err (t := numTo s.data.toList s.size) (e := 110) (by decide))
      rw [HE.out]
      clear h1 hnum
      go_enter Tryd.func11, Tryd.ntmps11
      go_wp2_with fail
      refine Calls.mono HI.out ?_
      rintro e w' ⟨rfl, rfl⟩
      go_wp2_with fail
      go_ret2
      exact ⟨_, [], _, rfl, World.ownsRow_nil _ _ _ _, HT.out, Below.refl _ _⟩
end Go.Proofs.YtgimgagnfkinmaaDoor

/- What the laws' own example says. -/
namespace Go.Proofs.YtgimgagnfkinmaaDoor
open Go.RowKit
set_option linter.unusedVariables false

theorem digits_ex : Lib.decDigits 4294967296 = [52, 50, 57, 52, 57, 54, 55, 50, 57, 54] := by simp [Lib.decDigits]

end Go.Proofs.YtgimgagnfkinmaaDoor

/- The law NatBack answers true, and writes nothing that was there: whatever list and text come in, where the library's table of powers of ten stands as its text lays it. -/
namespace Go.Proofs.YtgimgagnfkinmaaDoor
open Go.RowKit Go.Lib
set_option linter.unusedVariables false

theorem numTo_snoc (l : List UInt8) (c : UInt8) : numTo (l ++ [c]) (l.length + 1) = numTo l l.length * 10 + ((c.toNat : Int) - 48) := by
  show numTo (l ++ [c]) l.length * 10 + _ = _
  rw [numTo_congr (l ++ [c]) l l.length (fun j hj => by rw [List.getElem?_append_left hj])]
  simp
theorem toNat_digit (d : Nat) (h : d < 10) : (UInt8.ofNat (48 + d)).toNat = 48 + d := by
  rw [UInt8.toNat_ofNat']; omega
theorem Dg.snoc {l : List UInt8} (h : Dg l) {c : UInt8} (hc : 48 ≤ (c.toNat : Int) ∧ (c.toNat : Int) ≤ 57) : Dg (l ++ [c]) := fun x hx => by
  rcases List.mem_append.1 hx with hx | hx
  · exact h x hx
  · simp at hx; rw [hx]; exact hc
theorem isNum_dec : ∀ n : Nat, IsNum (decDigits n) ∧ numTo (decDigits n) (decDigits n).length = n ∧ (0 < n → ¬ (decDigits n)[0]?.getD 0 = 48)
  | n => by
    by_cases h : n < 10
    · rw [decDigits_one h]
      have e := toNat_digit n h
      refine ⟨⟨by simp, fun _ => by simp, fun c hc => ?_⟩, ?_, fun h0 => ?_⟩
      · rw [List.mem_singleton.1 hc, e]; omega
      · show (0 : Int) * 10 + (((UInt8.ofNat (48 + n)).toNat : Int) - 48) = n
        rw [e]; omega
      · intro e2
        have e2 : UInt8.ofNat (48 + n) = 48 := e2
        rw [e2] at e
        have : (48 : UInt8).toNat = 48 := rfl
        omega
    · obtain ⟨⟨h1, h2, h3⟩, h4, h5⟩ := isNum_dec (n / 10)
      have e := toNat_digit (n % 10) (by omega)
      rw [decDigits, dif_neg h]
      have h6 := h5 (by omega)
      have hz : (decDigits (n / 10) ++ [UInt8.ofNat (48 + n % 10)])[0]?.getD 0 = (decDigits (n / 10))[0]?.getD 0 := by rw [List.getElem?_append_left h1]
      refine ⟨⟨by simp, fun e2 => ?_, h3.snoc (by rw [e]; omega)⟩, ?_, fun _ => by rw [hz]; exact h6⟩
      · rw [hz] at e2; exact absurd e2 h6
      · rw [List.length_append, List.length_singleton, numTo_snoc, h4, e]; omega
theorem num_pos (l : List UInt8) (hd : Dg l) (h0 : ¬ l[0]?.getD 0 = 48) (hp : 0 < l.length) : ∀ k, 1 ≤ numTo l (k + 1)
  | 0 => by
    show 1 ≤ (0 : Int) * 10 + (((l[0]?.getD 48).toNat : Int) - 48)
    rw [List.getElem?_eq_getElem hp] at h0 ⊢
    have h1 := hd _ (List.getElem_mem hp)
    have h2 : ¬ (l[0].toNat : Int) = 48 := fun e => h0 (UInt8.toNat_inj.1 (by show l[0].toNat = 48; omega))
    simp only [Option.getD_some]
    omega
  | k + 1 => by
    have ih := num_pos l hd h0 hp k
    have hb := numTo_bounds hd (k + 1)
    show 1 ≤ numTo l (k + 1) * 10 + (((l[k + 1]?.getD 48).toNat : Int) - 48)
    have hc : 48 ≤ ((l[k + 1]?.getD 48).toNat : Int) := by
      by_cases hk : k + 1 < l.length
      · rw [List.getElem?_eq_getElem hk]; exact (hd _ (List.getElem_mem hk)).1
      · rw [List.getElem?_eq_none (by omega)]; decide
    omega
theorem dec_num : ∀ (k : Nat) (l : List UInt8), l.length = k + 1 → IsNum l → decDigits (numTo l l.length).toNat = l
  | 0, l, hl, h => by
    obtain ⟨c, rfl⟩ := List.length_eq_one_iff.1 hl
    have hc := h.2.2 c (by simp)
    have e : numTo [c] [c].length = (c.toNat : Int) - 48 := by simp [numTo]
    rw [e, decDigits_one (by omega)]
    congr 1
    refine UInt8.toNat_inj.1 ?_
    rw [toNat_digit _ (by omega)]; omega
  | k + 1, l, hl, h => by
    have hne : l ≠ [] := fun e => by rw [e] at hl; simp at hl
    obtain ⟨l', c, rfl⟩ : ∃ l' c, l = l' ++ [c] := ⟨l.dropLast, l.getLast hne, (List.dropLast_concat_getLast hne).symm⟩
    have hl' : l'.length = k + 1 := by simp at hl; exact hl
    have hd' : Dg l' := fun x hx => h.2.2 x (List.mem_append_left _ hx)
    have hc := h.2.2 c (by simp)
    have h0 : ¬ l'[0]?.getD 0 = 48 := fun e => by
      have := h.2.1 (by rw [List.getElem?_append_left (by omega)]; exact e)
      omega
    have hn : IsNum l' := ⟨by omega, fun e => absurd e h0, hd'⟩
    have ih := dec_num k l' hl' hn
    have hp := num_pos l' hd' h0 (by omega) k
    rw [← hl'] at hp
    rw [List.length_append, List.length_singleton, numTo_snoc]
    obtain ⟨q, hq⟩ : ∃ q : Nat, numTo l' l'.length = q := ⟨(numTo l' l'.length).toNat, by omega⟩
    rw [hq] at ih hp ⊢
    rw [decDigits, dif_neg (by omega)]
    have e1 : ((q : Int) * 10 + ((c.toNat : Int) - 48)).toNat / 10 = q := by omega
    have e2 : ((q : Int) * 10 + ((c.toNat : Int) - 48)).toNat % 10 = c.toNat - 48 := by omega
    rw [e1, e2]
    have ih : decDigits q = l' := ih
    rw [ih]
    congr 2
    refine UInt8.toNat_inj.1 ?_
    rw [toNat_digit _ (by omega)]; omega
theorem nDigits_le : ∀ (k n : Nat), n < 10 ^ (k + 1) → nDigits n ≤ k + 1
  | k, n, h => (pad_eq k n h).2
theorem digits_few {x : Int} {L : Nat} (h0 : 0 ≤ x) (h : x < 4294967296 ^ L) : nDigits x.toNat ≤ 10 * L + 1 := by
  refine nDigits_le _ _ ?_
  have h1 : (4294967296 : Int) ^ L ≤ 10 ^ (10 * L) := by
    have e : (4294967296 : Nat) ^ L ≤ (10 ^ 10) ^ L := Nat.pow_le_pow_left (by decide) _
    rw [← Nat.pow_mul] at e
    have := Int.ofNat_le.2 e
    rw [Int.natCast_pow, Int.natCast_pow] at this
    exact this
  have h2 : x < 10 ^ (10 * L) := by omega
  have h3 : (x.toNat : Int) < ((10 ^ (10 * L) : Nat) : Int) := by rw [Int.natCast_pow]; rw [Int.toNat_of_nonneg h0]; exact h2
  have h4 := Int.ofNat_lt.1 h3
  have h5 : (10 : Nat) ^ (10 * L) ≤ 10 ^ (10 * L + 1) := Nat.pow_le_pow_right (by decide) (by omega)
  omega

open Classical in
/-- Whether the first k signs are digits, the text not being empty, and without a nought ahead. -/
noncomputable def rightTo (l : List UInt8) (k : Nat) : Bool := decide (0 < l.length ∧ (l[0]?.getD 0 = 48 → l.length ≤ 1) ∧ ∀ j : Nat, j < k → 48 ≤ ((l[j]?.getD 0).toNat : Int) ∧ ((l[j]?.getD 0).toNat : Int) ≤ 57)
open Classical in
theorem rightTo_all (l : List UInt8) : rightTo l l.length = decide (IsNum l) := by
  unfold rightTo
  by_cases h : IsNum l
  · rw [decide_eq_true h]
    refine decide_eq_true ⟨h.1, h.2.1, fun j hj => ?_⟩
    rw [List.getElem?_eq_getElem hj]; exact h.2.2 _ (List.getElem_mem hj)
  · rw [decide_eq_false h]
    refine decide_eq_false (fun g => h ⟨g.1, g.2.1, fun c hc => ?_⟩)
    obtain ⟨j, hj, e⟩ := mem_at hc
    have := g.2.2 j hj
    rw [e] at this
    exact this
theorem rightTo_no {l : List UInt8} {k : Nat} (h : rightTo l k = false) : rightTo l (k + 1) = false := by
  unfold rightTo at h ⊢
  have := of_decide_eq_false h
  exact decide_eq_false (fun g => this ⟨g.1, g.2.1, fun j hj => g.2.2 j (by omega)⟩)
theorem rightTo_bad {l : List UInt8} {k : Nat} {c : UInt8} (h : l[k]? = some c) (hc : ¬ (48 ≤ (c.toNat : Int) ∧ (c.toNat : Int) ≤ 57)) : rightTo l (k + 1) = false := by
  unfold rightTo
  refine decide_eq_false (fun g => hc ?_)
  have := g.2.2 k (by omega)
  rw [h] at this
  exact this
theorem rightTo_good {l : List UInt8} {k : Nat} {c : UInt8} (hr : rightTo l k = true) (h : l[k]? = some c) (hc : 48 ≤ (c.toNat : Int) ∧ (c.toNat : Int) ≤ 57) : rightTo l (k + 1) = true := by
  unfold rightTo at hr ⊢
  have g := of_decide_eq_true hr
  refine decide_eq_true ⟨g.1, g.2.1, fun j hj => ?_⟩
  by_cases e : j = k
  · rw [e, h]; exact hc
  · exact g.2.2 j (by omega)
end Go.Proofs.YtgimgagnfkinmaaDoor

/- The document's own digits of a number: slackwaterref01.Digits: of every number. -/
namespace Go.Proofs.YtgimgagnfkinmaaDoor
open Go.RowKit Lib
set_option linter.unusedVariables false

theorem Tryd.infoB : (Tryd.prog.info? 5).map (fun i => (i.zero, i.size, i.bytes)) = some (some (.int .u8 0), 1, 1) := by kernel_rfl
/-- Bytes as numbers. -/
def bI (l : List UInt8) : List Value := l.map fun b => Value.int .u8 (b.toNat : Int)
/-- What is left of a number, and the digits that were told of it, the lowest first. -/
def Left (X V : Nat) (bs : List UInt8) : Prop := (0 < V → decDigits X = decDigits V ++ bs.reverse) ∧ (V = 0 → decDigits X = bs.reverse)
theorem Left.step {X V : Nat} {bs : List UInt8} (h : Left X V bs) (hV : 0 < V) : Left X (V / 10) (bs ++ [UInt8.ofNat (48 + V % 10)]) := by
  have e := h.1 hV
  by_cases c : V < 10
  · have h0 : V / 10 = 0 := by omega
    refine ⟨fun h1 => by omega, fun _ => ?_⟩
    rw [e, decDigits, dif_pos c, List.reverse_append, show V % 10 = V by omega]
    rfl
  · refine ⟨fun _ => ?_, fun h1 => by omega⟩
    rw [e, decDigits, dif_neg c, List.reverse_append]
    simp
theorem Left.len {X V : Nat} {bs : List UInt8} (h : Left X V bs) : bs.length ≤ (decDigits X).length := by
  by_cases c : V = 0
  · rw [h.2 c, List.length_reverse]; exact Nat.le_refl _
  · rw [h.1 (by omega), List.length_append, List.length_reverse]; omega
theorem foldl_push : ∀ (l : List UInt8) (s : ByteArray), (l.map fun b => (b.toNat : Int)).foldl (fun r n => r.push (UInt8.ofNat n.toNat)) s = ⟨s.data ++ l.toArray⟩
  | [], s => by simp
  | b :: l, s => by
    rw [List.map_cons, List.foldl_cons, foldl_push l]
    simp [ByteArray.push]
theorem text_of_bytes (l : List UInt8) : (l.map fun b => (b.toNat : Int)).foldl (fun r n => r.push (UInt8.ofNat n.toNat)) ByteArray.empty = ⟨l.toArray⟩ := by
  rw [foldl_push]; simp [ByteArray.empty, ByteArray.emptyWithCapacity]; rfl

theorem Sl.reads {w : World} {a : Option Addr} {c : Nat} {xs : List Int} (h : Sl w (.slice a xs.length c) xs) : Reads w w.heap.size a xs.length c xs := by
  obtain ⟨a', c', hv, hr⟩ := h
  simp only [Value.slice.injEq, true_and] at hv
  obtain ⟨rfl, rfl⟩ := hv
  exact hr
/-- A row of bytes of the call's own. -/
def OwnB (w : World) (base g n : Nat) (l : List UInt8) : Prop := w.ownsRow base 5 1 (.slice (some ⟨g, 0, none⟩) n n) n (bI l)
theorem OwnB.len {w : World} {base g n : Nat} {l : List UInt8} (h : OwnB w base g n l) : l.length = n := by have := h.1; simpa [bI] using this
theorem ownB_cell {w : World} {base g n cap : Nat} {l : List UInt8} (h : w.ownsRow base 5 1 (.slice (some ⟨g, 0, none⟩) n cap) n (bI l)) (k : Nat) (hk : k < n) : w.cell? ⟨g, k, none⟩ = some (.int .u8 ((l[k]?.getD 0).toNat : Int)) := by
  have hl : l.length = n := by have := h.1; simpa [bI] using this
  have := h.cellAt k (by omega)
  rw [this]
  unfold bI
  rw [List.getElem?_map, List.getElem?_eq_getElem (by omega)]
  rfl
theorem OwnB.set {w : World} {base g n : Nat} {l : List UInt8} (h : OwnB w base g n l) (k : Nat) (b : UInt8) : OwnB (w.setCell ⟨g, k, none⟩ (.int .u8 (b.toNat : Int))) base g n (l.set k b) := by
  have e := (World.ownsRow.stored h k (.int .u8 (b.toNat : Int))).1
  unfold OwnB
  have e2 : bI (l.set k b) = (bI l).set k (.int .u8 (b.toNat : Int)) := by unfold bI; rw [List.map_set]
  rw [e2]
  exact e
theorem made_bytes (n : Nat) : (madeCells #[Value.int .u8 0] n).toList = bI (List.replicate n 0) := by
  rw [toList_madeCells_one]; simp [bI]
/-- Rows of unlike elements lie apart. -/
theorem owns_unlike {w : World} {b1 b2 e1 e2 n1 n2 : Nat} {v1 v2 : Value} {x1 x2 : List Value} (h : w.ownsRow b1 e1 1 v1 n1 x1) (g : w.ownsRow b2 e2 1 v2 n2 x2) (hne : e1 ≠ e2) : v1.ownBlock = none ∨ v1.ownBlock ≠ v2.ownBlock := by
  rcases h.2 with ⟨rfl, _⟩ | ⟨g1, c1, u1, rfl, _, hg1, _⟩
  · exact .inl rfl
  · right
    rcases g.2 with ⟨rfl, _⟩ | ⟨g2, c2, u2, rfl, _, hg2, _⟩
    · simp [Value.ownBlock]
    · intro e
      simp [Value.ownBlock] at e
      subst e
      rw [hg1] at hg2
      simp at hg2
      exact hne hg2.2
theorem own_shape1 {w : World} {base e n : Nat} {v : Value} {xs : List Value} (h : w.ownsRow base e 1 v n xs) (hn : 0 < n) : ∃ g cap, v = .slice (some ⟨g, 0, none⟩) n cap ∧ base ≤ g ∧ g < w.heap.size ∧ n ≤ cap ∧ cap ≤ maxLen := by
  obtain ⟨g, cap, rfl, h1, h2⟩ := own_shape' h hn
  have := World.ownsRow.lt h g rfl
  exact ⟨g, cap, rfl, this.1, this.2, h1, h2⟩
theorem dec_len (n : Nat) : (decDigits n).length = nDigits n := by
  induction n using decDigits.induct with
  | case1 u h => rw [decDigits, dif_pos h, nDigits_small h]; rfl
  | case2 u h ih => rw [decDigits, dif_neg h, nDigits_big h, List.length_append, ih]; rfl
theorem dec_pos (n : Nat) : 0 < (decDigits n).length := by
  rw [decDigits]
  split
  · simp
  · simp
theorem low_step (Z r k : Nat) : (Z * 10 ^ (k + 1) + r) / 10 = Z * 10 ^ k + r / 10 ∧ (Z * 10 ^ (k + 1) + r) % 10 = r % 10 := by
  have e : Z * 10 ^ (k + 1) + r = r + Z * 10 ^ k * 10 := by rw [Nat.pow_succ, Nat.mul_assoc]; omega
  rw [e, Nat.add_mul_div_right _ _ (by decide), Nat.add_mul_mod_self_right]
  exact ⟨by omega, rfl⟩
theorem ret_str {a b : ByteArray} (h : a = b) : Ending.returned (.string a) = .returned (.string b) := by rw [h]
theorem byte_val (d : Nat) (h : d ≤ 57) : ((UInt8.ofNat d).toNat : Int) = (d : Int) := by
  have : (UInt8.ofNat d).toNat = d := by rw [UInt8.toNat_ofNat']; omega
  rw [this]

set_option maxHeartbeats 6400000 in
set_option maxRecDepth 100000 in
theorem refDigits_any (v : Value) (xs : List Int) (w : World) (h : Sl w v xs) (hx : Trimmed xs) (hn : xs.length ≤ 8192) :
    Calls Tryd.prog 41 #[v] w fun e w' => e = .returned (.string ⟨(decDigits (val xs).toNat).toArray⟩) ∧ Below w.heap.size w w' := by
  obtain ⟨i0, hi, hz0, hz1, hz2⟩ := info_parts Tryd.infoB
  have wx := h.wd
  have HS := hid h
  obtain ⟨a, cap, rfl, hr⟩ := h
  clear hr
  by_cases h0 : xs.length = 0
  · have hx0 : xs = [] := List.eq_nil_of_length_eq_zero h0
    have HE : Hid ((⟨(decDigits (val xs).toNat).toArray⟩ : ByteArray) = ⟨#[48]⟩) := by
      show _ = _
      rw [hx0, val_nil]
      simp [decDigits]
    rw [h0]
    clear HS hx h0 hx0 hn wx
    go_enter Tryd.func41, Tryd.ntmps41
    go_wp2_with fail
    go_ret
    exact ⟨ret_str HE.out.symm, Below.refl _ _⟩
  · obtain ⟨X, hX⟩ : ∃ X, (val xs).toNat = X := ⟨_, rfl⟩
    have hlen : (decDigits X).length ≤ 100000 := by
      rw [dec_len, ← hX]
      have := digits_few (val_nonneg wx) (val_lt wx)
      omega
    have hpos := dec_pos X
    have hxz : ((xs.length : Int) == 0) = false := by simp; exact fun e => h0 (by rw [e]; rfl)
    rw [hX]
    have HL := hid (And.intro hlen hpos)
    have HST : Hid (Left X (val xs).toNat []) := ⟨fun _ => by rw [hX]; simp, fun e => by
      exfalso
      have h1 := val_ge wx hx (by omega)
      have h2 := pw_pos (xs.length - 1)
      omega⟩
    clear hlen hpos wx h0 hX
    go_enter Tryd.func41, Tryd.ntmps41
    go_wp2_with fail
    go_loopg [0, 3] (val xs).toNat (fun k s0 s3 wr => ∃ (a : Option Addr) (c : Nat) (us : List Int) (bs : List UInt8), s0 = .slice a us.length c ∧ us.length ≤ 8192 ∧ Hid (Sl wr (.slice a us.length c) us ∧ Trimmed us ∧ k = (val us).toNat ∧ Left X (val us).toNat bs) ∧ wr.ownsRow w.heap.size 5 1 s3 bs.length (bI bs) ∧ Below w.heap.size w wr)
    case atStart => exact ⟨a, cap, xs, [], rfl, hn, ⟨HS.out, hx, rfl, HST.out⟩, World.ownsRow_nil _ _ _ _, Below.refl _ _⟩
    case round =>
      clear HS HST hx hn hxz
      obtain ⟨a1, c1, us, bs, rfl, lu, HR, hob, hb⟩ := hrel
      by_cases h0 : us.length = 0
      · have hz : ¬ (0 : Int) < (us.length : Int) := by omega
        have HE : Hid (decDigits X = bs.reverse) := by
          have e1 : us = [] := List.eq_nil_of_length_eq_zero h0
          exact HR.out.2.2.2.2 (by rw [e1, val_nil]; rfl)
        have hbl : bs.length = (decDigits X).length := by rw [HE.out, List.length_reverse]
        have hb0 : 0 < bs.length := by have := HL.out; omega
        have hb1 : bs.length ≤ 100000 := by have := HL.out; omega
        obtain ⟨gb, cb, hv, _, gl, cl, cm⟩ := own_shape1 hob hb0
        subst hv
        obtain ⟨n, hnn⟩ : ∃ n, bs.length = n := ⟨_, rfl⟩
        rw [hnn] at hob hb0 hb1 cl
        rw [hnn]
        have HOB := hid hob
        have HB := hid hb
        have HNN := hid hnn
        clear hob hb HR hbl h0 hnn
        obtain ⟨u0, hu0⟩ : ∃ u0 : World, u0 = wr := ⟨_, rfl⟩
        subst hu0
        go_wp2_with (at_make; refine wpList_make_full _ rfl _ _ 54 rfl u0.heap.size 5 i0 (.int .u8 0) 1 Tryd.underlying54 hi hz0 hz1 _ _ _ _ n rfl rfl (by omega) (by omega) (by rw [hz2]; omega) (by unfold maxLen; omega) (Nat.le_refl _) ?_)
        intro w1 hown hgrow
        have hbel : Below u0.heap.size u0 w1 := (Below.refl _ _).grown hgrow (Nat.le_refl _) (fun k hk => by simp at hk)
        have HO : Hid (OwnB w1 u0.heap.size u0.heap.size n (List.replicate n 0)) := by
          have e := hown
          rw [made_bytes] at e
          exact e
        clear hown hgrow
        go_wp2_with fail
        go_loopw [8] (fun t w2 => ∃ (k : Nat) (l : List UInt8), k ≤ n ∧ t = .int .i64 k ∧ Hid (∀ j, j < k → l[j]?.getD 0 = bs[n - 1 - j]?.getD 0) ∧ OwnB w2 u0.heap.size u0.heap.size n l ∧ Below u0.heap.size u0 w2) (fun t _ => n - (Go.RowKit.intOf t).toNat)
        case atStart => exact ⟨0, _, by omega, rfl, fun j hj => by omega, HO.out, hbel⟩
        case round =>
          obtain ⟨k, l, hk, rfl, HJ, ho, hb2⟩ := hrel
          by_cases hlt : k < n
          · have x1 : u0.cell? ⟨gb, n - 1 - k, none⟩ = some (.int .u8 ((bs[n - 1 - k]?.getD 0).toNat : Int)) := ownB_cell HOB.out _ (by omega)
            have x2 : wr.cell? ⟨gb, n - 1 - k, none⟩ = some (.int .u8 ((bs[n - 1 - k]?.getD 0).toNat : Int)) := (hb2.cell (p := ⟨gb, n - 1 - k, none⟩) gl).trans x1
            have him : (n : Int) - 1 - (k : Int) = ((n - 1 - k : Nat) : Int) := by omega
            have hll := ho.len
            have y1 := ownB_cell ho k hlt
            have f1 : wr.frozen? ⟨u0.heap.size, k, none⟩ = false := World.ownsRow.frozenAt ho k
            have HJN : Hid (∀ j, j < k + 1 → (l.set k (bs[n - 1 - k]?.getD 0))[j]?.getD 0 = bs[n - 1 - j]?.getD 0) := fun j hj => by
              rw [List.getElem?_set]
              by_cases e : k = j
              · subst e; rw [if_pos rfl, if_pos (by omega)]; rfl
              · rw [if_neg e]; exact HJ.out j (by omega)
            have HON := hid (And.intro (ho.set k (bs[n - 1 - k]?.getD 0)) (hb2.setCell (p := ⟨u0.heap.size, k, none⟩) (Nat.le_refl _) (.int .u8 ((bs[n - 1 - k]?.getD 0).toNat : Int))))
            have bb : ((bs[n - 1 - k]?.getD 0).toNat : Int) ≤ 255 := by have := UInt8.toNat_lt (bs[n - 1 - k]?.getD 0); omega
            obtain ⟨B, hB⟩ : ∃ B, bs[n - 1 - k]?.getD 0 = B := ⟨_, rfl⟩
            rw [hB] at x2 HJN HON bb
            obtain ⟨m, hm⟩ : ∃ m, n - 1 - k = m := ⟨_, rfl⟩
            rw [hm] at x2 him
            have hmn : m < n := by omega
            have hmc : m < cb := by omega
            clear x1 hll ho hb2 HJ hB hm
            go_wp2_with fail
            go_roundw
            case rel => exact ⟨k + 1, l.set k B, by omega, by go_num, HJN, HON.out.1, HON.out.2⟩
            case measure => simp [Go.RowKit.intOf]; omega
          · obtain rfl : k = n := by omega
            have hll := ho.len
            have hlr : l = bs.reverse := by
              refine List.ext_getElem? fun j => ?_
              by_cases hj : j < k
              · have e1 := HJ.out j hj
                rw [List.getElem?_eq_getElem (by omega), List.getElem?_eq_getElem (by have := HNN.out; omega)] at e1
                rw [List.getElem?_eq_getElem (by omega), List.getElem?_reverse (by have := HNN.out; omega), HNN.out, List.getElem?_eq_getElem (by have := HNN.out; omega)]
                exact congrArg some e1
              · rw [List.getElem?_eq_none (by omega), List.getElem?_eq_none (by rw [List.length_reverse]; have := HNN.out; omega)]
            have hback : (convert 54 9 (.slice (some ⟨u0.heap.size, 0, none⟩) k k)).run Tryd.prog wr = .ok (.string ⟨(decDigits X).toArray⟩) wr := by
              rw [run_convert_bytes_string wr 54 9 5 _ _ _ Tryd.underlying54 Tryd.underlying5 Tryd.underlying9]
              rw [run_bytesToString wr ⟨u0.heap.size, 0, none⟩ k k (l.map fun b => (b.toNat : Int)) ?_, text_of_bytes, hlr, ← HE.out]
              have e2 := run_loadCells_list (P := Tryd.prog) wr ⟨u0.heap.size, 0, none⟩ (bI l) (fun j v hv => by
                have hj : j < k := by
                  by_cases c : j < k
                  · exact c
                  · rw [List.getElem?_eq_none (by unfold bI; rw [List.length_map]; omega)] at hv; simp at hv
                have := World.ownsRow.cellAt ho j (by omega)
                rw [hv] at this
                rw [Addr.add_lit, Nat.zero_add]
                exact this)
              have e3 : (bI l).length = k := by unfold bI; rw [List.length_map]; omega
              rw [e3] at e2
              have e4 : (l.map fun b => (b.toNat : Int)).map (Value.int .u8) = bI l := by unfold bI; rw [List.map_map]; rfl
              rw [e4]
              exact e2
            have HBF := hid (bt HB.out hb2)
            clear ho hb2 HJ hlr
            go_wp2_with fail
            go_ret
            exact ⟨rfl, HBF.out⟩
      · have hz : (0 : Int) < (us.length : Int) := by omega
        have HSM := hid (refSmall_any _ _ _ us 1000000000 wr HR.out.1.reads (by omega) (by omega))
        have HOB := hid hob
        have HB := hid hb
        have hu1 : 0 < us.length := by omega
        clear hob hb h0
        obtain ⟨u0, hu0⟩ : ∃ u0 : World, u0 = wr := ⟨_, rfl⟩
        subst hu0
        go_wp2_with fail
        refine Calls.mono HSM.out ?_
        rintro e w2 ⟨v2, zs, r, rfl, o2, wz, tz, hv, r0, r1, hb2⟩
        obtain ⟨aq, cq, hs⟩ := own_slice' o2
        subst hs
        have lz : zs.length ≤ 8192 := by
          have := len_of_lt wz tz (L := us.length) (by
            have h1 := val_lt HR.out.1.wd
            have h2 := val_nonneg wz
            omega)
          omega
        obtain ⟨R, hR⟩ := Int.eq_ofNat_of_zero_le r0
        subst hR
        have hZn := val_nonneg wz
        obtain ⟨Z, hZ⟩ := Int.eq_ofNat_of_zero_le hZn
        have hVZ : (val us).toNat = Z * 10 ^ 9 + R := by rw [hv, hZ]; omega
        have HMS : Hid (Z < (val us).toNat) := by
          show _ < _
          have h1 := val_ge HR.out.1.wd HR.out.2.1 hu1
          have h2 := pw_pos (us.length - 1)
          omega
        have HLF : Hid (Left X (Z * 10 ^ (9 - 0) + R) bs) := by have e := HR.out.2.2.2; rw [hVZ] at e; exact e
        have HK := hid HR.out.2.2.1
        have HZ := hid (And.intro hZ (And.intro wz tz))
        have HQ := hid o2
        have HO2 := hid (owns_later HOB.out hb2)
        have HB2 := hid (bt HB.out hb2)
        have hR9 : R < 10 ^ 9 := by omega
        have HR9 : Hid (R < 10 ^ (9 - 0)) := hR9
        have hsz := hb2.size
        have hsz0 := HB.out.size
        clear o2 hv hb2 HR HSM HOB hVZ r0 r1 hZ wz tz hZn hR9
        go_wp2_with fail
        go_loopw [3, 5, 6] (fun s3 s5 s6 w3 => ∃ (i r : Nat) (bs : List UInt8), i ≤ 9 ∧ s6 = .int .i64 i ∧ s5 = .int .u32 (r : Int) ∧ Hid (r < 10 ^ (9 - i)) ∧ Hid (Left X (Z * 10 ^ (9 - i) + r) bs) ∧ w3.ownsRow w.heap.size 5 1 s3 bs.length (bI bs) ∧ w3.ownsRow u0.heap.size 47 1 (.slice aq zs.length cq) zs.length (zs.map (Value.int .u32)) ∧ Below w.heap.size w w3) (fun _ _ s6 _ => 9 - (Go.RowKit.intOf s6).toNat)
        case atStart => exact ⟨0, R, bs, by omega, rfl, rfl, HR9, HLF, HO2.out, HQ.out, HB2.out⟩
        case round =>
          clear HR9 HLF HO2 HQ HB2
          obtain ⟨i, r, cs, hi9, rfl, rfl, HRI, HLI, hoc, hoq, hb⟩ := hrel
          have hr10 : r ≤ 1000000000 := by
            have h1 := HRI.out
            have h2 : 10 ^ (9 - i) ≤ 10 ^ 9 := Nat.pow_le_pow_right (by decide) (by omega)
            omega
          have hstop : (i = 9 ∨ (zs.length = 0 ∧ r = 0)) → Z * 10 ^ (9 - i) + r = Z := by
            rintro (e | ⟨e1, e2⟩)
            · subst e
              have := HRI.out
              simp at this ⊢
              omega
            · have e3 : zs = [] := List.eq_nil_of_length_eq_zero e1
              have e4 := HZ.out.1
              rw [e3, val_nil] at e4
              have : Z = 0 := by omega
              rw [this, e2]; simp
          have hgo : i < 9 → (0 < zs.length ∨ 0 < r) → 0 < Z * 10 ^ (9 - i) + r := by
            rintro _ (e | e)
            · have h1 := val_ge HZ.out.2.1 HZ.out.2.2 e
              have h2 := pw_pos (zs.length - 1)
              have h3 := HZ.out.1
              have : 0 < Z := by omega
              have : 0 < Z * 10 ^ (9 - i) := Nat.mul_pos this (Nat.pow_pos (by decide))
              omega
            · omega
          have HST := hid hstop
          have HGO := hid hgo
          clear hstop hgo
          have hcl : cs.length ≤ 100000 := by have := HLI.out.len; have := HL.out; omega
          have hbs := hb.size
          by_cases c9 : i < 9
          · by_cases cz : 0 < zs.length
            · have cz' : (0 : Int) < (zs.length : Int) := by omega
              have hV := HGO.out c9 (.inl cz)
              obtain ⟨j, hj⟩ : ∃ j, 9 - i = j + 1 := ⟨8 - i, by omega⟩
              have hls := low_step Z r j
              have hst := HLI.out.step hV
              rw [hj, hls.1, hls.2] at hst
              have HLN : Hid (Left X (Z * 10 ^ (9 - (i + 1)) + r / 10) (cs ++ [UInt8.ofNat (48 + r % 10)])) := by rw [show 9 - (i + 1) = j by omega]; exact hst
              have HRN : Hid (r / 10 < 10 ^ (9 - (i + 1))) := by
                show _ < _
                have h1 := HRI.out
                rw [hj, Nat.pow_succ] at h1
                rw [show 9 - (i + 1) = j by omega]
                omega
              have hdv : ((r : Int) / 10) = ((r / 10 : Nat) : Int) := by omega
              have hmd : ((r : Int) % 10) = ((r % 10 : Nat) : Int) := by omega
              have hm10 : r % 10 < 10 := by omega
              have HBV := hid (byte_val (48 + r % 10) (by omega))
              have HMM : Hid (bI (cs ++ [UInt8.ofNat (48 + r % 10)]) = bI cs ++ [.int .u8 (48 + (r % 10 : Nat) : Int)]) := by
                show _ = _
                unfold bI
                rw [List.map_append]
                congr 1
                show [Value.int .u8 _] = _
                rw [HBV.out]
                rfl
              obtain ⟨d, hd⟩ : ∃ d, r % 10 = d := ⟨_, rfl⟩
              rw [hd] at hmd hm10 HMM HLN
              obtain ⟨e', he'⟩ : ∃ e', r / 10 = e' := ⟨_, rfl⟩
              rw [he'] at hdv HRN HLN
              have hne := owns_unlike hoq hoc (by decide)
              obtain ⟨RR, hRR⟩ : ∃ RR, RR = bI cs := ⟨_, rfl⟩
              obtain ⟨nc, hnc⟩ : ∃ nc, cs.length = nc := ⟨_, rfl⟩
              rw [← hRR, hnc] at hoc
              rw [← hRR] at HMM
              have HNC := hid hnc
              have HQ := hid hoq
              have HNE := hid hne
              rw [hnc] at hcl
              clear hRR hls hst hj hV hd he' hnc hoq hne HLI HRI HST HGO HBV
              go_wp2_with (at_builtin; refine wpList_append_own _ rfl _ _ 54 rfl w.heap.size 5 i0 (.int .u8 0) 1 1 Tryd.underlying54 hi hz0 hz1 hz2 rfl (by decide) _ _ _ rfl (hoc.alloc _) ⟨wr.heap.size, 0, none⟩ 1 1 [.int .u8 (48 + (d : Int))] rfl rfl (cell_one_new _ _ _) (by simp [Value.oneCell']) (by unfold maxLen; omega) (by omega) (by simp; omega) ?_)
              intro v' w4 ho4 hg4 _
              have HO4 : Hid (w4.ownsRow w.heap.size 5 1 v' (cs ++ [UInt8.ofNat (48 + d)]).length (bI (cs ++ [UInt8.ofNat (48 + d)]))) := by
                show World.ownsRow _ _ _ _ _ _ _
                rw [HMM.out, List.length_append, HNC.out]
                exact ho4
              have HQ4 := hid (World.ownsRow.kept (HQ.out.alloc _) hg4 HNE.out)
              have HB4 : Hid (Below w.heap.size w w4) := (hb.alloc (by omega) _).grown hg4 (by simp; omega) (fun g hg => (hoc.lt g hg).1)
              clear ho4 hg4 hoc hb HQ HNE HMM
              go_wp2_with fail
              go_roundw
              case rel => exact ⟨i + 1, e', _, by omega, by go_num, by go_num, HRN, HLN, HO4.out, HQ4.out, HB4.out⟩
              case measure => simp [Go.RowKit.intOf]; omega
            · have cz' : ¬ (0 : Int) < (zs.length : Int) := by omega
              by_cases cr : 0 < r
              · have cr' : (0 : Int) < (r : Int) := by omega
                have hV := HGO.out c9 (.inr cr)
                obtain ⟨j, hj⟩ : ∃ j, 9 - i = j + 1 := ⟨8 - i, by omega⟩
                have hls := low_step Z r j
                have hst := HLI.out.step hV
                rw [hj, hls.1, hls.2] at hst
                have HLN : Hid (Left X (Z * 10 ^ (9 - (i + 1)) + r / 10) (cs ++ [UInt8.ofNat (48 + r % 10)])) := by rw [show 9 - (i + 1) = j by omega]; exact hst
                have HRN : Hid (r / 10 < 10 ^ (9 - (i + 1))) := by
                  show _ < _
                  have h1 := HRI.out
                  rw [hj, Nat.pow_succ] at h1
                  rw [show 9 - (i + 1) = j by omega]
                  omega
                have hdv : ((r : Int) / 10) = ((r / 10 : Nat) : Int) := by omega
                have hmd : ((r : Int) % 10) = ((r % 10 : Nat) : Int) := by omega
                have hm10 : r % 10 < 10 := by omega
                have HBV := hid (byte_val (48 + r % 10) (by omega))
                have HMM : Hid (bI (cs ++ [UInt8.ofNat (48 + r % 10)]) = bI cs ++ [.int .u8 (48 + (r % 10 : Nat) : Int)]) := by
                  show _ = _
                  unfold bI
                  rw [List.map_append]
                  congr 1
                  show [Value.int .u8 _] = _
                  rw [HBV.out]
                  rfl
                obtain ⟨d, hd⟩ : ∃ d, r % 10 = d := ⟨_, rfl⟩
                rw [hd] at hmd hm10 HMM HLN
                obtain ⟨e', he'⟩ : ∃ e', r / 10 = e' := ⟨_, rfl⟩
                rw [he'] at hdv HRN HLN
                have hne := owns_unlike hoq hoc (by decide)
                obtain ⟨RR, hRR⟩ : ∃ RR, RR = bI cs := ⟨_, rfl⟩
                obtain ⟨nc, hnc⟩ : ∃ nc, cs.length = nc := ⟨_, rfl⟩
                rw [← hRR, hnc] at hoc
                rw [← hRR] at HMM
                have HNC := hid hnc
                have HQ := hid hoq
                have HNE := hid hne
                rw [hnc] at hcl
                clear hRR hls hst hj hV hd he' hnc hoq hne HLI HRI HST HGO HBV
                go_wp2_with (at_builtin; refine wpList_append_own _ rfl _ _ 54 rfl w.heap.size 5 i0 (.int .u8 0) 1 1 Tryd.underlying54 hi hz0 hz1 hz2 rfl (by decide) _ _ _ rfl (hoc.alloc _) ⟨wr.heap.size, 0, none⟩ 1 1 [.int .u8 (48 + (d : Int))] rfl rfl (cell_one_new _ _ _) (by simp [Value.oneCell']) (by unfold maxLen; omega) (by omega) (by simp; omega) ?_)
                intro v' w4 ho4 hg4 _
                have HO4 : Hid (w4.ownsRow w.heap.size 5 1 v' (cs ++ [UInt8.ofNat (48 + d)]).length (bI (cs ++ [UInt8.ofNat (48 + d)]))) := by
                  show World.ownsRow _ _ _ _ _ _ _
                  rw [HMM.out, List.length_append, HNC.out]
                  exact ho4
                have HQ4 := hid (World.ownsRow.kept (HQ.out.alloc _) hg4 HNE.out)
                have HB4 : Hid (Below w.heap.size w w4) := (hb.alloc (by omega) _).grown hg4 (by simp; omega) (fun g hg => (hoc.lt g hg).1)
                clear ho4 hg4 hoc hb HQ HNE HMM
                go_wp2_with fail
                go_roundw
                case rel => exact ⟨i + 1, e', _, by omega, by go_num, by go_num, HRN, HLN, HO4.out, HQ4.out, HB4.out⟩
                case measure => simp [Go.RowKit.intOf]; omega
              · have cr' : ¬ (0 : Int) < (r : Int) := by omega
                have he := HST.out (.inr ⟨by omega, by omega⟩)
                rw [he] at HLI
                have HN : Hid (Sl wr (.slice aq zs.length cq) zs ∧ Trimmed zs ∧ Z = (val zs).toNat ∧ Left X (val zs).toNat cs) := by
                  have e1 := HZ.out.1
                  have e2 : (val zs).toNat = Z := by omega
                  exact ⟨Sl.own hoq HZ.out.2.1, HZ.out.2.2, e2.symm, by rw [e2]; exact HLI.out⟩
                have HOC := hid (And.intro hoc hb)
                clear hoc hoq hb HLI HRI HST HGO he
                go_wp2_with fail
                go_roundg Z
                case rel => exact ⟨aq, cq, zs, cs, rfl, lz, HN, HOC.out.1, HOC.out.2⟩
                case measure => have := HMS.out; have := HK.out; omega
          · have he := HST.out (.inl (by omega))
            rw [he] at HLI
            have HN : Hid (Sl wr (.slice aq zs.length cq) zs ∧ Trimmed zs ∧ Z = (val zs).toNat ∧ Left X (val zs).toNat cs) := by
              have e1 := HZ.out.1
              have e2 : (val zs).toNat = Z := by omega
              exact ⟨Sl.own hoq HZ.out.2.1, HZ.out.2.2, e2.symm, by rw [e2]; exact HLI.out⟩
            have HOC := hid (And.intro hoc hb)
            clear hoc hoq hb HLI HRI HST HGO he
            go_wp2_with fail
            go_roundg Z
            case rel => exact ⟨aq, cq, zs, cs, rfl, lz, HN, HOC.out.1, HOC.out.2⟩
            case measure => have := HMS.out; have := HK.out; omega
end Go.Proofs.YtgimgagnfkinmaaDoor

/- The document's own reading of digits: slackwaterref01.Read: of every text. -/
namespace Go.Proofs.YtgimgagnfkinmaaDoor
open Go.RowKit
set_option linter.unusedVariables false

theorem ten_step (us vs : List Int) (k : Nat) (cc z c' D : Int) (hk : k < vs.length) (hu : vs[k]?.getD 0 = us[k]?.getD 0) (ht : z + c' * 4294967296 = us[k]?.getD 0 * 10 + cc) (h : valTo vs k + cc * 4294967296 ^ k = valTo us k * 10 + D) :
    valTo (vs.set k z) (k + 1) + c' * 4294967296 ^ (k + 1) = valTo us (k + 1) * 10 + D := by
  rw [valTo_set vs k z hk, valTo_succ, pw_succ]
  generalize (4294967296 : Int) ^ k = P at *
  generalize us[k]?.getD 0 = u at *
  grind
theorem valTo_high (us : List Int) (m : Nat) (h : ∀ j, m ≤ j → us[j]?.getD 0 = 0) : valTo us m = val us := by
  have e : ∀ d, valTo us (m + d) = valTo us m := fun d => by
    induction d with
    | zero => rfl
    | succ d ih => rw [← Nat.add_assoc, valTo_succ, h (m + d) (by omega), ih]; omega
  rw [← e us.length, valTo_stable us _ (by omega)]
theorem ten_lt (i : Nat) : (10 : Int) ^ (i + 1) ≤ 4294967296 ^ (i / 9 + 1) := by
  have h1 : 10 ^ (i + 1) ≤ 10 ^ (9 * (i / 9 + 1)) := Nat.pow_le_pow_right (by decide) (by omega)
  have h2 : 10 ^ (9 * (i / 9 + 1)) = (10 ^ 9) ^ (i / 9 + 1) := Nat.pow_mul ..
  have h3 : (10 ^ 9) ^ (i / 9 + 1) ≤ 4294967296 ^ (i / 9 + 1) := Nat.pow_le_pow_left (by decide) _
  have h4 := Int.ofNat_le.2 (Nat.le_trans (h2 ▸ h1) h3)
  rw [Int.natCast_pow, Int.natCast_pow] at h4
  exact h4
theorem ten_end {vs : List Int} (hw : Wd vs) (n : Nat) (c V : Int) (h0 : 0 ≤ c) (h1 : V < 4294967296 ^ n) (h : valTo vs n + c * 4294967296 ^ n = V) : valTo vs n = V := by
  have b := valTo_bounds hw n
  have hp := pw_pos n
  have hc : c = 0 := by
    by_cases z : c = 0
    · exact z
    · have e1 : 1 * 4294967296 ^ n ≤ c * 4294967296 ^ n := Int.mul_le_mul_of_nonneg_right (by omega) (by omega)
      omega
  rw [hc] at h
  omega

set_option maxHeartbeats 6400000 in
set_option maxRecDepth 100000 in
theorem refRead_yes (s : ByteArray) (w : World) (hs : s.size ≤ 65536) (hn : IsNum s.data.toList) :
    Calls Tryd.prog 44 #[.string s] w fun e w' => ∃ v zs, e = .returned (.tuple #[v, .bool true]) ∧ w'.ownsRow w.heap.size 47 1 v zs.length (zs.map (Value.int .u32)) ∧ Wd zs ∧ Trimmed zs ∧ val zs = numTo s.data.toList s.size ∧ Below w.heap.size w w' := by
  obtain ⟨i0, hi, hz0, hz1, hz2⟩ := info_parts Tryd.infoW
  have hl := size_list s
  have hp : 0 < s.size := by have := hn.1; omega
  have HD : Hid (∀ k (h : k < s.size), 48 ≤ (s[k].toNat : Int) ∧ (s[k].toNat : Int) ≤ 57) := fun k h => hn.2.2 _ (List.mem_of_getElem? (byte_at s k h))
  have HDG := hid hn.2.2
  have b0 := byte_at s 0 hp
  have hpz : ((s.size : Int) == 0) = false := beq_eq_false_iff_ne.2 (by omega)
  have hc : (1 < s.size ∧ ((s[0].toNat : Int) == 48) = false) ∨ ¬ 1 < s.size := by
    by_cases c1 : 1 < s.size
    · left
      refine ⟨c1, ?_⟩
      simp
      intro e
      have e48 : s[0] = 48 := UInt8.toNat_inj.1 (by show s[0].toNat = 48; omega)
      have := hn.2.1 (by rw [b0, e48]; rfl)
      omega
    · exact .inr c1
  obtain ⟨Q, hQ1, hQ2⟩ : ∃ Q : Nat, 9 * Q ≤ s.size ∧ s.size < 9 * Q + 9 := ⟨s.size / 9, by omega, by omega⟩
  have hq : (s.size : Int) / 9 = (Q : Int) := by omega
  have HSZ := hid hl
  clear hn b0 hl
  have key : ∀ P : Prop, (1 < s.size ∧ ((s[0].toNat : Int) == 48) = false → P) → (¬ 1 < s.size → P) → P := fun P h1 h2 => hc.elim h1 h2
  clear hc
  refine key _ ?_ ?_
  all_goals
    clear key
    intro hc
    try obtain ⟨hc, c0b⟩ := hc
    go_enter Tryd.func44, Tryd.ntmps44
    go_wp2_with fail
    go_loop [4] (fun t => ∃ k : Nat, k ≤ s.size ∧ t = .int .i64 k) (fun t => s.size - (intOf t).toNat)
    case atStart => exact ⟨0, by omega, rfl⟩
    case round =>
      obtain ⟨k, hk, rfl⟩ := hrel
      by_cases hlt : k < s.size
      · have bk := HD.out k hlt
        have d1 : ¬ (s[k].toNat : Int) < 48 := by omega
        have d2 : ¬ 57 < (s[k].toNat : Int) := by omega
        go_wp2_with fail
        go_round
        case rel => exact ⟨k + 1, by omega, by go_num⟩
        case measure => simp [intOf]; omega
      · go_wp2_with (at_make; refine wpList_make_full _ rfl _ _ 22 rfl w.heap.size 47 i0 (.int .u32 0) 1 Tryd.underlying22 hi hz0 hz1 _ _ _ _ (Q + 1) rfl rfl (by omega) (by omega) (by rw [hz2]; omega) (by unfold maxLen; omega) (Nat.le_refl _) ?_)
        intro w1 hown hgrow
        have hbel : Below w.heap.size w w1 := (Below.refl _ _).grown hgrow (Nat.le_refl _) (fun k hk => by simp at hk)
        have HO := hid (OwnW.made hown)
        clear hown hgrow
        go_wp2_with fail
        clear hq
        go_loopw [6] (fun t wr => ∃ (i : Nat) (us : List Int), i ≤ s.size ∧ t = .int .i64 i ∧ Wd us ∧ Hid (val us = numTo s.data.toList i) ∧ Hid (∀ j, i / 9 + 1 ≤ j → us[j]?.getD 0 = 0) ∧ OwnW wr w.heap.size w.heap.size (Q + 1) us ∧ Below w.heap.size w wr) (fun t _ => s.size - (intOf t).toNat)
        case atStart =>
          refine ⟨0, _, by omega, rfl, Wd.replicate _, ?_, fun j _ => ?_, HO.out, hbel⟩
          · show _ = _
            rw [← valTo_high _ 0 (fun j _ => by rw [List.getElem?_replicate]; split <;> rfl)]; rfl
          · rw [List.getElem?_replicate]; split <;> rfl
        case round =>
          obtain ⟨i, us, hik, rfl, hwu, HV, HZ, ho, hb⟩ := hrel
          by_cases hlt2 : i < s.size
          · have bk := HD.out i hlt2
            obtain ⟨D, hD⟩ : ∃ D, (s[i].toNat : Int) - 48 = D := ⟨_, rfl⟩
            have D0 : 0 ≤ D ∧ D ≤ 9 := by omega
            obtain ⟨M, hM1, hM2⟩ : ∃ M : Nat, 9 * M ≤ i ∧ i < 9 * M + 9 := ⟨i / 9, by omega, by omega⟩
            have hm : (i : Int) / 9 = (M : Int) := by omega
            have HM : Hid (i / 9 = M) := by show _ = _; omega
            have HNX : Hid (numTo s.data.toList (i + 1) = numTo s.data.toList i * 10 + D) := by
              show _ = _
              rw [← hD]
              show numTo s.data.toList i * 10 + (((s.data.toList[i]?.getD 48).toNat : Int) - 48) = _
              rw [byte_at s i hlt2]; rfl
            have HO1 := hid ho
            have HB1 := hid hb
            clear ho hb
            go_wp2_with fail
            go_loopw [7, 8] (fun c t wr2 => ∃ (q : Nat) (cc : Int) (vs : List Int), q ≤ M + 1 ∧ t = .int .i64 q ∧ c = .int .u64 cc ∧ 0 ≤ cc ∧ cc ≤ 9 ∧ Wd vs ∧ Hid (valTo vs q + cc * 4294967296 ^ q = valTo us q * 10 + D) ∧ Hid (∀ j, q ≤ j → vs[j]?.getD 0 = us[j]?.getD 0) ∧ OwnW wr2 w.heap.size w.heap.size (Q + 1) vs ∧ Below w.heap.size w wr2) (fun _ t _ => M + 1 - (intOf t).toNat)
            case atStart => exact ⟨0, D, us, by omega, rfl, rfl, D0.1, D0.2, hwu, show _ = _ by simp [valTo], fun _ _ => rfl, HO1.out, HB1.out⟩
            case round =>
              obtain ⟨q, cc, vs, hq', rfl, rfl, c0, c1, hwv, HV2, HK2, ho, hb⟩ := hrel
              by_cases hlt3 : q ≤ M
              · have hle : (q : Int) ≤ (M : Int) := by omega
                have y1 := ho.cell q (by omega)
                have f1 := ho.free q
                have b3 := hwv.at q
                have hlu := ho.len
                have HST := hid (fun z c' => ten_step us vs q cc z c' D (by omega) (HK2.out q (Nat.le_refl _)))
                rw [← HK2.out q (Nat.le_refl _)] at HST
                obtain ⟨u, hu⟩ : ∃ u, vs[q]?.getD 0 = u := ⟨_, rfl⟩
                rw [hu] at y1 b3 HST
                obtain ⟨t, ht⟩ : ∃ t, u * 10 + cc = t := ⟨_, rfl⟩
                have t0 : 0 ≤ t ∧ t ≤ 42949672959 := by omega
                have HSV := hid (HST.out (t % 4294967296) (t / 4294967296) (by omega) HV2.out)
                have HKN : Hid (∀ j, q + 1 ≤ j → (vs.set q (t % 4294967296))[j]?.getD 0 = us[j]?.getD 0) := fun j hj => by
                  rw [List.getElem?_set, if_neg (by omega)]
                  exact HK2.out j (by omega)
                have HOB := hid (And.intro (ho.set q (t % 4294967296)) (hb.setCell (p := ⟨w.heap.size, q, none⟩) (Nat.le_refl _) (.int .u32 (t % 4294967296))))
                clear hlu ho hb HV2 HK2 HST hu
                go_wp2_with fail
                go_roundw
                case rel => exact ⟨q + 1, t / 4294967296, vs.set q (t % 4294967296), by omega, by go_num, by go_num, by omega, by omega, hwv.set _ (by omega), HSV, HKN, HOB.out.1, HOB.out.2⟩
                case measure => simp [intOf]; omega
              · obtain rfl : q = M + 1 := by omega
                have hle : ¬ ((M + 1 : Nat) : Int) ≤ (M : Int) := by omega
                have hzu : ∀ j, M + 1 ≤ j → us[j]?.getD 0 = 0 := fun j hj => HZ.out j (by rw [HM.out]; exact hj)
                have hzv : ∀ j, M + 1 ≤ j → vs[j]?.getD 0 = 0 := fun j hj => by rw [HK2.out j hj]; exact hzu j hj
                have HVN : Hid (val vs = numTo s.data.toList (i + 1)) := by
                  show _ = _
                  have e := HV2.out
                  rw [valTo_high us (M + 1) hzu, HV.out, ← HNX.out] at e
                  rw [← valTo_high vs (M + 1) hzv]
                  have h10 := (numTo_bounds HDG.out (i + 1)).2
                  have h11 := ten_lt i
                  rw [HM.out] at h11
                  exact ten_end hwv (M + 1) cc _ c0 (by omega) e
                have HZN : Hid (∀ j, (i + 1) / 9 + 1 ≤ j → vs[j]?.getD 0 = 0) := fun j hj => hzv j (by have := HM.out; omega)
                have HOB := hid (And.intro ho hb)
                clear ho hb HV2 HK2 hzu hzv HV HZ
                go_wp2_with fail
                go_roundw
                case rel => exact ⟨i + 1, vs, by omega, by go_num, hwv, HVN, HZN, HOB.out.1, HOB.out.2⟩
                case measure => simp [intOf]; omega
          · obtain rfl : i = s.size := by omega
            have hlu := ho.len
            have HF := hid HV.out
            have HR := hid (refTrim_sl (.slice (some ⟨w.heap.size, 0, none⟩) us.length us.length) us wr (Sl.own (owns_len (show wr.ownsRow w.heap.size 47 1 (.slice (some ⟨w.heap.size, 0, none⟩) us.length us.length) us.length (us.map (Value.int .u32)) by rw [hlu]; exact ho)) hwu) (by omega))
            rw [hlu] at HR
            clear ho HV HZ
            go_wp2_with fail
            refine Calls.mono HR.out ?_
            rintro e w3 ⟨v3, rfl, o3, hb3⟩
            have HO3 := hid (owns_base (owns_len o3) hb.size)
            have hbF := bt hb hb3
            clear o3 hb3
            go_wp2_with fail
            go_ret2
            exact ⟨v3, _, rfl, HO3.out, hwu.trimmed, Trimmed.trimmed _, by rw [val_trimmed]; exact HF.out, hbF⟩
end Go.Proofs.YtgimgagnfkinmaaDoor

/- The document's told: a number, if it is not too long. -/
namespace Go.Proofs.YtgimgagnfkinmaaDoor
open Go.RowKit
set_option linter.unusedVariables false

set_option maxHeartbeats 800000 in
set_option maxRecDepth 100000 in
theorem refTold_ok (a : Option Addr) (n c : Nat) (w : World) (h : n ≤ 8192) :
    Calls Tryd.prog 34 #[.slice a n c] w fun e w' => e = .returned (.tuple #[.slice a n c, .int .i64 0]) ∧ w = w' := by
  have h' : ¬ (8192 : Int) < (n : Int) := by omega
  go_enter Tryd.func34, Tryd.ntmps34
  go_wp2_with fail
  go_ret2
  exact ⟨rfl, rfl⟩
set_option maxHeartbeats 800000 in
set_option maxRecDepth 100000 in
theorem refTold_long (a : Option Addr) (n c : Nat) (w : World) (h : 8192 < n) :
    Calls Tryd.prog 34 #[.slice a n c] w fun e w' => e = .returned (.tuple #[.slice none 0 0, .int .i64 3]) ∧ w = w' := by
  have h' : (8192 : Int) < (n : Int) := by omega
  go_enter Tryd.func34, Tryd.ntmps34
  go_wp2_with fail
  go_ret2
  exact ⟨rfl, rfl⟩
theorem trimmed_wide {zs : List Int} {t : Int} (hw : Wd zs) (ht : Trimmed zs) (hv : val zs = t) : 8192 < zs.length ↔ wide ≤ t := by
  rw [← hv, ← wide_iff hw]
  have e : sz zs = zs.length := ht
  rw [e]
end Go.Proofs.YtgimgagnfkinmaaDoor

/- The document's own texts: slackwaterref01.Read of what is no number; Print, Parse: of every number and text. -/
namespace Go.Proofs.YtgimgagnfkinmaaDoor
open Go.RowKit
set_option linter.unusedVariables false

set_option maxHeartbeats 3200000 in
set_option maxRecDepth 100000 in
theorem refRead_no (s : ByteArray) (w : World) (hs : s.size ≤ 65536) (hn : ¬ IsNum s.data.toList) :
    Calls Tryd.prog 44 #[.string s] w fun e w' => e = .returned (.tuple #[.slice none 0 0, .bool false]) ∧ w = w' := by
  have hl := size_list s
  have HL := hid hl
  have HN := hid hn
  by_cases h0 : s.size = 0
  · have hse : s = ⟨#[]⟩ := by
      obtain ⟨d⟩ := s
      have : d = #[] := Array.eq_empty_of_size_eq_zero h0
      rw [this]
    subst hse
    clear h0 hl HL HN hn hs
    go_enter Tryd.func44, Tryd.ntmps44
    go_wp2_with fail
    go_ret2
    exact ⟨rfl, rfl⟩
  · have hp : 0 < s.size := by omega
    have hpz : ((s.size : Int) == 0) = false := beq_eq_false_iff_ne.2 (by omega)
    have b0 := byte_at s 0 hp
    by_cases c1 : 1 < s.size
    · by_cases c0 : (s[0].toNat : Int) = 48
      · have c0b : ((s[0].toNat : Int) == 48) = true := by simp [c0]
        clear h0 hl HL HN hn b0 c0
        go_enter Tryd.func44, Tryd.ntmps44
        go_wp2_with fail
        go_ret2
        exact ⟨rfl, rfl⟩
      · have c0b : ((s[0].toNat : Int) == 48) = false := beq_eq_false_iff_ne.2 c0
        have H1 : Hid (s.data.toList[0]?.getD 0 = 48 → s.data.toList.length ≤ 1) := fun e => by
          rw [b0] at e
          have e : s[0] = 48 := e
          exact absurd (by rw [e]; rfl) c0
        clear h0 hl hn b0 c0
        go_enter Tryd.func44, Tryd.ntmps44
        go_wp2_with fail
        go_loop [4] (fun t => ∃ k : Nat, k ≤ s.size ∧ t = .int .i64 k ∧ Hid (∀ j : Nat, j < k → 48 ≤ ((s.data.toList[j]?.getD 0).toNat : Int) ∧ ((s.data.toList[j]?.getD 0).toNat : Int) ≤ 57)) (fun t => s.size - (intOf t).toNat)
        case atStart => exact ⟨0, by omega, rfl, fun j hj => by omega⟩
        case round =>
          obtain ⟨k, hk, rfl, HJ⟩ := hrel
          by_cases hlt : k < s.size
          · have bk := byte_at s k hlt
            by_cases d1 : (s[k].toNat : Int) < 48
            · clear bk
              go_wp2_with fail
              go_ret2
              exact ⟨rfl, rfl⟩
            · by_cases d2 : 57 < (s[k].toNat : Int)
              · clear bk
                go_wp2_with fail
                go_ret2
                exact ⟨rfl, rfl⟩
              · have HJ' : Hid (∀ j : Nat, j < k + 1 → 48 ≤ ((s.data.toList[j]?.getD 0).toNat : Int) ∧ ((s.data.toList[j]?.getD 0).toNat : Int) ≤ 57) := fun j hj => by
                  by_cases e : j = k
                  · rw [e, bk]; show 48 ≤ (s[k].toNat : Int) ∧ (s[k].toNat : Int) ≤ 57; omega
                  · exact HJ.out j (by omega)
                clear bk
                go_wp2_with fail
                go_round
                case rel => exact ⟨k + 1, by omega, by go_num, HJ'⟩
                case measure => simp [intOf]; omega
          · exfalso
            refine HN.out ⟨by have := HL.out; omega, H1.out, fun c hc => ?_⟩
            obtain ⟨j, hj, e⟩ := mem_at hc
            have := HJ.out j (by have := HL.out; omega)
            rw [e] at this
            exact this
    · have H1 : Hid (s.data.toList[0]?.getD 0 = 48 → s.data.toList.length ≤ 1) := fun _ => by omega
      clear h0 hl hn b0
      go_enter Tryd.func44, Tryd.ntmps44
      go_wp2_with fail
      go_loop [4] (fun t => ∃ k : Nat, k ≤ s.size ∧ t = .int .i64 k ∧ Hid (∀ j : Nat, j < k → 48 ≤ ((s.data.toList[j]?.getD 0).toNat : Int) ∧ ((s.data.toList[j]?.getD 0).toNat : Int) ≤ 57)) (fun t => s.size - (intOf t).toNat)
      case atStart => exact ⟨0, by omega, rfl, fun j hj => by omega⟩
      case round =>
        obtain ⟨k, hk, rfl, HJ⟩ := hrel
        by_cases hlt : k < s.size
        · have bk := byte_at s k hlt
          by_cases d1 : (s[k].toNat : Int) < 48
          · clear bk
            go_wp2_with fail
            go_ret2
            exact ⟨rfl, rfl⟩
          · by_cases d2 : 57 < (s[k].toNat : Int)
            · clear bk
              go_wp2_with fail
              go_ret2
              exact ⟨rfl, rfl⟩
            · have HJ' : Hid (∀ j : Nat, j < k + 1 → 48 ≤ ((s.data.toList[j]?.getD 0).toNat : Int) ∧ ((s.data.toList[j]?.getD 0).toNat : Int) ≤ 57) := fun j hj => by
                by_cases e : j = k
                · rw [e, bk]; show 48 ≤ (s[k].toNat : Int) ∧ (s[k].toNat : Int) ≤ 57; omega
                · exact HJ.out j (by omega)
              clear bk
              go_wp2_with fail
              go_round
              case rel => exact ⟨k + 1, by omega, by go_num, HJ'⟩
              case measure => simp [intOf]; omega
        · exfalso
          refine HN.out ⟨by have := HL.out; omega, H1.out, fun c hc => ?_⟩
          obtain ⟨j, hj, e⟩ := mem_at hc
          have := HJ.out j (by have := HL.out; omega)
          rw [e] at this
          exact this

set_option maxHeartbeats 1600000 in
set_option maxRecDepth 100000 in
theorem refPrint_any (v : Value) (xs : List Int) (w : World) (h : Sl w v xs) (hn : xs.length ≤ 281474976710656) :
    Calls Tryd.prog 10 #[v] w fun e w' => e = .returned (.tuple #[.string (if chk xs = 0 then ⟨(Lib.decDigits (val xs).toNat).toArray⟩ else ⟨#[]⟩), .int .i64 (chk xs)]) ∧ Below w.heap.size w w' := by
  have HC := hid (refCheck_sl v xs w h hn)
  by_cases hc : chk xs = 0
  · obtain ⟨lx, tx⟩ := chk_ok hc
    have HD := hid (refDigits_any v xs w h tx lx)
    rw [hc] at HC ⊢
    rw [if_pos rfl]
    generalize (⟨(Lib.decDigits (val xs).toNat).toArray⟩ : ByteArray) = S at *
    clear h hc tx lx hn
    go_enter Tryd.func10, Tryd.ntmps10
    go_wp2_with fail
    refine Calls.mono HC.out ?_
    rintro e w1 ⟨rfl, rfl⟩
    go_wp2_with fail
    refine Calls.mono HD.out ?_
    rintro e w1 ⟨rfl, hb⟩
    go_wp2_with fail
    go_ret2
    exact ⟨rfl, hb⟩
  · have hc' : (chk xs == 0) = false := by simpa using hc
    rw [if_neg hc]
    clear h hc
    go_enter Tryd.func10, Tryd.ntmps10
    go_wp2_with fail
    refine Calls.mono HC.out ?_
    rintro e w1 ⟨rfl, rfl⟩
    go_wp2_with fail
    go_ret2
    exact ⟨rfl, Below.refl _ _⟩

set_option maxHeartbeats 1600000 in
set_option maxRecDepth 100000 in
theorem refParse_any (s : ByteArray) (w : World) (hs : s.size ≤ maxLen) :
    Calls Tryd.prog 12 #[.string s] w (Told w (pErr s) (numTo s.data.toList s.size)) := by
  unfold maxLen at hs
  by_cases h1 : 65536 < s.size
  · have HT := hid (Tells.err (t := numTo s.data.toList s.size) (e := 3) (by decide))
    have HE : Hid (pErr s = 3) := by show _ = _; unfold pErr; rw [if_pos h1]
    rw [HE.out]
    have h1' : (65536 : Int) < (s.size : Int) := by omega
    clear HE h1
    go_enter Tryd.func12, Tryd.ntmps12
    go_wp2_with fail
    go_ret2
    exact ⟨_, [], 3, rfl, World.ownsRow_nil _ _ _ _, HT.out, Below.refl _ _⟩
  · have h1' : ¬ (65536 : Int) < (s.size : Int) := by omega
    by_cases hn : IsNum s.data.toList
    · have HR := hid (refRead_yes s w (by omega) hn)
      have HE : Hid (pErr s = 0) := by show _ = _; unfold pErr; rw [if_neg h1, if_pos hn]
      rw [HE.out]
      clear HE hn h1
      go_enter Tryd.func12, Tryd.ntmps12
      go_wp2_with fail
      refine Calls.mono HR.out ?_
      rintro e w2 ⟨v2, zs, rfl, o2, wz, tz, vz, hb2⟩
      obtain ⟨a2, c2, hs2⟩ := own_slice' o2
      subst hs2
      have hwd := trimmed_wide wz tz vz
      have HR := hid (And.intro o2 (And.intro wz (And.intro tz (And.intro vz hb2))))
      by_cases hlen : 8192 < zs.length
      · have HT := hid (refTold_long a2 zs.length c2 w2 hlen)
        have HL := hid (hwd.1 hlen)
        clear o2 wz tz vz hwd hb2 hlen
        go_wp2_with fail
        refine Calls.mono HT.out ?_
        rintro e w3 ⟨rfl, rfl⟩
        go_wp2_with fail
        go_ret2
        exact ⟨_, [], 3, rfl, World.ownsRow_nil _ _ _ _, Tells.tooLong HL.out, HR.out.2.2.2.2⟩
      · have HT := hid (refTold_ok a2 zs.length c2 w2 (by omega))
        have HL := hid (Int.not_le.1 fun h => hlen (hwd.2 h))
        clear o2 wz tz vz hwd hb2 hlen
        go_wp2_with fail
        refine Calls.mono HT.out ?_
        rintro e w3 ⟨rfl, rfl⟩
        go_wp2_with fail
        go_ret2
        exact ⟨_, zs, 0, rfl, HR.out.1, Tells.ok HR.out.2.1 HR.out.2.2.1 HR.out.2.2.2.1 HL.out, HR.out.2.2.2.2⟩
    · have HR := hid (refRead_no s w (by omega) hn)
      have HE : Hid (pErr s = 110) := by show _ = _; unfold pErr; rw [if_neg h1, if_neg hn]
      have HT := hid (Tells.err (t := numTo s.data.toList s.size) (e := 110) (by decide))
      rw [HE.out]
      clear HE hn h1
      go_enter Tryd.func12, Tryd.ntmps12
      go_wp2_with fail
      refine Calls.mono HR.out ?_
      rintro e w2 ⟨rfl, rfl⟩
      go_wp2_with fail
      go_ret2
      exact ⟨_, [], 110, rfl, World.ownsRow_nil _ _ _ _, HT.out, Below.refl _ _⟩
end Go.Proofs.YtgimgagnfkinmaaDoor

/- nat.takeTimes, nat.giveBack: a divisor taken off a window of words so many times, and given back once. -/
namespace Go.Proofs.YtgimgagnfkinmaaDoor
open Go.RowKit
set_option linter.unusedVariables false

theorem take_step (ds us ys : List Int) (i k : Nat) (x o T z o2 : Int) (hk : i + k < us.length) (hT : T = o + x * ds[k]?.getD 0) (hz : z - o2 * 4294967296 = us[i + k]?.getD 0 - T) (hu : us[i + k]?.getD 0 = ys[i + k]?.getD 0)
    (h : segTo us i k - o * 4294967296 ^ k = segTo ys i k - x * valTo ds k) :
    segTo (us.set (i + k) z) i (k + 1) - o2 * 4294967296 ^ (k + 1) = segTo ys i (k + 1) - x * valTo ds (k + 1) := by
  rw [segTo_set us i k _ hk, segTo_succ ys, valTo_succ, pw_succ, Int.mul_add, ← hu]
  have e1 : (z - o2 * 4294967296) * 4294967296 ^ k = (us[i + k]?.getD 0 - T) * 4294967296 ^ k := by rw [hz]
  rw [Int.sub_mul, Int.sub_mul, hT, Int.add_mul, Int.mul_assoc x, Int.mul_assoc o2, Int.mul_comm 4294967296 (4294967296 ^ k)] at e1
  omega

set_option maxHeartbeats 3200000 in
set_option maxRecDepth 100000 in
theorem takeTimes_any (base g N i m cap : Nat) (ys : List Int) (b : Option Addr) (cap' : Nat) (ds : List Int) (x : Int) (w : World) (ho : OwnW w base g N ys) (hwy : Wd ys) (him : i + m + 1 ≤ N) (hcap : cap = N - i) (hN : N ≤ 1099511627776)
    (h : Reads w base b m cap' ds) (hm : 0 < m) (hx : 0 ≤ x ∧ x ≤ 4294967295) :
    Calls Tryd.prog 113 #[.slice (some ⟨g, i, none⟩) (m + 1) cap, .slice b m cap', .int .u32 x] w fun e w' => ∃ (sh : Bool) (us : List Int), e = .returned (.bool sh) ∧ OwnW w' base g N us ∧ Wd us ∧
      (∀ j, j < i ∨ i + m + 1 ≤ j → us[j]?.getD 0 = ys[j]?.getD 0) ∧ segTo us i (m + 1) = segTo ys i (m + 1) - x * val ds + (if sh then 4294967296 ^ (m + 1) else 0) ∧ w.grownBy w' (some g) := by
  have hbase := ho.base
  rcases h.2.2.1 with h0 | ⟨b2, o2, rfl, hb2, hc2⟩
  · omega
  · have hwz := h.2.1
    have HL := hid h.1
    have HC := hid hc2
    have hcm : m + 1 ≤ cap := by omega
    have hcz : ¬ cap = 0 := by omega
    clear h hc2
    go_enter Tryd.func113, Tryd.ntmps113
    go_wp2_with fail
    go_loopw [8, 17] (fun c t wr => ∃ (k : Nat) (o : Int) (us : List Int), k ≤ m ∧ t = .int .i64 k ∧ c = .int .u64 o ∧ 0 ≤ o ∧ o ≤ 4294967296 ∧ Wd us ∧ Hid (segTo us i k - o * 4294967296 ^ k = segTo ys i k - x * valTo ds k) ∧
      Hid (∀ j, j < i ∨ i + k ≤ j → us[j]?.getD 0 = ys[j]?.getD 0) ∧ OwnW wr base g N us ∧ w.grownBy wr (some g)) (fun _ t _ => m - (intOf t).toNat)
    case atStart => exact ⟨0, 0, ys, by omega, rfl, rfl, by omega, by omega, hwy, show _ = _ by simp [segTo, valTo], fun _ _ => rfl, ho, World.grownBy.refl _ _⟩
    case round =>
      obtain ⟨k, o, us, hk, rfl, rfl, c0, c1, hwu, HV, HK, hou, hg⟩ := hrel
      have hb : Below base w wr := (Below.refl _ _).grown hg (by omega) (fun k hk => by simp at hk; omega)
      by_cases hlt : k < m
      · have x1 : wr.cell? ⟨b2, o2 + k, none⟩ = some (.int .u32 (ds[k]?.getD 0)) := (hb.cell (p := ⟨b2, o2 + k, none⟩) hb2).trans (HC.out k hlt)
        have y1 := hou.cell (i + k) (by omega)
        have f1 := hou.free (i + k)
        have bz := hwz.at k
        have bu := hwu.at (i + k)
        obtain ⟨p, hp⟩ : ∃ p, x * ds[k]?.getD 0 = p := ⟨_, rfl⟩
        have bp := prod_word x (ds[k]?.getD 0) hx bz
        rw [hp] at bp
        have hlu := hou.len
        obtain ⟨T, hT⟩ : ∃ T, o + p = T := ⟨_, rfl⟩
        obtain ⟨d, hd⟩ : ∃ d, (us[i + k]?.getD 0 - T % 4294967296) % 18446744073709551616 = d := ⟨_, rfl⟩
        have hwr : IntKind.u64.wrap (us[i + k]?.getD 0 - T % 4294967296) = d := by rw [IntKind.wrap_u64, hd]
        have T0 : 0 ≤ T ∧ T ≤ 18446744073709551615 := by omega
        have d0 : 0 ≤ d ∧ d ≤ 18446744073709551615 := by omega
        have hz : d % 4294967296 - (T / 4294967296 + d / 9223372036854775808) * 4294967296 = us[i + k]?.getD 0 - T := by omega
        have o0 : 0 ≤ T / 4294967296 + d / 9223372036854775808 ∧ T / 4294967296 + d / 9223372036854775808 ≤ 4294967296 := by omega
        have HO0 := hid o0
        have HV' := hid (take_step ds us ys i k x o T (d % 4294967296) (T / 4294967296 + d / 9223372036854775808) (by omega) (by rw [hp, hT]) hz (HK.out _ (by omega)) HV.out)
        have HK' : Hid (∀ j, j < i ∨ i + (k + 1) ≤ j → (us.set (i + k) (d % 4294967296))[j]?.getD 0 = ys[j]?.getD 0) := fun j hj => by
          rw [List.getElem?_set, if_neg (by omega)]
          exact HK.out j (by omega)
        have HO' := hid (hou.set (i + k) (d % 4294967296))
        have HB' := hid (grown_trans hg (OwnC.set (cap := N) hou (i + k) (d % 4294967296)).2)
        have hs63 : 0 ≤ d / 9223372036854775808 := by omega
        clear hlu hou hb hg HV HK hz o0
        go_wp2_with fail
        go_roundw
        case rel => exact ⟨k + 1, T / 4294967296 + d / 9223372036854775808, us.set (i + k) (d % 4294967296), by omega, by go_num, by go_num, HO0.out.1, HO0.out.2, hwu.set _ (by omega), HV', HK', HO'.out, HB'.out⟩
        case measure => simp [intOf]; omega
      · have hkm : k = m := by omega
        subst hkm
        have y1 := hou.cell (i + k) (by omega)
        have f1 := hou.free (i + k)
        have bu := hwu.at (i + k)
        have hlu := hou.len
        obtain ⟨z, hz⟩ : ∃ z, (us[i + k]?.getD 0 - o % 4294967296) % 4294967296 = z := ⟨_, rfl⟩
        have hwr : IntKind.u32.wrap (us[i + k]?.getD 0 - o % 4294967296) = z := by rw [IntKind.wrap_u32, hz]
        have z0 : 0 ≤ z ∧ z ≤ 4294967295 := by omega
        have HO' := hid (hou.set (i + k) z)
        have HB' := hid (grown_trans hg (OwnC.set (cap := N) hou (i + k) z).2)
        have HK' : Hid (∀ j, j < i ∨ i + k + 1 ≤ j → (us.set (i + k) z)[j]?.getD 0 = ys[j]?.getD 0) := fun j hj => by
          rw [List.getElem?_set, if_neg (by omega)]
          exact HK.out j (by omega)
        have HV' : Hid (segTo (us.set (i + k) z) i (k + 1) = segTo ys i (k + 1) - x * val ds + (if decide (us[i + k]?.getD 0 < o) then 4294967296 ^ (k + 1) else 0)) := by
          show _ = _
          have e := HV.out
          rw [segTo_set us i k _ (by omega), segTo_succ ys, ← HK.out (i + k) (by omega), ← valTo_stable ds k (by have := HL.out; omega), pw_succ]
          have e2 : z * 4294967296 ^ k = (us[i + k]?.getD 0 - o + (if decide (us[i + k]?.getD 0 < o) then 4294967296 else 0)) * 4294967296 ^ k := by
            congr 1
            by_cases c : us[i + k]?.getD 0 < o
            · simp only [c, decide_true, if_true]; omega
            · simp only [c, decide_false]; simp; omega
          rw [e2, Int.add_mul, Int.sub_mul]
          by_cases c : us[i + k]?.getD 0 < o
          · simp only [c, decide_true, if_true]; omega
          · simp only [c, decide_false]; simp; omega
        clear hlu hou hb hg HV HK hz
        go_wp2_with fail
        go_ret
        exact ⟨_, us.set (i + k) z, rfl, HO'.out, hwu.set _ z0, HK'.out, HV'.out, HB'.out⟩
end Go.Proofs.YtgimgagnfkinmaaDoor

/- nat.giveBack, nat.guess, nat.nextWord: one word of a quotient. -/
namespace Go.Proofs.YtgimgagnfkinmaaDoor
open Go.RowKit
set_option linter.unusedVariables false

theorem give_step (ds us ys : List Int) (i k : Nat) (c T : Int) (hk : i + k < us.length) (hT : T = c + (us[i + k]?.getD 0 + ds[k]?.getD 0)) (hu : us[i + k]?.getD 0 = ys[i + k]?.getD 0)
    (h : segTo us i k + c * 4294967296 ^ k = segTo ys i k + valTo ds k) :
    segTo (us.set (i + k) (T % 4294967296)) i (k + 1) + T / 4294967296 * 4294967296 ^ (k + 1) = segTo ys i (k + 1) + valTo ds (k + 1) := by
  rw [segTo_set us i k _ hk, segTo_succ ys, valTo_succ, pw_succ, ← hu]
  have e := carry_step (4294967296 ^ k) (T % 4294967296) (T / 4294967296) T (by omega)
  have e2 : T * 4294967296 ^ k = c * 4294967296 ^ k + (us[i + k]?.getD 0 * 4294967296 ^ k + ds[k]?.getD 0 * 4294967296 ^ k) := by
    rw [hT, Int.add_mul, Int.add_mul]
  omega

set_option maxHeartbeats 3200000 in
set_option maxRecDepth 100000 in
theorem giveBack_any (base g N i m cap : Nat) (ys : List Int) (b : Option Addr) (cap' : Nat) (ds : List Int) (w : World) (ho : OwnW w base g N ys) (hwy : Wd ys) (him : i + m + 1 ≤ N) (hcap : cap = N - i) (hN : N ≤ 1099511627776)
    (h : Reads w base b m cap' ds) (hm : 0 < m) :
    Calls Tryd.prog 114 #[.slice (some ⟨g, i, none⟩) (m + 1) cap, .slice b m cap'] w fun e w' => ∃ (c : Int) (us : List Int), e = .returned (.tuple #[]) ∧ OwnW w' base g N us ∧ Wd us ∧ (c = 0 ∨ c = 1) ∧
      (∀ j, j < i ∨ i + m + 1 ≤ j → us[j]?.getD 0 = ys[j]?.getD 0) ∧ segTo us i (m + 1) = segTo ys i (m + 1) + val ds - c * 4294967296 ^ (m + 1) ∧ w.grownBy w' (some g) := by
  have hbase := ho.base
  rcases h.2.2.1 with h0 | ⟨b2, o2, rfl, hb2, hc2⟩
  · omega
  · have hwz := h.2.1
    have HL := hid h.1
    have HC := hid hc2
    have hcm : m + 1 ≤ cap := by omega
    have hcz : ¬ cap = 0 := by omega
    clear h hc2
    go_enter Tryd.func114, Tryd.ntmps114
    go_wp2_with fail
    go_loopw [5, 12] (fun c t wr => ∃ (k : Nat) (o : Int) (us : List Int), k ≤ m ∧ t = .int .i64 k ∧ c = .int .u64 o ∧ 0 ≤ o ∧ o ≤ 1 ∧ Wd us ∧ Hid (segTo us i k + o * 4294967296 ^ k = segTo ys i k + valTo ds k) ∧
      Hid (∀ j, j < i ∨ i + k ≤ j → us[j]?.getD 0 = ys[j]?.getD 0) ∧ OwnW wr base g N us ∧ w.grownBy wr (some g)) (fun _ t _ => m - (intOf t).toNat)
    case atStart => exact ⟨0, 0, ys, by omega, rfl, rfl, by omega, by omega, hwy, show _ = _ by simp [segTo, valTo], fun _ _ => rfl, ho, World.grownBy.refl _ _⟩
    case round =>
      obtain ⟨k, o, us, hk, rfl, rfl, c0, c1, hwu, HV, HK, hou, hg⟩ := hrel
      have hb : Below base w wr := (Below.refl _ _).grown hg (by omega) (fun k hk => by simp at hk; omega)
      by_cases hlt : k < m
      · have x1 : wr.cell? ⟨b2, o2 + k, none⟩ = some (.int .u32 (ds[k]?.getD 0)) := (hb.cell (p := ⟨b2, o2 + k, none⟩) hb2).trans (HC.out k hlt)
        have y1 := hou.cell (i + k) (by omega)
        have f1 := hou.free (i + k)
        have bz := hwz.at k
        have bu := hwu.at (i + k)
        have hlu := hou.len
        obtain ⟨T, hT⟩ : ∃ T, T = o + (us[i + k]?.getD 0 + ds[k]?.getD 0) := ⟨_, rfl⟩
        have HT := hid hT
        have T0 : 0 ≤ T ∧ T ≤ 8589934591 := by omega
        have HV' := hid (give_step ds us ys i k o T (by omega) hT (HK.out _ (by omega)) HV.out)
        have HK' : Hid (∀ j, j < i ∨ i + (k + 1) ≤ j → (us.set (i + k) (T % 4294967296))[j]?.getD 0 = ys[j]?.getD 0) := fun j hj => by
          rw [List.getElem?_set, if_neg (by omega)]
          exact HK.out j (by omega)
        have HO' := hid (hou.set (i + k) (T % 4294967296))
        have HB' := hid (grown_trans hg (OwnC.set (cap := N) hou (i + k) (T % 4294967296)).2)
        clear hlu hou hb hg HV HK hT
        go_wp2_with fail
        go_roundw
        case rel => rw [← HT.out]; exact ⟨k + 1, T / 4294967296, us.set (i + k) (T % 4294967296), by omega, by go_num, by go_num, by omega, by omega, hwu.set _ (by omega), HV', HK', HO'.out, HB'.out⟩
        case measure => simp [intOf]; omega
      · have hkm : k = m := by omega
        subst hkm
        have y1 := hou.cell (i + k) (by omega)
        have f1 := hou.free (i + k)
        have bu := hwu.at (i + k)
        have hlu := hou.len
        obtain ⟨z, hz⟩ : ∃ z, (us[i + k]?.getD 0 + o) % 4294967296 = z := ⟨_, rfl⟩
        have hwr : IntKind.u32.wrap (us[i + k]?.getD 0 + o) = z := by rw [IntKind.wrap_u32, hz]
        have z0 : 0 ≤ z ∧ z ≤ 4294967295 := by omega
        obtain ⟨c, hc⟩ : ∃ c, c = (us[i + k]?.getD 0 + o) / 4294967296 := ⟨_, rfl⟩
        have HCC : Hid (c = 0 ∨ c = 1) := by show _ ∨ _; omega
        have HO' := hid (hou.set (i + k) z)
        have HB' := hid (grown_trans hg (OwnC.set (cap := N) hou (i + k) z).2)
        have HK' : Hid (∀ j, j < i ∨ i + k + 1 ≤ j → (us.set (i + k) z)[j]?.getD 0 = ys[j]?.getD 0) := fun j hj => by
          rw [List.getElem?_set, if_neg (by omega)]
          exact HK.out j (by omega)
        have HV' : Hid (segTo (us.set (i + k) z) i (k + 1) = segTo ys i (k + 1) + val ds - c * 4294967296 ^ (k + 1)) := by
          show _ = _
          have e := HV.out
          rw [segTo_set us i k _ (by omega), segTo_succ ys, ← HK.out (i + k) (by omega), ← valTo_stable ds k (by have := HL.out; omega), pw_succ]
          have e2 := carry_step (4294967296 ^ k) z c (us[i + k]?.getD 0 + o) (by omega)
          rw [Int.add_mul] at e2
          omega
        clear hlu hou hb hg HV HK hz hc
        go_wp2_with fail
        go_end0
        exact ⟨c, us.set (i + k) z, rfl, HO'.out, hwu.set _ z0, HCC.out, HK'.out, HV'.out, HB'.out⟩

/-- What a guess of a quotient's word must meet: it is not too small. -/
theorem guess_first (P h l dl u2 u1 u0 ll t : Int) (hP : 0 < P) (hh : 0 < h) (l0 : 0 ≤ l) (dl0 : 0 ≤ dl) (ll1 : ll < P) (hu0 : 0 ≤ u0 ∧ u0 ≤ 4294967295) (ht : t = u1 + u2 * 4294967296) (t0 : 0 ≤ t) :
    ll + (u0 + t * 4294967296) * P < (t / h + 1) * (dl + (l + h * 4294967296) * P) := by
  have e := Int.mul_ediv_add_emod t h
  have e1 := Int.emod_lt_of_pos t hh
  have q0 : 0 ≤ t / h := Int.ediv_nonneg t0 (by omega)
  have e2 : t + 1 ≤ (t / h + 1) * h := by rw [Int.add_mul, Int.mul_comm (t / h) h]; omega
  have e3 : (t + 1) * 4294967296 * P ≤ (t / h + 1) * h * 4294967296 * P := Int.mul_le_mul_of_nonneg_right (Int.mul_le_mul_of_nonneg_right e2 (by omega)) (by omega)
  have e4 : (t / h + 1) * (dl + (l + h * 4294967296) * P) = (t / h + 1) * dl + (t / h + 1) * (l * P) + (t / h + 1) * h * 4294967296 * P := by
    rw [Int.mul_add, Int.add_mul l, Int.mul_add, Int.mul_assoc ((t / h + 1) * h), Int.mul_assoc (t / h + 1) h, Int.mul_assoc h]; omega
  have e5 : 0 ≤ (t / h + 1) * dl := Int.mul_nonneg (by omega) dl0
  have e6 : 0 ≤ (t / h + 1) * (l * P) := Int.mul_nonneg (by omega) (Int.mul_nonneg l0 (by omega))
  have e7 : (u0 + t * 4294967296 + 1) * P ≤ (t + 1) * 4294967296 * P := Int.mul_le_mul_of_nonneg_right (by omega) (by omega)
  rw [Int.add_mul _ 1 P] at e7
  rw [e4]
  omega
/-- A guess that the next two words call too great is. -/
theorem guess_less (P h l dl t u0 ll q r : Int) (hP : 0 < P) (dl0 : 0 ≤ dl) (ll1 : ll < P) (q0 : 0 ≤ q) (hr : q * h + r = t) (hgt : u0 + r * 4294967296 < q * l) :
    ll + (u0 + t * 4294967296) * P < q * (dl + (l + h * 4294967296) * P) := by
  have e1 : u0 + t * 4294967296 + 1 ≤ q * (l + h * 4294967296) := by
    rw [Int.mul_add, ← Int.mul_assoc, ← hr, Int.add_mul]; omega
  have e2 : (u0 + t * 4294967296 + 1) * P ≤ q * (l + h * 4294967296) * P := Int.mul_le_mul_of_nonneg_right e1 (by omega)
  rw [Int.add_mul _ 1 P] at e2
  have e3 : 0 ≤ q * dl := Int.mul_nonneg q0 dl0
  rw [Int.mul_add q dl, ← Int.mul_assoc q]
  omega
/-- A guess that the next two words don't call too great is at most one too great. -/
theorem guess_most (P h l dl t u0 ll q r : Int) (hP : 0 < P) (dl0 : 0 ≤ dl) (dl1 : dl < P) (ll0 : 0 ≤ ll) (hh : 1 ≤ h) (l0 : 0 ≤ l) (q0 : 0 ≤ q) (q1 : q ≤ 4294967295) (hr : q * h + r = t) (hle : q * l ≤ u0 + r * 4294967296) :
    q * (dl + (l + h * 4294967296) * P) ≤ (ll + (u0 + t * 4294967296) * P) + (dl + (l + h * 4294967296) * P) := by
  have e1 : q * (l + h * 4294967296) ≤ u0 + t * 4294967296 := by
    rw [Int.mul_add, ← Int.mul_assoc, ← hr, Int.add_mul]; omega
  have e2 : q * (l + h * 4294967296) * P ≤ (u0 + t * 4294967296) * P := Int.mul_le_mul_of_nonneg_right e1 (by omega)
  have e3 : q * dl ≤ 4294967296 * P := by
    have a1 : q * dl ≤ q * P := Int.mul_le_mul_of_nonneg_left (by omega) q0
    have a2 : q * P ≤ 4294967296 * P := Int.mul_le_mul_of_nonneg_right (by omega) (by omega)
    omega
  have e4 : 4294967296 * P ≤ (l + h * 4294967296) * P := Int.mul_le_mul_of_nonneg_right (by omega) (by omega)
  rw [Int.mul_add q dl, ← Int.mul_assoc q]
  omega
end Go.Proofs.YtgimgagnfkinmaaDoor

/- nat.guess, nat.nextWord: one word of a quotient. -/
namespace Go.Proofs.YtgimgagnfkinmaaDoor
open Go.RowKit
set_option linter.unusedVariables false

theorem bdn {B : Nat} {a w : World} (h : Below B a w) (n : Nat) : Below B a (w.drewN n) := h.trans ⟨rfl, rfl, rfl, Nat.le_refl _, fun _ _ => rfl⟩
theorem seg_three (ys : List Int) (i e : Nat) : segTo ys i (e + 3) = segTo ys i e + (ys[i + e]?.getD 0 + (ys[i + (e + 1)]?.getD 0 + ys[i + (e + 2)]?.getD 0 * 4294967296) * 4294967296) * 4294967296 ^ e := by
  rw [segTo_succ, segTo_succ, segTo_succ, pw_succ (e + 1), pw_succ e]
  generalize ys[i + (e + 2)]?.getD 0 = u2
  generalize ys[i + (e + 1)]?.getD 0 = u1
  generalize ys[i + e]?.getD 0 = u0
  generalize (4294967296 : Int) ^ e = P
  have e1 : u2 * (P * 4294967296 * 4294967296) = u2 * 4294967296 * 4294967296 * P := by rw [Int.mul_assoc P, Int.mul_comm P, ← Int.mul_assoc, ← Int.mul_assoc]
  have e2 : u1 * (P * 4294967296) = u1 * 4294967296 * P := by rw [Int.mul_comm P, ← Int.mul_assoc]
  rw [e1, e2, Int.add_mul u0, Int.add_mul u1, Int.add_mul (u1 * 4294967296)]
  omega
theorem val_two_top (ds : List Int) (e : Nat) (h : ds.length = e + 2) : val ds = valTo ds e + (ds[e]?.getD 0 + ds[e + 1]?.getD 0 * 4294967296) * 4294967296 ^ e := by
  unfold val
  rw [h, valTo_succ, valTo_succ, pw_succ, Int.add_mul, Int.mul_assoc (ds[e + 1]?.getD 0), Int.mul_comm 4294967296 (4294967296 ^ e)]
  omega
theorem segTo_bounds {xs : List Int} (hw : Wd xs) (i : Nat) : ∀ k, 0 ≤ segTo xs i k ∧ segTo xs i k < 4294967296 ^ k
  | 0 => ⟨Int.le_refl _, by simp [segTo]⟩
  | k + 1 => by
    obtain ⟨h0, h1⟩ := segTo_bounds hw i k
    obtain ⟨z0, z1⟩ := hw.at (i + k)
    have hp := pw_pos k
    rw [segTo_succ, pw_succ]
    have e1 : 0 ≤ xs[i + k]?.getD 0 * 4294967296 ^ k := Int.mul_nonneg z0 (Int.le_of_lt hp)
    have e2 : xs[i + k]?.getD 0 * 4294967296 ^ k ≤ 4294967295 * 4294967296 ^ k := Int.mul_le_mul_of_nonneg_right z1 (Int.le_of_lt hp)
    omega

/-- The two highest words bound the rest of a guess. -/
theorem guess_top (P H Lo dl ll t u0 : Int) (hP : 0 < P) (dl1 : dl < P) (ll0 : 0 ≤ ll) (hu : 0 ≤ u0) (h : ll + (u0 + t * 4294967296) * P < 4294967296 * (dl + (Lo + H * 4294967296) * P)) : t ≤ Lo + H * 4294967296 := by
  by_cases c : t ≤ Lo + H * 4294967296
  · exact c
  · have e1 : (Lo + H * 4294967296 + 1) * 4294967296 * P ≤ (u0 + t * 4294967296) * P := Int.mul_le_mul_of_nonneg_right (by omega) (by omega)
    have e2 : (Lo + H * 4294967296 + 1) * 4294967296 * P = 4294967296 * ((Lo + H * 4294967296) * P) + 4294967296 * P := by
      rw [Int.mul_comm (Lo + H * 4294967296 + 1), Int.mul_assoc, Int.add_mul, Int.one_mul, Int.mul_add]
    rw [Int.mul_add] at h
    omega
theorem guess_break (H Lo t q r : Int) (h0 : 0 < H) (hr : q * H + r = t) (ht : t ≤ Lo + H * 4294967296) (hb : 4294967296 ≤ r) (hl : Lo ≤ 4294967295) : q ≤ 4294967295 := by
  have e : q * H < 4294967296 * H := by omega
  have := Int.lt_of_mul_lt_mul_right e (by omega)
  omega
theorem guess_down (D q L : Int) (hD : 0 ≤ D) (hq : 4294967296 ≤ q) (h : L < 4294967296 * D) : L < (q - 1 + 1) * D := by
  have : 4294967296 * D ≤ q * D := Int.mul_le_mul_of_nonneg_right hq hD
  rw [show q - 1 + 1 = q by omega]; omega

set_option maxHeartbeats 3200000 in
set_option maxRecDepth 100000 in
theorem guess_any (base g N i e cap : Nat) (ys : List Int) (b : Option Addr) (cap' : Nat) (ds : List Int) (w : World) (ho : OwnW w base g N ys) (hwy : Wd ys) (him : i + (e + 2) + 1 ≤ N) (hcap : cap = N - i) (hN : N ≤ 1099511627776)
    (h : Reads w base b (e + 2) cap' ds) (hh : 1 ≤ ds[e + 1]?.getD 0) (hLD : segTo ys i (e + 3) < 4294967296 * val ds) :
    Calls Tryd.prog 112 #[.slice (some ⟨g, i, none⟩) (e + 2 + 1) cap, .slice b (e + 2) cap'] w fun x w' => ∃ q : Int, x = .returned (.int .u32 q) ∧ 0 ≤ q ∧ q ≤ 4294967295 ∧ segTo ys i (e + 3) < (q + 1) * val ds ∧ q * val ds ≤ segTo ys i (e + 3) + val ds ∧ Below w.heap.size w w' := by
  rcases h.2.2.1 with h0 | ⟨b2, o2, rfl, hb2, hc2⟩
  · omega
  · have hwz := h.2.1
    have hl := h.1
    have c1 := hc2 (e + 1) (by omega)
    have c0 := hc2 e (by omega)
    have l2 := ho.cell (i + (e + 2)) (by omega)
    have l1 := ho.cell (i + (e + 1)) (by omega)
    have l0 := ho.cell (i + e) (by omega)
    have bh := hwz.at (e + 1)
    have bl := hwz.at e
    have b2' := hwy.at (i + (e + 2))
    have b1' := hwy.at (i + (e + 1))
    have b0' := hwy.at (i + e)
    have hS := seg_three ys i e
    have hD := val_two_top ds e hl
    have sb := segTo_bounds hwy i e
    have vb := valTo_bounds hwz e
    generalize ds[e + 1]?.getD 0 = H at *
    generalize ds[e]?.getD 0 = Lo at *
    generalize ys[i + (e + 2)]?.getD 0 = u2 at *
    generalize ys[i + (e + 1)]?.getD 0 = u1 at *
    generalize ys[i + e]?.getD 0 = u0 at *
    obtain ⟨t, ht⟩ : ∃ t, t = u1 + u2 * 4294967296 := ⟨_, rfl⟩
    have hor : bits BinOp.or IntKind.u64 (u2 * 4294967296) u1 = t := by rw [or_join u2 _ b2'.1 b2'.2 b1'.1 b1'.2, ht]
    have t0 : 0 ≤ t ∧ t ≤ 18446744073709551615 := by omega
    have P0 := pw_pos e
    have HTB : Hid (t ≤ Lo + H * 4294967296) := guess_top (4294967296 ^ e) H Lo (valTo ds e) (segTo ys i e) t u0 P0 vb.2 sb.1 b0'.1 (by rw [hS, hD, ← ht] at hLD; exact hLD)
    have HQ0 : Hid (segTo ys i (e + 3) < (t / H + 1) * val ds) := by
      show _ < _
      rw [hS, hD, ← ht]
      exact guess_first (4294967296 ^ e) H Lo (valTo ds e) u2 u1 u0 (segTo ys i e) t P0 (by omega) bl.1 vb.1 sb.2 b0' ht t0.1
    have HLESS : Hid (∀ q r : Int, 0 ≤ q → q * H + r = t → u0 + r * 4294967296 < q * Lo → segTo ys i (e + 3) < (q - 1 + 1) * val ds) := fun q r hq hr hgt => by
      rw [hS, hD, ← ht, show q - 1 + 1 = q by omega]
      exact guess_less (4294967296 ^ e) H Lo (valTo ds e) t u0 (segTo ys i e) q r P0 vb.1 sb.2 hq hr hgt
    have HMOST : Hid (∀ q r : Int, 0 ≤ q → q ≤ 4294967295 → q * H + r = t → q * Lo ≤ u0 + r * 4294967296 → q * val ds ≤ segTo ys i (e + 3) + val ds) := fun q r hq hq1 hr hle => by
      rw [hS, hD, ← ht]
      exact guess_most (4294967296 ^ e) H Lo (valTo ds e) t u0 (segTo ys i e) q r P0 vb.1 vb.2 sb.1 hh bl.1 hq hq1 hr hle
    have hcm : e + 2 + 1 ≤ cap := by omega
    have q0 : 0 ≤ t / H := Int.ediv_nonneg t0.1 (by omega)
    have q1 : t / H ≤ t := Int.ediv_le_self _ (by omega)
    have r0 : 0 ≤ t % H := Int.emod_nonneg _ (by omega)
    have r1 : t % H < H := Int.emod_lt_of_pos _ (by omega)
    have HE0 : Hid (t / H * H + t % H = t) := by show _ = _; rw [Int.mul_comm]; exact Int.mul_ediv_add_emod t H
    have hHz : ¬ H = 0 := by omega
    have HLD := hid hLD
    have HDN := hid (val_nonneg hwz)
    clear hc2 h hl hS hD sb vb hLD ho ht P0
    go_enter Tryd.func112, Tryd.ntmps112
    go_wp2_with fail
    go_quiet (fail)
    go_wp2_with fail
    go_quiet (fail)
    go_wp2_with fail
    go_quiet (fail)
    go_wp2_with fail
    go_loopw [9, 10] (fun c d wr => ∃ (q r : Int), c = .int .u64 q ∧ d = .int .u64 r ∧ 0 ≤ q ∧ q ≤ 18446744073709551615 ∧ 0 ≤ r ∧ r ≤ 4294967295 ∧ Hid (q * H + r = t) ∧ Hid (segTo ys i (e + 3) < (q + 1) * val ds) ∧ wr.cell? ⟨g, i + e, none⟩ = some (.int .u32 u0) ∧ Below w.heap.size w wr) (fun c _ _ => (intOf c).toNat)
    case atStart => exact ⟨t / H, t % H, rfl, rfl, q0, by omega, r0, by omega, HE0, HQ0, l0, bdn (bdn (bdn (Below.refl _ _) _) _) _⟩
    case round =>
      obtain ⟨q, r, rfl, rfl, qa, qb, ra, rb, HE, HQ, lw, hb⟩ := hrel
      clear q0 q1 r0 r1 HE0 HQ0 c1 c0 l0 l1 l2 hor
      have hE' : (q - 1) * H + (r + H) = t := by rw [Int.sub_mul, Int.one_mul]; have := HE.out; omega
      have HE' := hid hE'
      by_cases big : 4294967295 < q
      · have HQ' : Hid (segTo ys i (e + 3) < (q - 1 + 1) * val ds) := guess_down (val ds) q _ HDN.out (by omega) HLD.out
        by_cases rr : 4294967295 < r + H
        · have qc := guess_break H Lo t (q - 1) (r + H) (by omega) hE' HTB.out (by omega) bl.2
          have HM : Hid ((q - 1) * val ds ≤ segTo ys i (e + 3) + val ds) := HMOST.out (q - 1) (r + H) (by omega) qc hE' (by
            have a := prod_word (q - 1) Lo ⟨by omega, qc⟩ bl
            omega)
          clear hE'
          go_wp2_with fail
          go_ret
          exact ⟨q - 1, ret_int (by omega), by omega, qc, HQ'.out, HM.out, hb⟩
        · clear hE'
          go_wp2_with fail
          go_roundw
          case rel => exact ⟨q - 1, r + H, by go_num, by go_num, by omega, by omega, by omega, by omega, HE', HQ', lw, hb⟩
          case measure => simp [intOf]; omega
      · have bp := prod_word q Lo ⟨qa, by omega⟩ bl
        obtain ⟨p, hp⟩ : ∃ p, q * Lo = p := ⟨_, rfl⟩
        rw [hp] at bp
        obtain ⟨s, hs⟩ : ∃ s, s = u0 + r * 4294967296 := ⟨_, rfl⟩
        have hor : bits BinOp.or IntKind.u64 (r * 4294967296) u0 = s := by rw [or_join r _ ra rb b0'.1 b0'.2, hs]
        by_cases gt : s < p
        · have HQ' : Hid (segTo ys i (e + 3) < (q - 1 + 1) * val ds) := HLESS.out q r qa HE.out (by rw [hp, ← hs]; exact gt)
          have q1 : 1 ≤ q := by
            by_cases c : q = 0
            · rw [c] at hp; simp at hp; omega
            · omega
          by_cases rr : 4294967295 < r + H
          · have qc := guess_break H Lo t (q - 1) (r + H) (by omega) hE' HTB.out (by omega) bl.2
            have HM : Hid ((q - 1) * val ds ≤ segTo ys i (e + 3) + val ds) := HMOST.out (q - 1) (r + H) (by omega) qc hE' (by
              have a := prod_word (q - 1) Lo ⟨by omega, qc⟩ bl
              omega)
            clear hE' hs
            go_wp2_with fail
            go_ret
            exact ⟨q - 1, ret_int (by omega), by omega, qc, HQ'.out, HM.out, hb⟩
          · clear hE' hs
            go_wp2_with fail
            go_roundw
            case rel => exact ⟨q - 1, r + H, by go_num, by go_num, by omega, by omega, by omega, by omega, HE', HQ', lw, hb⟩
            case measure => simp [intOf]; omega
        · have HM : Hid (q * val ds ≤ segTo ys i (e + 3) + val ds) := HMOST.out q r qa (by omega) HE.out (by rw [hp, ← hs]; omega)
          clear hE' hs
          go_wp2_with fail
          go_ret
          exact ⟨q, ret_int (by omega), qa, by omega, HQ.out, HM.out, hb⟩
end Go.Proofs.YtgimgagnfkinmaaDoor

/- nat.nextWord: one word of a quotient. -/
namespace Go.Proofs.YtgimgagnfkinmaaDoor
open Go.RowKit
set_option linter.unusedVariables false

theorem grown_of_below {w w' : World} (hb : Below w.heap.size w w') (r : Option Nat) : w.grownBy w' r := ⟨hb.os, hb.tape, hb.output, hb.size, fun k hk _ => hb.block k hk⟩

set_option maxHeartbeats 800000 in
set_option maxRecDepth 100000 in
theorem nextWord_any (base g N i e cap : Nat) (ys : List Int) (b : Option Addr) (cap' : Nat) (ds : List Int) (w : World) (ho : OwnW w base g N ys) (hwy : Wd ys) (him : i + (e + 2) + 1 ≤ N) (hcap : cap = N - i) (hN : N ≤ 1099511627776)
    (h : Reads w base b (e + 2) cap' ds) (hh : 1 ≤ ds[e + 1]?.getD 0) (hLD : segTo ys i (e + 3) < 4294967296 * val ds) :
    Calls Tryd.prog 111 #[.slice (some ⟨g, i, none⟩) (e + 2 + 1) cap, .slice b (e + 2) cap'] w fun x w' => ∃ (q : Int) (us : List Int), x = .returned (.int .u32 q) ∧ 0 ≤ q ∧ q ≤ 4294967295 ∧ OwnW w' base g N us ∧ Wd us ∧
      (∀ j, j < i ∨ i + (e + 2) + 1 ≤ j → us[j]?.getD 0 = ys[j]?.getD 0) ∧ segTo us i (e + 3) = segTo ys i (e + 3) - q * val ds ∧ segTo us i (e + 3) < val ds ∧ w.grownBy w' (some g) := by
  subst hcap
  have hbase := ho.base
  have hbw : base ≤ w.heap.size := by omega
  have HG := hid (guess_any base g N i e _ ys b cap' ds w ho hwy him rfl hN h hh hLD)
  have vd := val_lt h.2.1
  have vd0 := val_nonneg h.2.1
  rw [h.1] at vd
  have sb := segTo_bounds hwy i (e + 3)
  have hpw : (4294967296 : Int) ^ (e + 2) ≤ 4294967296 ^ (e + 3) := pw_le (by omega)
  have HF := hid (And.intro vd (And.intro vd0 (And.intro sb hpw)))
  have HR := hid h
  have HO := hid ho
  clear h ho vd vd0 sb hpw hLD
  go_enter Tryd.func111, Tryd.ntmps111
  go_wp2_with fail
  refine Calls.mono HG.out ?_
  rintro x w1 ⟨q, rfl, q0, q1, ha, hb, hbel⟩
  rw [Int.add_mul, Int.one_mul] at ha
  have HA := hid ha
  have HBB := hid hb
  clear ha hb
  have o1 : OwnW w1 base g N ys := owns_later HO.out hbel
  have r1 := HR.out.later (hbel.mono hbw) (Nat.le_refl _)
  have hs1 := hbel.size
  have HT := hid (takeTimes_any base g N i (e + 2) _ ys b cap' ds q w1 o1 hwy him rfl hN r1 (by omega) ⟨q0, q1⟩)
  have hbel' : Below base w w1 := hbel.mono hbw
  have hg1 := grown_of_below hbel (some g)
  clear o1 HG HO hbel
  go_wp2_with fail
  refine Calls.mono HT.out ?_
  rintro x w2 ⟨sh, us, rfl, o2, wu, ku, hv, hg2⟩
  have hg3 := grown_trans hg1 hg2
  have hb2 : Below base w1 w2 := (Below.refl _ _).grown hg2 (by omega) (fun k hk => by simp at hk; omega)
  have sb2 := segTo_bounds wu i (e + 3)
  rw [show e + 2 + 1 = e + 3 from rfl] at hv
  obtain ⟨vd, vd0, sb, hpw⟩ := HF.out
  have ha := HA.out
  have hb := HBB.out
  cases sh with
  | false =>
    rw [if_neg (by decide)] at hv
    have hlt : segTo us i (e + 3) < val ds := by omega
    have HV : Hid (segTo us i (e + 3) = segTo ys i (e + 3) - q * val ds) := by show _ = _; omega
    have HLT := hid hlt
    clear hv sb sb2 hpw vd vd0 ha hb hlt HT
    go_wp2_with fail
    go_ret
    exact ⟨q, us, rfl, q0, q1, o2, wu, ku, HV.out, HLT.out, hg3⟩
  | true =>
    rw [if_pos rfl] at hv
    have hq1 : 1 ≤ q := by
      by_cases c : q = 0
      · rw [c] at hv; simp at hv; omega
      · omega
    have hbs := hbel'.size
    have HB := hid (giveBack_any base g N i (e + 2) _ us b cap' ds w2 o2 wu him rfl hN (r1.later hb2 (Nat.le_refl _)) (by omega))
    have HV := hid hv
    clear hv o2 ha hb HT vd vd0 sb hpw sb2
    go_wp2_with fail
    refine Calls.mono HB.out ?_
    rintro x w3 ⟨c, zs, rfl, o3, wz, hc, kz, hvz, hg4⟩
    have sb2 := segTo_bounds wu i (e + 3)
    have sb3 := segTo_bounds wz i (e + 3)
    obtain ⟨vd, vd0, sb, hpw⟩ := HF.out
    rw [show e + 2 + 1 = e + 3 from rfl] at hvz
    have e1 : (q - 1) * val ds = q * val ds - val ds := by rw [Int.sub_mul, Int.one_mul]
    have hc1 : c = 1 := by
      rcases hc with hc | hc
      · rw [hc] at hvz
        have := HV.out
        have := HBB.out
        simp at hvz
        omega
      · exact hc
    rw [hc1, Int.one_mul] at hvz
    have HV2 : Hid (segTo zs i (e + 3) = segTo ys i (e + 3) - (q - 1) * val ds) := by show _ = _; rw [e1]; have := HV.out; omega
    have HLT : Hid (segTo zs i (e + 3) < val ds) := by show _ < _; have := HV.out; have := HA.out; have := HBB.out; omega
    have HO3 := hid o3
    have HKZ : Hid (∀ j, j < i ∨ i + (e + 2) + 1 ≤ j → zs[j]?.getD 0 = ys[j]?.getD 0) := fun j hj => by rw [kz j hj]; exact ku j hj
    have hg5 := grown_trans hg3 hg4
    have hqq : IntKind.u32.wrap (q - 1) = q - 1 := by rw [IntKind.wrap_u32]; omega
    clear hvz o3 kz ku e1 hg4 hg3 HB sb sb2 sb3 hpw vd vd0
    go_wp2_with fail
    go_ret
    exact ⟨q - 1, zs, rfl, by omega, by omega, HO3.out, wz, HKZ.out, HV2.out, HLT.out, hg5⟩
end Go.Proofs.YtgimgagnfkinmaaDoor

/- nat.Shift: of every list that can be read and every number the list moved up or down, or the error, in new memory. -/
namespace Go.Proofs.YtgimgagnfkinmaaDoor
open Go.RowKit
set_option linter.unusedVariables false

theorem pw_two (k : Nat) : (4294967296 : Int) ^ k = 2 ^ (32 * k) := by
  rw [Int.pow_mul]; rfl
theorem pw_two_le {K e : Nat} (h : 32 * K ≤ e) : (4294967296 : Int) ^ K ≤ 2 ^ e := by rw [pw_two]; exact two_le h
theorem bitLen_bounds (x : Int) (h0 : 1 ≤ x) (h1 : x ≤ 4294967295) : 1 ≤ Lib.bitLen x.toNat ∧ (2 : Int) ^ (Lib.bitLen x.toNat - 1) ≤ x ∧ x < 2 ^ Lib.bitLen x.toNat := by
  obtain ⟨a, b, c⟩ := Lib.bitLenAux_bounds 64 x.toNat (by omega) (by omega)
  refine ⟨a, ?_, ?_⟩
  · have := Int.ofNat_le.2 b
    rw [Int.natCast_pow, Int.toNat_of_nonneg (by omega)] at this
    exact this
  · have := Int.ofNat_lt.2 c
    rw [Int.natCast_pow, Int.toNat_of_nonneg (by omega)] at this
    exact this
theorem bits_bounds {xs : List Int} (hw : Wd xs) (hp : 0 < sz xs) : 1 ≤ bitsOf xs ∧ (2 : Int) ^ (bitsOf xs - 1) ≤ val xs ∧ val xs < 2 ^ bitsOf xs ∧ bitsOf xs ≤ 32 * sz xs ∧ 32 * (sz xs - 1) < bitsOf xs := by
  obtain ⟨m, hm⟩ : ∃ m, sz xs = m + 1 := ⟨sz xs - 1, by omega⟩
  have ht := sz_top xs hp
  have hb := hw.at m
  have h32 := bitLen_le32 (xs[m]?.getD 0) hb.2
  rw [hm, Nat.add_sub_cancel] at ht
  obtain ⟨b1, b2, b3⟩ := bitLen_bounds (xs[m]?.getD 0) (by omega) hb.2
  have e : bitsOf xs = m * 32 + Lib.bitLen (xs[m]?.getD 0).toNat := by unfold bitsOf; rw [hm, if_neg (by omega), Nat.add_sub_cancel]
  have hv : val xs = valTo xs m + xs[m]?.getD 0 * 4294967296 ^ m := by rw [val_sz, hm, valTo_succ]
  have vb := valTo_bounds hw m
  rw [e, hv]
  generalize Lib.bitLen (xs[m]?.getD 0).toNat = L at *
  have hpw := pw_pos m
  refine ⟨by omega, ?_, ?_, by omega, by omega⟩
  · have e1 : (2 : Int) ^ (m * 32 + L - 1) = 2 ^ (L - 1) * 4294967296 ^ m := by rw [pw_two, ← Int.pow_add]; congr 1; omega
    have e2 : (2 : Int) ^ (L - 1) * 4294967296 ^ m ≤ xs[m]?.getD 0 * 4294967296 ^ m := Int.mul_le_mul_of_nonneg_right b2 (Int.le_of_lt hpw)
    rw [e1]; omega
  · have e1 : (2 : Int) ^ (m * 32 + L) = 2 ^ L * 4294967296 ^ m := by rw [pw_two, ← Int.pow_add]; congr 1; omega
    have e2 : (xs[m]?.getD 0 + 1) * 4294967296 ^ m ≤ (2 : Int) ^ L * 4294967296 ^ m := Int.mul_le_mul_of_nonneg_right (by omega) (Int.le_of_lt hpw)
    rw [Int.add_mul] at e2
    rw [e1]; omega

set_option maxHeartbeats 1600000 in
set_option maxRecDepth 100000 in
theorem shift_up (v : Value) (xs : List Int) (n : Nat) (w : World) (h : Sl w v xs) (hl : xs.length ≤ 8192) (hx : Trimmed xs) (hn : n ≤ 262144) :
    Calls Tryd.prog 7 #[v, .int .i64 n] w (Told w 0 (val xs * 2 ^ n)) := by
  have HC := hid (check_sl v xs w h (by omega))
  rw [chk_good hl hx] at HC
  have wx := h.wd
  by_cases h0 : xs.length = 0
  · have hxe : xs = [] := List.eq_nil_of_length_eq_zero h0
    subst hxe
    have HT : Hid (Tells 0 (val [] * 2 ^ n) [] 0) := Tells.ok Wd.nil Trimmed.nil (by rw [val_nil]; simp) (by rw [val_nil]; have := pw_pos 8192; unfold wide; omega)
    obtain ⟨a, cap, rfl, hr⟩ := h
    clear h0 hr
    go_enter Tryd.func7, Tryd.ntmps7
    go_wp2_with fail
    refine Calls.mono HC.out ?_
    rintro e w' ⟨rfl, rfl⟩
    go_wp2_with fail
    go_ret2
    exact ⟨_, [], _, rfl, World.ownsRow_nil _ _ _ _, HT.out, Below.refl _ _⟩
  · obtain ⟨b1, b2, b3, b4, b5⟩ := bits_bounds wx (by rw [hx]; omega)
    rw [hx] at b4 b5
    have HB := hid (bits_sl v xs w h (by omega))
    obtain ⟨b, hb⟩ : ∃ b, bitsOf xs = b := ⟨_, rfl⟩
    rw [hb] at HB b1 b2 b3 b4 b5
    clear hb
    have hz : ((xs.length : Int) == 0) = false := by simp; exact fun e => h0 (by simp [e])
    have n1 : ¬ (b : Int) + (n : Int) ≤ 0 := by omega
    by_cases hlong : 262144 < b + n
    · have HT : Hid (Tells 0 (val xs * 2 ^ n) [] 3) := Tells.tooLong (by
        have e1 : (2 : Int) ^ (b - 1) * 2 ^ n ≤ val xs * 2 ^ n := Int.mul_le_mul_of_nonneg_right b2 (Int.le_of_lt (two_pos n))
        rw [← Int.pow_add] at e1
        have e2 : (4294967296 : Int) ^ 8192 ≤ 2 ^ (b - 1 + n) := pw_two_le (K := 8192) (by omega)
        unfold wide
        omega)
      have hli : (262144 : Int) < (b : Int) + (n : Int) := by omega
      obtain ⟨a, cap, rfl, hr⟩ := h
      clear b2 b3 hr h0
      go_enter Tryd.func7, Tryd.ntmps7
      go_wp2_with fail
      refine Calls.mono HC.out ?_
      rintro e w' ⟨rfl, rfl⟩
      go_wp2_with fail
      refine Calls.mono HB.out ?_
      rintro e w' ⟨rfl, rfl⟩
      go_wp2_with fail
      refine Calls.mono HB.out ?_
      rintro e w' ⟨rfl, rfl⟩
      go_wp2_with fail
      go_ret2
      exact ⟨_, [], _, rfl, World.ownsRow_nil _ _ _ _, HT.out, Below.refl _ _⟩
    · have hli : ¬ (262144 : Int) < (b : Int) + (n : Int) := by omega
      obtain ⟨a, cap, rfl, hr⟩ := h
      obtain ⟨W, hW⟩ : ∃ W : Nat, (n : Int) / 32 = (W : Int) := ⟨n / 32, by omega⟩
      obtain ⟨t, ht⟩ : ∃ t : Nat, (n : Int) % 32 = (t : Int) := ⟨n % 32, by omega⟩
      have hwt : n = t + 32 * W := by omega
      have HR := hid (raise_any a xs.length cap xs W t w hr (by omega) (by omega) (by omega) (by omega))
      have HE : Hid (∀ y : Int, y = val xs * 2 ^ t * 4294967296 ^ W → y = val xs * 2 ^ n) := fun y hy => by
        rw [hy, pw_two, Int.mul_assoc, ← Int.pow_add, ← hwt]
      clear b2 b3 hr h0 hwt
      go_enter Tryd.func7, Tryd.ntmps7
      go_wp2_with fail
      refine Calls.mono HC.out ?_
      rintro e w' ⟨rfl, rfl⟩
      go_wp2_with fail
      refine Calls.mono HB.out ?_
      rintro e w' ⟨rfl, rfl⟩
      go_wp2_with fail
      refine Calls.mono HB.out ?_
      rintro e w' ⟨rfl, rfl⟩
      go_wp2_with fail
      refine Calls.mono HR.out ?_
      rintro e w1 ⟨ys, rfl, oy, wy, hvy, hb1⟩
      have HTT := hid (told_any _ _ _ ys w1 oy wy (by omega))
      rw [HE.out _ hvy] at HTT
      clear oy hvy
      go_wp2_with fail
      refine Calls.mono HTT.out ?_
      rintro e w2 ⟨v2, zs, code, rfl, ho2, ht2, rfl⟩
      go_wp2_with fail
      go_ret2
      exact ⟨_, zs, code, rfl, ho2, ht2, hb1⟩

set_option maxHeartbeats 1600000 in
set_option maxRecDepth 100000 in
theorem shift_down (v : Value) (xs : List Int) (m : Nat) (w : World) (h : Sl w v xs) (hl : xs.length ≤ 8192) (hx : Trimmed xs) (hm1 : 1 ≤ m) (hm : m ≤ 262144) :
    Calls Tryd.prog 7 #[v, .int .i64 (-(m : Int))] w (Told w 0 (val xs / 2 ^ m)) := by
  have HC := hid (check_sl v xs w h (by omega))
  rw [chk_good hl hx] at HC
  have wx := h.wd
  by_cases h0 : xs.length = 0
  · have hxe : xs = [] := List.eq_nil_of_length_eq_zero h0
    subst hxe
    have HT : Hid (Tells 0 (val [] / 2 ^ m) [] 0) := Tells.ok Wd.nil Trimmed.nil (by rw [val_nil]; simp) (by rw [val_nil, Int.zero_ediv]; exact pw_pos 8192)
    obtain ⟨a, cap, rfl, hr⟩ := h
    clear h0 hr
    go_enter Tryd.func7, Tryd.ntmps7
    go_wp2_with fail
    refine Calls.mono HC.out ?_
    rintro e w' ⟨rfl, rfl⟩
    go_wp2_with fail
    go_ret2
    exact ⟨_, [], _, rfl, World.ownsRow_nil _ _ _ _, HT.out, Below.refl _ _⟩
  · obtain ⟨b1, b2, b3, b4, b5⟩ := bits_bounds wx (by rw [hx]; omega)
    rw [hx] at b4 b5
    have HB := hid (bits_sl v xs w h (by omega))
    obtain ⟨b, hb⟩ : ∃ b, bitsOf xs = b := ⟨_, rfl⟩
    rw [hb] at HB b1 b2 b3 b4 b5
    clear hb
    have hz : ((xs.length : Int) == 0) = false := by simp; exact fun e => h0 (by simp [e])
    have vn := val_nonneg wx
    by_cases hgone : b ≤ m
    · have HT : Hid (Tells 0 (val xs / 2 ^ m) [] 0) := by
        have e : val xs / 2 ^ m = 0 := Int.ediv_eq_zero_of_lt vn (by have := two_le hgone; omega)
        rw [e]
        exact Tells.ok Wd.nil Trimmed.nil val_nil (by have := pw_pos 8192; unfold wide; omega)
      have hli : (b : Int) + -(m : Int) ≤ 0 := by omega
      obtain ⟨a, cap, rfl, hr⟩ := h
      clear b2 b3 hr h0
      go_enter Tryd.func7, Tryd.ntmps7
      go_wp2_with fail
      refine Calls.mono HC.out ?_
      rintro e w' ⟨rfl, rfl⟩
      go_wp2_with fail
      refine Calls.mono HB.out ?_
      rintro e w' ⟨rfl, rfl⟩
      go_wp2_with fail
      go_ret2
      exact ⟨_, [], _, rfl, World.ownsRow_nil _ _ _ _, HT.out, Below.refl _ _⟩
    · have hli : ¬ (b : Int) + -(m : Int) ≤ 0 := by omega
      have hlj : ¬ (262144 : Int) < (b : Int) + -(m : Int) := by omega
      obtain ⟨a, cap, rfl, hr⟩ := h
      obtain ⟨W, hW⟩ : ∃ W : Nat, (m : Int) / 32 = (W : Int) := ⟨m / 32, by omega⟩
      obtain ⟨t, ht⟩ : ∃ t : Nat, (m : Int) % 32 = (t : Int) := ⟨m % 32, by omega⟩
      have hwt : m = t + 32 * W := by omega
      have HR := hid (lower_any a xs.length cap xs W t w hr (by omega) (by omega) (by omega))
      have HE : Hid (∀ y : Int, y = val xs / 4294967296 ^ W / 2 ^ t → y = val xs / 2 ^ m) := fun y hy => by
        rw [hy, pw_two, Int.ediv_ediv_of_nonneg (Int.le_of_lt (two_pos _)), ← Int.pow_add, hwt, Nat.add_comm]
      clear b2 b3 hr h0 hwt
      go_enter Tryd.func7, Tryd.ntmps7
      go_wp2_with fail
      refine Calls.mono HC.out ?_
      rintro e w' ⟨rfl, rfl⟩
      go_wp2_with fail
      refine Calls.mono HB.out ?_
      rintro e w' ⟨rfl, rfl⟩
      go_wp2_with fail
      refine Calls.mono HB.out ?_
      rintro e w' ⟨rfl, rfl⟩
      go_wp2_with fail
      refine Calls.mono HR.out ?_
      rintro e w1 ⟨ys, rfl, oy, wy, hvy, hb1⟩
      have HTT := hid (told_any _ _ _ ys w1 oy wy (by omega))
      rw [HE.out _ hvy] at HTT
      clear oy hvy
      go_wp2_with fail
      refine Calls.mono HTT.out ?_
      rintro e w2 ⟨v2, zs, code, rfl, ho2, ht2, rfl⟩
      go_wp2_with fail
      go_ret2
      exact ⟨_, zs, code, rfl, ho2, ht2, hb1⟩
end Go.Proofs.YtgimgagnfkinmaaDoor

/- nat.divideLong: quotient and rest by two words or more, in new memory. -/
namespace Go.Proofs.YtgimgagnfkinmaaDoor
open Go.RowKit
set_option linter.unusedVariables false

theorem lead_any (x : Int) (w : World) (h0 : 1 ≤ x) (h1 : x ≤ 4294967295) :
    Calls Tryd.prog 110 #[.int .u32 x] w fun e w' => e = .returned (.int .i64 ((32 - Lib.bitLen x.toNat : Nat) : Int)) ∧ w = w' := by
  have h2 := bitLen_le32 x h1
  have HL := hid (len32_any x w (by omega) h1)
  obtain ⟨L, hL⟩ : ∃ L, Lib.bitLen x.toNat = L := ⟨_, rfl⟩
  rw [hL] at HL h2 ⊢
  clear hL
  go_enter Tryd.func110, Tryd.ntmps110
  go_wp2_with fail
  refine Calls.mono HL.out ?_
  rintro e w' ⟨rfl, rfl⟩
  go_wp2_with fail
  go_ret
  exact ⟨ret_int (by omega), rfl⟩

theorem raise_zero (a : Option Addr) (n cap : Nat) (xs : List Int) (t : Nat) (w : World) (h : Reads w w.heap.size a n cap xs) (hn : n ≤ 274877906944) (hn0 : 0 < n) (ht : t ≤ 31) :
    Calls Tryd.prog 30 #[.slice a n cap, .int .i64 0, .int .i64 t] w fun e w' => ∃ (ys : List Int), e = .returned (.slice (some ⟨w.heap.size, 0, none⟩) (n + 1) (n + 1)) ∧ OwnW w' w.heap.size w.heap.size (n + 1) ys ∧ Wd ys ∧ val ys = val xs * 2 ^ t ∧ Below w.heap.size w w' := by
  refine Calls.mono (raise_any a n cap xs 0 t w h hn hn0 (by omega) ht) ?_
  rintro e w' ⟨ys, rfl, oy, wy, hv, hb⟩
  exact ⟨ys, rfl, oy, wy, by rw [hv, Int.pow_zero, Int.mul_one], hb⟩
theorem lower_zero (a : Option Addr) (n cap : Nat) (xs : List Int) (t : Nat) (w : World) (h : Reads w w.heap.size a n cap xs) (hn : n ≤ 274877906944) (hn0 : 0 < n) (ht : t ≤ 31) :
    Calls Tryd.prog 29 #[.slice a n cap, .int .i64 0, .int .i64 t] w fun e w' => ∃ (ys : List Int), e = .returned (.slice (some ⟨w.heap.size, 0, none⟩) n n) ∧ OwnW w' w.heap.size w.heap.size n ys ∧ Wd ys ∧ val ys = val xs / 2 ^ t ∧ Below w.heap.size w w' := by
  refine Calls.mono (lower_any a n cap xs 0 t w h hn hn0 ht) ?_
  rintro e w' ⟨ys, rfl, oy, wy, hv, hb⟩
  exact ⟨ys, rfl, oy, wy, by rw [hv, Int.pow_zero, Int.ediv_one], hb⟩

/-- The divisor, moved up until its highest bit is set. -/
theorem normal {ys : List Int} (hw : Wd ys) (ht : Trimmed ys) (e : Nat) (hl : ys.length = e + 2) : 1 ≤ ys[e + 1]?.getD 0 ∧ ys[e + 1]?.getD 0 ≤ 4294967295 ∧ 32 - Lib.bitLen (ys[e + 1]?.getD 0).toNat ≤ 31 ∧
    val ys * 2 ^ (32 - Lib.bitLen (ys[e + 1]?.getD 0).toNat) < 4294967296 ^ (e + 2) ∧ (4294967296 : Int) ^ (e + 2) ≤ 2 * (val ys * 2 ^ (32 - Lib.bitLen (ys[e + 1]?.getD 0).toNat)) := by
  have hs : sz ys = e + 2 := by rw [ht]; exact hl
  have tp := sz_top ys (by omega)
  rw [hs, show e + 2 - 1 = e + 1 by omega] at tp
  have b := hw.at (e + 1)
  obtain ⟨l1, l2, l3⟩ := bitLen_bounds (ys[e + 1]?.getD 0) (by omega) b.2
  have l4 := bitLen_le32 (ys[e + 1]?.getD 0) b.2
  obtain ⟨b1, b2, b3, b4, b5⟩ := bits_bounds hw (by omega)
  have hb : bitsOf ys = (e + 1) * 32 + Lib.bitLen (ys[e + 1]?.getD 0).toNat := by unfold bitsOf; rw [hs, if_neg (by omega), show e + 2 - 1 = e + 1 by omega]
  rw [hb] at b1 b2 b3
  generalize Lib.bitLen (ys[e + 1]?.getD 0).toNat = L at *
  have p := two_pos (32 - L)
  refine ⟨by omega, b.2, by omega, ?_, ?_⟩
  · have e1 : val ys * 2 ^ (32 - L) < 2 ^ ((e + 1) * 32 + L) * 2 ^ (32 - L) := Int.mul_lt_mul_of_pos_right b3 p
    rw [← Int.pow_add] at e1
    rw [pw_two, show 32 * (e + 2) = (e + 1) * 32 + L + (32 - L) by omega]
    exact e1
  · have e1 : (2 : Int) ^ ((e + 1) * 32 + L - 1) * 2 ^ (32 - L) ≤ val ys * 2 ^ (32 - L) := Int.mul_le_mul_of_nonneg_right b2 (Int.le_of_lt p)
    rw [← Int.pow_add] at e1
    have e2 : (2 : Int) ^ (32 * (e + 2)) = 2 * 2 ^ ((e + 1) * 32 + L - 1 + (32 - L)) := by
      rw [show 32 * (e + 2) = ((e + 1) * 32 + L - 1 + (32 - L)) + 1 by omega, Int.pow_succ, Int.mul_comm]
    rw [pw_two, e2]
    omega
theorem top_nought {ds : List Int} (hw : Wd ds) (m : Nat) (hl : ds.length = m + 1) (h : val ds < 4294967296 ^ m) : val (ds.take m) = val ds := by
  have e : val ds = valTo ds m + ds[m]?.getD 0 * 4294967296 ^ m := by unfold val; rw [hl, valTo_succ]
  have b := (valTo_bounds hw m).1
  have hz : ds[m]?.getD 0 = 0 := by
    have hb := hw.at m
    by_cases c : ds[m]?.getD 0 = 0
    · exact c
    · have : 1 * (4294967296 : Int) ^ m ≤ ds[m]?.getD 0 * 4294967296 ^ m := Int.mul_le_mul_of_nonneg_right (by omega) (Int.le_of_lt (pw_pos m))
      omega
  rw [e, hz]
  unfold val
  rw [List.length_take, hl, Nat.min_eq_left (by omega), valTo_congr (ds.take m) ds m (fun j hj => by rw [List.getElem?_take, if_pos hj])]
  omega
theorem top_one {ds : List Int} (hw : Wd ds) (e : Nat) (hl : ds.length = e + 2) (h : (4294967296 : Int) ^ (e + 2) ≤ 2 * val ds) : 1 ≤ ds[e + 1]?.getD 0 := by
  have hb := hw.at (e + 1)
  by_cases c : ds[e + 1]?.getD 0 = 0
  · have e1 : val ds = valTo ds (e + 1) + ds[e + 1]?.getD 0 * 4294967296 ^ (e + 1) := by unfold val; rw [hl, valTo_succ]
    rw [c] at e1
    have b := (valTo_bounds hw (e + 1)).2
    have := pw_succ (e + 1)
    have hp := pw_pos (e + 1)
    rw [show e + 2 = e + 1 + 1 from rfl] at h
    omega
  · omega
/-- The number, moved up by as many bits, is below the divisor moved up by all words that the quotient may have. -/
theorem long_start (A D : Int) (n m K : Nat) (X : Int) (t : Nat) (ht : t ≤ 31) (hn : m + K = n + 1) (hX : X < 4294967296 ^ n) (hX0 : 0 ≤ X) (hA : A = X * 2 ^ t) (hD : (4294967296 : Int) ^ m ≤ 2 * D) : A < D * 4294967296 ^ K := by
  have p := two_pos t
  have e1 : X * 2 ^ t < 4294967296 ^ n * 2 ^ t := Int.mul_lt_mul_of_pos_right hX p
  have e2 : (4294967296 : Int) ^ n * 2 ^ t ≤ 4294967296 ^ n * 2 ^ 31 := Int.mul_le_mul_of_nonneg_left (two_le ht) (Int.le_of_lt (pw_pos n))
  have e3 : (4294967296 : Int) ^ m * 4294967296 ^ K ≤ 2 * D * 4294967296 ^ K := Int.mul_le_mul_of_nonneg_right hD (Int.le_of_lt (pw_pos K))
  rw [← Int.pow_add, hn, pw_succ, Int.mul_assoc] at e3
  rw [hA]
  omega
/-- One word of the quotient: what is left, and what was taken. -/
theorem long_step (us vs qs : List Int) (m K k : Nat) (A D q : Int) (hk : k < K) (hlq : qs.length = K) (wv : Wd vs) (hDm : D < 4294967296 ^ m)
    (hA : A = valTo us (k + 1 + m) + segTo qs (k + 1) (K - (k + 1)) * D * 4294967296 ^ (k + 1))
    (hlow : ∀ j, j < k → vs[j]?.getD 0 = us[j]?.getD 0) (hseg : segTo vs k (m + 1) = segTo us k (m + 1) - q * D) (hlt : segTo vs k (m + 1) < D) :
    A = valTo vs (k + m) + segTo (qs.set k q) k (K - k) * D * 4294967296 ^ k ∧ segTo vs k m < D := by
  have hz : vs[k + m]?.getD 0 = 0 := by
    have hb := wv.at (k + m)
    have sb := segTo_nonneg wv k m
    by_cases c : vs[k + m]?.getD 0 = 0
    · exact c
    · have : 1 * (4294967296 : Int) ^ m ≤ vs[k + m]?.getD 0 * 4294967296 ^ m := Int.mul_le_mul_of_nonneg_right (by omega) (Int.le_of_lt (pw_pos m))
      rw [segTo_succ] at hlt
      omega
  have hs : segTo vs k (m + 1) = segTo vs k m := by rw [segTo_succ, hz]; omega
  refine ⟨?_, by rw [← hs]; exact hlt⟩
  obtain ⟨d, hd⟩ : ∃ d, K - k = d + 1 := ⟨K - k - 1, by omega⟩
  rw [show k + 1 + m = k + (m + 1) by omega, valTo_seg us k (m + 1), show K - (k + 1) = d by omega, pw_succ k] at hA
  rw [valTo_seg vs k m, ← hs, hseg, hd, segTo_cons (qs.set k q) d k, List.getElem?_set, if_pos rfl, if_pos (by omega), segTo_congr (qs.set k q) qs (k + 1) d (fun j hj => by rw [List.getElem?_set, if_neg (by omega)]),
    valTo_congr vs us k hlow, hA]
  show _ = valTo us k + (segTo us k (m + 1) - q * D) * 4294967296 ^ k + (q + _) * D * 4294967296 ^ k
  rw [Int.sub_mul, Int.add_mul, Int.add_mul, Int.mul_comm (4294967296 ^ k) 4294967296, ← Int.mul_assoc, Int.mul_assoc (segTo qs (k + 1) d) D 4294967296, Int.mul_comm D 4294967296, ← Int.mul_assoc]
  omega
end Go.Proofs.YtgimgagnfkinmaaDoor

/- nat.divideLong: quotient and rest by two words or more, in new memory. -/
namespace Go.Proofs.YtgimgagnfkinmaaDoor
open Go.RowKit
set_option linter.unusedVariables false

set_option maxHeartbeats 800000 in
set_option maxRecDepth 100000 in
theorem divideLong_any (v u : Value) (xs ys : List Int) (e : Nat) (w : World) (h : Sl w v xs) (g : Sl w u ys) (hn : xs.length ≤ 8192) (hx : Trimmed xs) (hy : Trimmed ys) (hl : ys.length = e + 2) (hge : ys.length ≤ xs.length) :
    Calls Tryd.prog 109 #[v, u] w (Divided w xs ys) := by
  obtain ⟨i0, hi, hz0, hz1, hz2⟩ := info_parts Tryd.infoW
  have wx := h.wd
  have wy := g.wd
  obtain ⟨a, cap, rfl, hr⟩ := h
  obtain ⟨b, cap', rfl, gr⟩ := g
  obtain ⟨n, hnn⟩ : ∃ n, xs.length = n := ⟨_, rfl⟩
  rw [hl] at gr hge ⊢
  rw [hnn] at hr hn hge ⊢
  obtain ⟨K, hK⟩ : ∃ K, e + 2 + K = n + 1 := ⟨n + 1 - (e + 2), by omega⟩
  obtain ⟨s1, s2, s3, s4, s5⟩ := normal wy hy e hl
  obtain ⟨t, ht⟩ : ∃ t, 32 - Lib.bitLen (ys[e + 1]?.getD 0).toNat = t := ⟨_, rfl⟩
  have HLD := hid (lead_any (ys[e + 1]?.getD 0) w s1 s2)
  rw [ht] at s3 s4 s5 HLD
  have HR1 := hid (raise_zero b (e + 2) cap' ys t w gr (by omega) (by omega) s3)
  rcases gr.2.2.1 with h0 | ⟨b2, o2, rfl, hb2, hc2⟩
  · omega
  have hc0 := hc2 (e + 1) (by omega)
  have HX := hid hr
  have HN := hid (And.intro hnn hl)
  have HS4 := hid s4
  have HS5 := hid s5
  generalize ys[e + 1]?.getD 0 = top at *
  clear hc2 gr hr hnn hl s4 s5 ht
  go_enter Tryd.func109, Tryd.ntmps109
  go_wp2_with fail
  refine Calls.mono HLD.out ?_
  rintro x w' ⟨rfl, rfl⟩
  go_wp2_with fail
  refine Calls.mono HR1.out ?_
  rintro x w1 ⟨dF, rfl, oF, wF, hvF, hb1⟩
  have hlF := oF.len
  have hvd : val (dF.take (e + 2)) = val ys * 2 ^ t := by rw [top_nought wF (e + 2) (by omega) (by rw [hvF]; exact HS4.out), hvF]
  have oD : OwnC w1 w.heap.size w.heap.size (e + 2) (e + 2 + 1) (dF.take (e + 2)) := OwnC.take (cap := e + 2 + 1) oF (e + 2) (by omega)
  have wD : Wd (dF.take (e + 2)) := wF.take _
  have lD : (dF.take (e + 2)).length = e + 2 := by rw [List.length_take]; omega
  generalize dF.take (e + 2) = ds at *
  have hg1 := oF.base
  have hs1 := hb1.size
  have hrD : Reads w1 w1.heap.size (some ⟨w.heap.size, 0, none⟩) (e + 2) (e + 2 + 1) ds := by
    obtain ⟨a, cap, hv, hr⟩ := Reads.own oD wD
    simp only [Value.slice.injEq] at hv
    obtain ⟨rfl, _, rfl⟩ := hv
    exact hr
  have HR2 := hid (raise_zero a n cap xs t w1 (HX.out.later hb1 hs1) (by omega) (by omega) s3)
  have HVD := hid hvd
  have HRD := hid hrD
  have HLDS := hid lD
  have HB1 := hid hb1
  clear oF wF hvF hlF hvd oD hrD lD hb1 HLD HR1 HX
  go_wp2_with fail
  refine Calls.mono HR2.out ?_
  rintro x w2 ⟨lf, rfl, oL, wL, hvL, hb2'⟩
  have hs2 := hb2'.size
  have hgL := oL.base
  have HVL := hid hvL
  have HOL := hid oL
  have HB2 := hid hb2'
  have hKi : ((n : Int) - ((e : Int) + 2) + 1) = (K : Int) := by omega
  clear hvL oL hb2' HR2
  go_wp2_with (at_make; refine wpList_make_full _ rfl _ _ 22 rfl w2.heap.size 47 i0 (.int .u32 0) 1 Tryd.underlying22 hi hz0 hz1 _ _ _ _ K rfl rfl (by omega) (by omega) (by rw [hz2]; omega) (by unfold maxLen; omega) (Nat.le_refl _) ?_)
  intro w3 hown hgrow
  have hbel3 : Below w2.heap.size w2 w3 := (Below.refl _ _).grown hgrow (Nat.le_refl _) (fun k hk => by simp at hk)
  have hs3 := hbel3.size
  have HOQ := hid (OwnW.made hown)
  have HB3 := hid hbel3
  have hgQ := (OwnW.made hown).base
  clear hown hgrow hbel3
  go_wp2_with fail
  go_loopw [9] (fun z wr => ∃ (k : Nat) (us qs : List Int), k ≤ K ∧ z = .int .i64 ((k : Int) - 1) ∧ Wd us ∧ Wd qs ∧ Hid (val lf = valTo us (k + (e + 2)) + segTo qs k (K - k) * val ds * 4294967296 ^ k) ∧ Hid (segTo us k (e + 2) < val ds) ∧
    OwnW wr w1.heap.size w1.heap.size (n + 1) us ∧ OwnW wr w2.heap.size w2.heap.size K qs ∧ Below w1.heap.size w1 wr) (fun z _ => (intOf z + 1).toNat)
  case atStart =>
    have hll := HOL.out.len
    have hKm : K + (e + 2) = n + 1 := by omega
    have hst := long_start (val lf) (val ds) n (e + 2) K (val xs) t s3 hK (by have := val_lt wx; rw [HN.out.1] at this; exact this) (val_nonneg wx) HVL.out (by rw [HVD.out]; exact HS5.out)
    refine ⟨K, lf, List.replicate K 0, Nat.le_refl _, rfl, wL, Wd.replicate _, ?_, ?_, owns_later HOL.out HB3.out, HOQ.out, HB2.out.trans (HB3.out.mono hs2)⟩
    · show _ = _
      rw [hKm, valTo_stable lf _ (by omega), Nat.sub_self]
      simp [segTo]
    · show _ < _
      have e1 : val lf = valTo lf K + segTo lf K (e + 2) * 4294967296 ^ K := by rw [← valTo_seg, hKm, valTo_stable lf _ (by omega)]
      have b := (valTo_bounds wL K).1
      exact Int.lt_of_mul_lt_mul_right (show segTo lf K (e + 2) * 4294967296 ^ K < val ds * 4294967296 ^ K by omega) (Int.le_of_lt (pw_pos K))
  case round =>
    obtain ⟨k, us, qs, hk, rfl, wu, wq, HV, HS, oU, oQ, hb⟩ := hrel
    have hbs := hb.size
    have hqb := oQ.base
    rcases k with _ | k
    · have oT : OwnC wr w1.heap.size w1.heap.size (e + 2) (n + 1) (us.take (e + 2)) := OwnC.take (cap := n + 1) oU (e + 2) (by omega)
      have hrT : Reads wr wr.heap.size (some ⟨w1.heap.size, 0, none⟩) (e + 2) (n + 1) (us.take (e + 2)) := by
        obtain ⟨a, cap, hv, hr⟩ := Reads.own oT (wu.take _)
        simp only [Value.slice.injEq] at hv
        obtain ⟨rfl, _, rfl⟩ := hv
        exact hr
      have hlu := oU.len
      have hlq := oQ.len
      have hvR : val (us.take (e + 2)) = valTo us (e + 2) := by
        unfold val
        rw [List.length_take, Nat.min_eq_left (by omega), valTo_congr (us.take (e + 2)) us _ (fun j hj => by rw [List.getElem?_take, if_pos hj])]
      have HF : Hid (val xs = val qs * val ys + val (us.take (e + 2)) / 2 ^ t ∧ val (us.take (e + 2)) / 2 ^ t < val ys) := by
        have e1 := HV.out
        have e2 := HS.out
        rw [segTo_zero] at e2
        rw [segTo_zero, Nat.zero_add, Nat.sub_zero, valTo_stable qs K (by omega), Int.pow_zero, Int.mul_one, HVL.out, HVD.out, ← hvR, ← Int.mul_assoc] at e1
        rw [← hvR, HVD.out] at e2
        have hp := two_pos t
        have e3 : val (us.take (e + 2)) = (val xs - val qs * val ys) * 2 ^ t := by rw [Int.sub_mul]; omega
        have e4 : val (us.take (e + 2)) / 2 ^ t = val xs - val qs * val ys := by rw [e3]; exact Int.mul_ediv_cancel _ (by omega)
        refine ⟨by rw [e4]; omega, Int.ediv_lt_of_lt_mul hp e2⟩
      have HLW := hid (lower_zero (some ⟨w1.heap.size, 0, none⟩) (e + 2) (n + 1) (us.take (e + 2)) t wr hrT (by omega) (by omega) s3)
      have HOQ' := hid oQ
      have HBW : Hid (Below w.heap.size w wr) := HB1.out.trans (hb.mono hs1)
      clear oT hrT hvR hlu HV HS oU oQ hb
      go_wp2_with fail
      refine Calls.mono HLW.out ?_
      rintro x w5 ⟨rs, rfl, oR, wR, hvR, hb5⟩
      have hs5 := hb5.size
      have oQ5 : OwnC w5 w2.heap.size w2.heap.size K K qs := owns_later HOQ'.out hb5
      have sq := sz_le qs
      rw [hlq] at sq
      have hlr := oR.len
      have sr := sz_le rs
      rw [hlr] at sr
      have hrQ : Reads w5.drew w5.heap.size (some ⟨w2.heap.size, 0, none⟩) K K qs := by
        obtain ⟨a, cap, hv, hr⟩ := Reads.own oQ5 wq
        simp only [Value.slice.injEq] at hv
        obtain ⟨rfl, _, rfl⟩ := hv
        exact hr
      have hrR : Reads w5.drew w5.heap.size (some ⟨wr.heap.size, 0, none⟩) (e + 2) (e + 2) rs := by
        obtain ⟨a, cap, hv, hr⟩ := Reads.own oR wR
        simp only [Value.slice.injEq] at hv
        obtain ⟨rfl, _, rfl⟩ := hv
        exact hr
      have HZ1 := hid (size_any _ _ _ qs _ w5.drew hrQ (by omega))
      have HZ2 := hid (size_any _ _ _ rs _ w5.drew hrR (by omega))
      have hbR := oR.base
      have HFIN : Hid (Divided w xs ys (.returned (.tuple #[.slice (some ⟨w2.heap.size, 0, none⟩) (sz qs) K, .slice (some ⟨wr.heap.size, 0, none⟩) (sz rs) (e + 2)])) w5.drew) := by
        have hbd : Below w5.heap.size w5 w5.drew := (Below.refl _ w5).drew
        refine ⟨_, _, trimmed qs, trimmed rs, wr.heap.size, rfl, ?_, ?_, ?_, ?_, by omega, by show wr.heap.size ≤ w5.heap.size; omega, wq.trimmed, wR.trimmed, Trimmed.trimmed _, Trimmed.trimmed _, ?_, ?_, HBW.out.trans ((hb5.mono (by omega)).trans (hbd.mono (by omega)))⟩
        · rw [length_trimmed]
          have o1 : w5.ownsRow w2.heap.size 47 1 (.slice (some ⟨w2.heap.size, 0, none⟩) (sz qs) K) (sz qs) ((trimmed qs).map (Value.int .u32)) := OwnC.take oQ5 (sz qs) sq
          exact owns_base (owns_later o1 hbd) (by omega)
        · rw [length_trimmed]
          have o1 : w5.ownsRow wr.heap.size 47 1 (.slice (some ⟨wr.heap.size, 0, none⟩) (sz rs) (e + 2)) (sz rs) ((trimmed rs).map (Value.int .u32)) := OwnC.take (cap := e + 2) oR (sz rs) sr
          exact owns_base (owns_later o1 hbd) (by omega)
        · intro g hg; simp [Value.ownBlock] at hg; omega
        · intro g hg; simp [Value.ownBlock] at hg; show _ ∧ g < w5.heap.size; omega
        · rw [val_trimmed, val_trimmed, hvR]; exact HF.out.1
        · rw [val_trimmed, hvR]; exact HF.out.2
      clear oR oQ5 hrQ hrR hvR hb5 hlr hlq HF HLW
      go_wp2_with fail
      go_region_with (first | (go_at_call 58; with_reducible refine Calls.mono HZ1.out ?_; rintro e w' ⟨rfl, rfl⟩) | (go_at_call 58; with_reducible refine Calls.mono HZ2.out ?_; rintro e w' ⟨rfl, rfl⟩))
      all_goals
        go_wp2
        go_ret2
        exact HFIN.out
    · have ek : (((k + 1 : Nat) : Int) - 1) = (k : Int) := by omega
      rw [ek]
      clear ek
      have bu := wu.at k
      have hseg : segTo us k (e + 3) = us[k]?.getD 0 + segTo us (k + 1) (e + 2) * 4294967296 := segTo_cons us (e + 2) k
      have hLD : segTo us k (e + 3) < 4294967296 * val ds := by rw [hseg]; have := HS.out; omega
      have HNW := hid (nextWord_any w1.heap.size w1.heap.size (n + 1) k e _ us (some ⟨w.heap.size, 0, none⟩) (e + 2 + 1) ds wr oU wu (by omega) rfl (by omega) (HRD.out.later hb (Nat.le_refl _)) (top_one wD e HLDS.out (by rw [HVD.out]; exact HS5.out)) hLD)
      have HOQ' := hid oQ
      have HB' := hid hb
      have hne : ¬ n + 1 = k := by omega
      clear hLD hseg bu oU oQ hb
      go_wp2_with fail
      rw [show k + (e + 2) + 1 - k = e + 2 + 1 by omega]
      refine Calls.mono HNW.out ?_
      rintro x w6 ⟨q, vs, rfl, q0, q1, oV, wv, kv, hsv, hlv, hg6⟩
      have oQ6 : OwnW w6 w2.heap.size w2.heap.size K qs := World.ownsRow.kept HOQ'.out hg6 (by right; intro e; simp [Value.ownBlock] at e; omega)
      have y1 := oQ6.cell k (by omega)
      have f1 := oQ6.free k
      have hlq := oQ6.len
      have hsv' : segTo vs k (e + 2 + 1) = segTo us k (e + 2 + 1) - q * val ds := hsv
      have hlv' : segTo vs k (e + 2 + 1) < val ds := hlv
      have hst := long_step us vs qs (e + 2) K k (val lf) (val ds) q (by omega) hlq wv (by rw [HVD.out]; exact HS4.out) HV.out (fun j hj => kv j (.inl hj)) hsv' hlv'
      have HST1 := hid hst.1
      have HST2 := hid hst.2
      have hos := OwnC.set (cap := K) oQ6 k q
      have HOQ2 : Hid (OwnW (w6.setCell ⟨w2.heap.size, k, none⟩ (.int .u32 q)) w2.heap.size w2.heap.size K (qs.set k q)) := hos.1
      have HOU : Hid (OwnW (w6.setCell ⟨w2.heap.size, k, none⟩ (.int .u32 q)) w1.heap.size w1.heap.size (n + 1) vs) := World.ownsRow.kept oV hos.2 (by right; intro e; simp [Value.ownBlock] at e; omega)
      have hb6 : Below w1.heap.size wr w6 := (Below.refl _ _).grown hg6 hbs (fun k hk => by simp at hk; omega)
      have HB6 : Hid (Below w1.heap.size w1 (w6.setCell ⟨w2.heap.size, k, none⟩ (.int .u32 q))) := (HB'.out.trans hb6).setCell (p := ⟨w2.heap.size, k, none⟩) hs2 (.int .u32 q)
      clear oQ6 hlq hsv hlv hsv' hlv' hst hos hb6 hg6 oV kv HNW HOQ' HB' HV HS
      go_wp2_with fail
      go_roundw
      case rel => exact ⟨k, vs, qs.set k q, by omega, by go_num, wv, wq.set _ ⟨q0, q1⟩, HST1, HST2, HOU.out, HOQ2.out, HB6.out⟩
      case measure => simp [intOf]
end Go.Proofs.YtgimgagnfkinmaaDoor

/- nat.divide, nat.DivMod: of every two numbers quotient and rest, in new memory; nat.Shift by any number. -/
namespace Go.Proofs.YtgimgagnfkinmaaDoor
open Go.RowKit
set_option linter.unusedVariables false

theorem len_le_of_val {xs ys : List Int} (wx : Wd xs) (wy : Wd ys) (ty : Trimmed ys) (h : val ys ≤ val xs) : ys.length ≤ xs.length := len_of_lt wy ty (by have := val_lt wx; omega)

set_option maxHeartbeats 800000 in
set_option maxRecDepth 100000 in
theorem divide_long (v u : Value) (xs ys : List Int) (e : Nat) (w : World) (h : Sl w v xs) (g : Sl w u ys) (hn : xs.length ≤ 8192) (hx : Trimmed xs) (hy : Trimmed ys) (hl : ys.length = e + 2) (hge : val ys ≤ val xs) :
    Calls Tryd.prog 105 #[v, u] w (Divided w xs ys) := by
  have hle := len_le_of_val h.wd g.wd hy hge
  have hci : 0 ≤ cmpI (val xs) (val ys) := by unfold cmpI; rw [if_neg (by omega)]; split <;> omega
  have CC := hid (compare_sl v u xs ys w h g (by omega) (by omega))
  obtain ⟨c, hc⟩ : ∃ c, cmpI (val xs) (val ys) = c := ⟨_, rfl⟩
  rw [hc] at CC hci
  have HD : Hid (∀ w1, Below w.heap.size w w1 → Calls Tryd.prog 109 #[v, u] w1 (Divided w1 xs ys)) := fun w1 hb => divideLong_any v u xs ys e w1 (h.later hb) (g.later hb) hn hx hy hl hle
  obtain ⟨b, cap', rfl, gr⟩ := g
  have h1 : ((ys.length : Int) == 1) = false := by simp; omega
  clear hc gr h hl hge
  go_enter Tryd.func105, Tryd.ntmps105
  go_wp2_with fail
  refine Calls.mono CC.out ?_
  rintro x w1 ⟨rfl, hb1⟩
  have HDD := hid (HD.out w1 hb1)
  have hs1 := hb1.size
  go_wp2_with fail
  refine Calls.mono HDD.out ?_
  rintro x w2 ⟨v1, u1, q, r, c, rfl, oq, orr, lq, lr, c1, c2, wq, wr, tq, tr, hv, hlt, hb2⟩
  have HF : Hid (Divided w xs ys (.returned (.tuple #[v1, u1])) w2) := ⟨v1, u1, q, r, c, rfl, owns_base oq hs1, owns_base orr hs1, fun g hg => by have := lq g hg; omega, lr, by omega, c2, wq, wr, tq, tr, hv, hlt, hb1.trans (hb2.mono hs1)⟩
  clear oq orr hv hlt hb2 HDD
  go_wp2_with fail
  go_ret2
  exact HF.out

theorem divide_any (v u : Value) (xs ys : List Int) (w : World) (h : Sl w v xs) (g : Sl w u ys) (hn : xs.length ≤ 8192) (hm : ys.length ≤ 8192) (hx : Trimmed xs) (hy : Trimmed ys) (h0 : 0 < ys.length) :
    Calls Tryd.prog 105 #[v, u] w (Divided w xs ys) := by
  by_cases hlt : val xs < val ys
  · exact divide_less v u xs ys w h g hn hm hlt
  · by_cases h1 : ys.length = 1
    · obtain ⟨y, rfl⟩ := List.length_eq_one_iff.1 h1
      have hy1 : 1 ≤ y := by
        have b := g.wd.head
        by_cases c : y = 0
        · rw [c] at hy; simp [Trimmed, sz, szTo] at hy
        · omega
      exact divide_word v u xs y w h g hn hx hy1 (by rw [val_one] at hlt; omega)
    · exact divide_long v u xs ys (ys.length - 2) w h g hn hx hy (by omega) (by omega)

set_option maxHeartbeats 800000 in
set_option maxRecDepth 100000 in
theorem divMod_any (v u : Value) (xs ys : List Int) (w : World) (h : Sl w v xs) (g : Sl w u ys) (lx : xs.length ≤ 8192) (ly : ys.length ≤ 8192) (tx : Trimmed xs) (ty : Trimmed ys) (h0 : 0 < ys.length) :
    Calls Tryd.prog 93 #[v, u] w fun e w' => ∃ v1 u1 q r, e = .returned (.tuple #[v1, u1, .int .i64 0]) ∧ Sl w' v1 q ∧ Sl w' u1 r ∧ Trimmed q ∧ Trimmed r ∧ val xs = val q * val ys + val r ∧ val r < val ys ∧ Below w.heap.size w w' := by
  have HB := hid (checkBoth_sl v u xs ys w h g (by omega) (by omega))
  rw [both_good (chk_good lx tx) (chk_good ly ty)] at HB
  have HD : Hid (Calls Tryd.prog 105 #[v, u] w (Divided w xs ys)) := divide_any v u xs ys w h g lx ly tx ty h0
  obtain ⟨b, cap', rfl, gr⟩ := g
  have hz : ((ys.length : Int) == 0) = false := by simp; exact fun e => by rw [e] at h0; simp at h0
  clear gr h ty
  go_enter Tryd.func93, Tryd.ntmps93
  go_wp2_with fail
  refine Calls.mono HB.out ?_
  rintro e w' ⟨rfl, rfl⟩
  go_wp2_with fail
  refine Calls.mono HD.out ?_
  rintro e w1 ⟨v1, u1, q, r, c, rfl, oq, orr, _, _, _, _, wq, wr, tq, tr, hv, hlt, hbel⟩
  have HQ := hid (Sl.own oq wq)
  have HR := hid (Sl.own orr wr)
  have HV := hid hv
  have HLT := hid hlt
  clear oq orr hv hlt
  go_wp2
  go_ret3
  exact ⟨v1, u1, q, r, rfl, HQ.out, HR.out, tq, tr, HV.out, HLT.out, hbel⟩

theorem shift_neg (v : Value) (xs : List Int) (m : Nat) (w : World) (h : Sl w v xs) (hl : xs.length ≤ 8192) (hx : Trimmed xs) (hm : m ≤ 262144) :
    Calls Tryd.prog 7 #[v, .int .i64 (-(m : Int))] w (Told w 0 (val xs / 2 ^ m)) := by
  by_cases h0 : m = 0
  · subst h0
    have := shift_up v xs 0 w h hl hx (by omega)
    rw [Int.pow_zero, Int.mul_one] at this
    rw [Int.pow_zero, Int.ediv_one]
    exact this
  · exact shift_down v xs m w h hl hx (by omega) hm

theorem bits_is {xs : List Int} (hw : Wd xs) (b : Nat) (h1 : 1 ≤ b) (h2 : (2 : Int) ^ (b - 1) ≤ val xs) (h3 : val xs < 2 ^ b) : bitsOf xs = b := by
  have hp : 0 < sz xs := by
    by_cases c : sz xs = 0
    · have := two_pos (b - 1)
      rw [val_sz, c] at h2
      have : valTo xs 0 = 0 := rfl
      omega
    · omega
  obtain ⟨b1, b2, b3, _, _⟩ := bits_bounds hw hp
  rcases Nat.lt_trichotomy (bitsOf xs) b with h | h | h
  · have := two_le (t := bitsOf xs) (u := b - 1) (by omega); omega
  · exact h
  · have := two_le (t := b) (u := bitsOf xs - 1) (by omega); omega
end Go.Proofs.YtgimgagnfkinmaaDoor

/- The law NatShifts answers true, and writes nothing that was there: whatever list and number come in, where the library's table of powers of ten stands as its text lays it. -/
namespace Go.Proofs.YtgimgagnfkinmaaDoor
open Go.RowKit
set_option linter.unusedVariables false

theorem shl_lt {x : Int} {L K M : Nat} (h0 : 0 ≤ x) (h : x < 4294967296 ^ L) (hK : K ≤ 32 * M) : x * 2 ^ K < 4294967296 ^ (L + M) := by
  rw [Int.pow_add]
  have p := two_pos K
  have e1 : (2 : Int) ^ K ≤ 4294967296 ^ M := by rw [pw_two]; exact two_le hK
  have e2 : x * 2 ^ K < 4294967296 ^ L * 2 ^ K := Int.mul_lt_mul_of_pos_right h p
  have e3 : (4294967296 : Int) ^ L * 2 ^ K ≤ 4294967296 ^ L * 4294967296 ^ M := Int.mul_le_mul_of_nonneg_left e1 (Int.le_of_lt (pw_pos L))
  omega
theorem shr_lt {x : Int} {L K : Nat} (h0 : 0 ≤ x) (h : x < 4294967296 ^ L) : x / 2 ^ K < 4294967296 ^ L := by
  have : x / 2 ^ K ≤ x := Int.ediv_le_self _ h0
  omega
theorem bits_shl {zA zU : List Int} {K : Nat} (wA : Wd zA) (wU : Wd zU) (hp : 0 < sz zA) (h : val zU = val zA * 2 ^ K) : bitsOf zU = bitsOf zA + K := by
  obtain ⟨b1, b2, b3, _, _⟩ := bits_bounds wA hp
  have p := two_pos K
  refine bits_is wU _ (by omega) ?_ ?_
  · have e : (2 : Int) ^ (bitsOf zA - 1) * 2 ^ K ≤ val zA * 2 ^ K := Int.mul_le_mul_of_nonneg_right b2 (Int.le_of_lt p)
    rw [← Int.pow_add] at e
    rw [h, show bitsOf zA + K - 1 = bitsOf zA - 1 + K by omega]; exact e
  · have e : val zA * 2 ^ K < 2 ^ bitsOf zA * 2 ^ K := Int.mul_lt_mul_of_pos_right b3 p
    rw [← Int.pow_add] at e
    rw [h]; exact e

end Go.Proofs.YtgimgagnfkinmaaDoor

/- Shifts, nat's and the document's, in whole: of every list and number of bits. -/
namespace Go.Proofs.YtgimgagnfkinmaaDoor
open Go.RowKit
set_option linter.unusedVariables false

/-- The error of a shift, and its value. -/
def shErr (xs : List Int) (n : Int) : Int := if chk xs = 0 then (if n < -262144 ∨ 262144 < n then 2 else 0) else chk xs
def shVal (xs : List Int) (n : Int) : Int := if n < 0 then val xs / 2 ^ (-n).toNat else val xs * 2 ^ n.toNat
theorem shErr_bad {xs : List Int} {n : Int} (h : chk xs ≠ 0) : shErr xs n = chk xs := by unfold shErr; rw [if_neg h]
theorem shErr_arg {xs : List Int} {n : Int} (h : chk xs = 0) (hn : n < -262144 ∨ 262144 < n) : shErr xs n = 2 := by unfold shErr; rw [if_pos h, if_pos hn]
theorem shErr_ok {xs : List Int} {n : Int} (h : chk xs = 0) (hn : ¬ (n < -262144 ∨ 262144 < n)) : shErr xs n = 0 := by unfold shErr; rw [if_pos h, if_neg hn]
theorem wide_two : wide = 2 ^ 262144 := by unfold wide; rw [pw_two]

set_option maxHeartbeats 1600000 in
set_option maxRecDepth 100000 in
theorem natShift_full (v : Value) (xs : List Int) (n : Int) (w : World) (h : Sl w v xs) (hl : xs.length ≤ 281474976710656) (n0 : -9223372036854775808 ≤ n) (n1 : n ≤ 9223372036854775807) :
    Calls Tryd.prog 7 #[v, .int .i64 n] w (Told w (shErr xs n) (shVal xs n)) := by
  by_cases hc : chk xs = 0
  · by_cases ha : n < -262144 ∨ 262144 < n
    · have HC := hid (check_sl v xs w h hl)
      rw [shErr_arg hc ha]
      rw [hc] at HC
      have HE := hid (Tells.err (e := 2) (t := shVal xs n) (by decide))
      clear h hc
      by_cases a1 : n < -262144
      · clear ha
        go_enter Tryd.func7, Tryd.ntmps7
        go_wp2_with fail
        refine Calls.mono HC.out ?_
        rintro e w1 ⟨rfl, rfl⟩
        go_wp2_with fail
        go_ret2
        exact ⟨_, [], 2, rfl, World.ownsRow_nil _ _ _ _, HE.out, Below.refl _ _⟩
      · have a2 : 262144 < n := by omega
        clear ha
        go_enter Tryd.func7, Tryd.ntmps7
        go_wp2_with fail
        refine Calls.mono HC.out ?_
        rintro e w1 ⟨rfl, rfl⟩
        go_wp2_with fail
        go_ret2
        exact ⟨_, [], 2, rfl, World.ownsRow_nil _ _ _ _, HE.out, Below.refl _ _⟩
    · rw [shErr_ok hc ha]
      obtain ⟨lx, tx⟩ := chk_ok hc
      by_cases hneg : n < 0
      · have e := shift_neg v xs (-n).toNat w h lx tx (by omega)
        rw [show -(((-n).toNat : Nat) : Int) = n by omega] at e
        have e2 : shVal xs n = val xs / 2 ^ (-n).toNat := by unfold shVal; rw [if_pos hneg]
        rw [e2]; exact e
      · have e := shift_up v xs n.toNat w h lx tx (by omega)
        rw [show ((n.toNat : Nat) : Int) = n by omega] at e
        have e2 : shVal xs n = val xs * 2 ^ n.toNat := by unfold shVal; rw [if_neg hneg]
        rw [e2]; exact e
  · have HC := hid (check_sl v xs w h hl)
    rw [shErr_bad hc]
    have hc' : (chk xs == 0) = false := by simpa using hc
    have HE := hid (Tells.err (t := shVal xs n) hc)
    clear h hc
    go_enter Tryd.func7, Tryd.ntmps7
    go_wp2_with fail
    refine Calls.mono HC.out ?_
    rintro e w1 ⟨rfl, rfl⟩
    go_wp2_with fail
    go_ret2
    exact ⟨_, [], _, rfl, World.ownsRow_nil _ _ _ _, HE.out, Below.refl _ _⟩

set_option maxHeartbeats 1600000 in
set_option maxRecDepth 100000 in
theorem refUp_nil (a : Option Addr) (cap : Nat) (M : Int) (w : World) :
    Calls Tryd.prog 35 #[.slice a 0 cap, .int .i64 M] w fun e w' => e = .returned (.slice none 0 0) ∧ w = w' := by
  go_enter Tryd.func35, Tryd.ntmps35
  go_wp2_with fail
  go_ret
  exact ⟨rfl, rfl⟩
theorem parts_of (m : Nat) : m = 32 * (m / 32) + m % 32 := by omega
theorem two_parts (m : Nat) : (2 : Int) ^ m = 4294967296 ^ (m / 32) * 2 ^ (m % 32) := by
  rw [pw_two, ← Int.pow_add]
  congr 1
  omega

set_option maxHeartbeats 3200000 in
set_option maxRecDepth 100000 in
theorem refShift_full (v : Value) (xs : List Int) (n : Int) (w : World) (h : Sl w v xs) (hl : xs.length ≤ 281474976710656) (n0 : -9223372036854775808 ≤ n) (n1 : n ≤ 9223372036854775807) :
    Calls Tryd.prog 8 #[v, .int .i64 n] w (Told w (shErr xs n) (shVal xs n)) := by
  by_cases hc : chk xs = 0
  · by_cases ha : n < -262144 ∨ 262144 < n
    · have HC := hid (refCheck_sl v xs w h hl)
      rw [shErr_arg hc ha]
      rw [hc] at HC
      have HE := hid (Tells.err (e := 2) (t := shVal xs n) (by decide))
      clear h hc
      by_cases a1 : n < -262144
      · clear ha
        go_enter Tryd.func8, Tryd.ntmps8
        go_wp2_with fail
        refine Calls.mono HC.out ?_
        rintro e w1 ⟨rfl, rfl⟩
        go_wp2_with fail
        go_ret2
        exact ⟨_, [], 2, rfl, World.ownsRow_nil _ _ _ _, HE.out, Below.refl _ _⟩
      · have a2 : 262144 < n := by omega
        clear ha
        go_enter Tryd.func8, Tryd.ntmps8
        go_wp2_with fail
        refine Calls.mono HC.out ?_
        rintro e w1 ⟨rfl, rfl⟩
        go_wp2_with fail
        go_ret2
        exact ⟨_, [], 2, rfl, World.ownsRow_nil _ _ _ _, HE.out, Below.refl _ _⟩
    · rw [shErr_ok hc ha]
      obtain ⟨lx, tx⟩ := chk_ok hc
      have HC := hid (refCheck_sl v xs w h hl)
      rw [hc] at HC
      have a1 : ¬ n < -262144 := by omega
      have a2 : ¬ 262144 < n := by omega
      have wx := h.wd
      by_cases hneg : n < 0
      · obtain ⟨m, hm⟩ : ∃ m, (-n).toNat = m := ⟨_, rfl⟩
        have hmn : -n = (m : Int) := by omega
        have hlt : val xs / 2 ^ m < wide := by
          have h1 := val_lt wx
          have h2 : (4294967296 : Int) ^ xs.length ≤ wide := pw_le lx
          have h3 : val xs / 2 ^ m ≤ val xs := Int.ediv_le_self _ (val_nonneg wx)
          omega
        have e2 : shVal xs n = val xs / 2 ^ m := by unfold shVal; rw [if_pos hneg, hm]
        rw [e2]
        have HDN : Hid (Calls Tryd.prog 32 #[v, .int .i64 (m : Int)] w (Ref1 w (val xs / 2 ^ m))) := by
          obtain ⟨a, cap, rfl, hr⟩ := h
          by_cases hW : m / 32 < xs.length
          · have e := refDown_any a xs.length cap xs (m / 32) (m % 32) (m : Int) w hr (by omega) hW (by omega) (by omega)
            rw [Int.ediv_ediv_of_nonneg (Int.le_of_lt (pw_pos _)), ← two_parts] at e
            exact e
          · refine Calls.mono (refDown_none a xs.length cap (m / 32) (m % 32) (m : Int) w (by omega) (by omega) (by omega) (by omega) (by omega)) ?_
            rintro e w' ⟨rfl, rfl⟩
            refine ⟨_, [], rfl, World.ownsRow_nil _ _ _ _, Wd.nil, Trimmed.nil, ?_, Below.refl _ _⟩
            rw [val_nil]
            symm
            refine Int.ediv_eq_zero_of_lt (val_nonneg wx) ?_
            have h1 := val_lt wx
            have h2 : (4294967296 : Int) ^ xs.length ≤ 2 ^ m := pw_two_le (by omega)
            omega
        have HLT := hid hlt
        clear h hc ha e2 hlt hm wx tx
        go_enter Tryd.func8, Tryd.ntmps8
        go_wp2_with fail
        refine Calls.mono HC.out ?_
        rintro e w1 ⟨rfl, rfl⟩
        go_wp2_with fail
        refine Calls.mono HDN.out ?_
        rintro e w2 ⟨v2, zs, rfl, o2, wz, tz, vz, hb2⟩
        have HR := hid (And.intro o2 (And.intro (Tells.ok wz tz vz HLT.out) hb2))
        clear o2 wz tz vz hb2
        go_wp2_with fail
        go_ret2
        exact ⟨v2, zs, 0, rfl, HR.out⟩
      · obtain ⟨m, hm⟩ : ∃ m, n.toNat = m := ⟨_, rfl⟩
        have hmn : n = (m : Int) := by omega
        subst hmn
        have e2 : shVal xs (m : Int) = val xs * 2 ^ m := by unfold shVal; rw [if_neg hneg, hm]
        rw [e2]
        by_cases h0 : xs.length = 0
        · obtain rfl : xs = [] := List.eq_nil_of_length_eq_zero h0
          obtain ⟨a, cap, rfl, hr⟩ := h
          have HU := hid (refUp_nil a cap (m : Int) w)
          have HT := hid (refTold_ok none 0 0 w (by omega))
          have HE : Hid (Tells 0 (val [] * 2 ^ m) [] 0) := Tells.ok Wd.nil Trimmed.nil (by rw [val_nil]; simp) (by rw [val_nil]; simp; unfold wide; exact pw_pos _)
          have hl0 : List.length ([] : List Int) = 0 := rfl
          rw [hl0] at HC ⊢
          clear hr hc ha e2 hm hl0 h0
          go_enter Tryd.func8, Tryd.ntmps8
          go_wp2_with fail
          refine Calls.mono HC.out ?_
          rintro e w1 ⟨rfl, rfl⟩
          go_wp2_with fail
          refine Calls.mono HU.out ?_
          rintro e w1 ⟨rfl, rfl⟩
          go_wp2_with fail
          refine Calls.mono HT.out ?_
          rintro e w1 ⟨rfl, rfl⟩
          go_wp2_with fail
          go_ret2
          exact ⟨_, [], 0, rfl, World.ownsRow_nil _ _ _ _, HE.out, Below.refl _ _⟩
        · have hp : (0 : Int) < (xs.length : Int) := by omega
          have HB := hid (refBits_sl v xs w h (by omega))
          have hsz : sz xs = xs.length := tx
          obtain ⟨q1, q2, q3, q4, q5⟩ := bits_bounds wx (show 0 < sz xs by omega)
          obtain ⟨B, hB⟩ : ∃ B, bitsOf xs = B := ⟨_, rfl⟩
          rw [hB] at HB q1 q2 q3 q4 q5
          have HSX := hid h
          obtain ⟨a, cap, rfl, hr⟩ := h
          by_cases hbig : 262144 < B + m
          · have HL : Hid (wide ≤ val xs * 2 ^ m) := by
              show _ ≤ _
              rw [wide_two]
              have e1 : (2 : Int) ^ (B - 1) * 2 ^ m ≤ val xs * 2 ^ m := Int.mul_le_mul_of_nonneg_right q2 (Int.le_of_lt (two_pos m))
              rw [← Int.pow_add] at e1
              have e3 : (2 : Int) ^ 262144 ≤ 2 ^ (B - 1 + m) := two_le (by omega)
              generalize (2 : Int) ^ 262144 = Y at *
              omega
            have hb' : (262144 : Int) < (B : Int) + (m : Int) := by omega
            have hB2 : (B : Int) ≤ 300000 := by omega
            clear hr hc ha e2 hm hB q2 q3 hbig wx tx
            go_enter Tryd.func8, Tryd.ntmps8
            go_wp2_with fail
            refine Calls.mono HC.out ?_
            rintro e w1 ⟨rfl, rfl⟩
            go_wp2_with fail
            refine Calls.mono HB.out ?_
            rintro e w1 ⟨rfl, hb1⟩
            go_wp2_with fail
            go_ret2
            exact ⟨_, [], 3, rfl, World.ownsRow_nil _ _ _ _, Tells.tooLong HL.out, hb1⟩
          · have hb' : ¬ (262144 : Int) < (B : Int) + (m : Int) := by omega
            have hB2 : (B : Int) ≤ 300000 := by omega
            have HU := hid (fun ww (hb : Below w.heap.size w ww ∧ w.heap.size ≤ ww.heap.size) => refUp_any a xs.length cap xs (m / 32) (m % 32) (m : Int) ww (Reads.later (B := w.heap.size) (w := w) hr hb.1 hb.2) (by omega) (by omega) (by omega) (by omega) (by omega))
            have HV : Hid (val xs * 2 ^ (m % 32) * 4294967296 ^ (m / 32) = val xs * 2 ^ m) := by
              show _ = _
              rw [two_parts m, Int.mul_assoc, Int.mul_comm (2 ^ (m % 32))]
            rw [HV.out] at HU
            clear hr hc ha e2 hm hB q2 q3 wx tx hbig
            go_enter Tryd.func8, Tryd.ntmps8
            go_wp2_with fail
            refine Calls.mono HC.out ?_
            rintro e w1 ⟨rfl, rfl⟩
            go_wp2_with fail
            refine Calls.mono HB.out ?_
            rintro e w1 ⟨rfl, hb1⟩
            have HB1 := hid hb1
            have HU2 := hid (HU.out w1 ⟨hb1, hb1.size⟩)
            clear hb1 HU HB
            go_wp2_with fail
            refine Calls.mono HU2.out ?_
            rintro e w2 ⟨v2, zs, rfl, o2, wz, tz, vz, hb2⟩
            obtain ⟨a2, c2, hs2⟩ := own_slice' o2
            subst hs2
            replace o2 := owns_base o2 HB1.out.size
            replace hb2 := bt HB1.out hb2
            have hwd := trimmed_wide wz tz vz
            have HR := hid (And.intro o2 (And.intro wz (And.intro tz (And.intro vz hb2))))
            by_cases hlen : 8192 < zs.length
            · have HT := hid (refTold_long a2 zs.length c2 w2 hlen)
              have HL := hid (hwd.1 hlen)
              clear o2 wz tz vz hwd hb2 hlen
              go_wp2_with fail
              refine Calls.mono HT.out ?_
              rintro e w3 ⟨rfl, rfl⟩
              go_wp2_with fail
              go_ret2
              exact ⟨_, [], 3, rfl, World.ownsRow_nil _ _ _ _, Tells.tooLong HL.out, HR.out.2.2.2.2⟩
            · have HT := hid (refTold_ok a2 zs.length c2 w2 (by omega))
              have HL := hid (Int.not_le.1 fun h => hlen (hwd.2 h))
              clear o2 wz tz vz hwd hb2 hlen
              go_wp2_with fail
              refine Calls.mono HT.out ?_
              rintro e w3 ⟨rfl, rfl⟩
              go_wp2_with fail
              go_ret2
              exact ⟨_, zs, 0, rfl, HR.out.1, Tells.ok HR.out.2.1 HR.out.2.2.1 HR.out.2.2.2.1 HL.out, HR.out.2.2.2.2⟩
  · have HC := hid (refCheck_sl v xs w h hl)
    rw [shErr_bad hc]
    have hc' : (chk xs == 0) = false := by simpa using hc
    have HE := hid (Tells.err (t := shVal xs n) hc)
    clear h hc
    go_enter Tryd.func8, Tryd.ntmps8
    go_wp2_with fail
    refine Calls.mono HC.out ?_
    rintro e w1 ⟨rfl, rfl⟩
    go_wp2_with fail
    go_ret2
    exact ⟨_, [], _, rfl, World.ownsRow_nil _ _ _ _, HE.out, Below.refl _ _⟩
end Go.Proofs.YtgimgagnfkinmaaDoor

/- The law NatTexts answers true, and writes nothing that was there: whatever list, number of bits and text come in. -/
namespace Go.Proofs.YtgimgagnfkinmaaDoor
open Go.RowKit
set_option linter.unusedVariables false

/-- 5 lists of the call's own, made one behind the other, in a list of lists. -/
theorem five_apart {w : World} {b b1 b2 b3 b4 b5 n1 n2 n3 n4 n5 : Nat} {v1 v2 v3 v4 v5 : Value} {x1 x2 x3 x4 x5 : List Int} (c1 c2 c3 c4 c5 c6 : Nat) (hm : c1 ≤ c2 ∧ c2 ≤ c3 ∧ c3 ≤ c4 ∧ c4 ≤ c5 ∧ c5 ≤ c6)
    (o1 : w.ownsRow b1 47 1 v1 n1 (x1.map (Value.int .u32))) (d1 : Wd x1) (l1 : x1.length ≤ 1000000) (e1 : b ≤ b1)
    (o2 : w.ownsRow b2 47 1 v2 n2 (x2.map (Value.int .u32))) (d2 : Wd x2) (l2 : x2.length ≤ 1000000) (e2 : b ≤ b2)
    (o3 : w.ownsRow b3 47 1 v3 n3 (x3.map (Value.int .u32))) (d3 : Wd x3) (l3 : x3.length ≤ 1000000) (e3 : b ≤ b3)
    (o4 : w.ownsRow b4 47 1 v4 n4 (x4.map (Value.int .u32))) (d4 : Wd x4) (l4 : x4.length ≤ 1000000) (e4 : b ≤ b4)
    (o5 : w.ownsRow b5 47 1 v5 n5 (x5.map (Value.int .u32))) (d5 : Wd x5) (l5 : x5.length ≤ 1000000) (e5 : b ≤ b5)
    (i1 : Within v1 c1 c2) (i2 : Within v2 c2 c3) (i3 : Within v3 c3 c4) (i4 : Within v4 c4 c5) (i5 : Within v5 c5 c6) :
    Lists (w.alloc (.cells #[v1, v2, v3, v4, v5] 22)) b w.heap.size 5 (fun j => [v1, v2, v3, v4, v5][j]?.getD undef) (fun j => [x1, x2, x3, x4, x5][j]?.getD []) := by
  have k1 : x1.length = n1 := by have := o1.1; simpa using this
  have k2 : x2.length = n2 := by have := o2.1; simpa using this
  have k3 : x3.length = n3 := by have := o3.1; simpa using this
  have k4 : x4.length = n4 := by have := o4.1; simpa using this
  have k5 : x5.length = n5 := by have := o5.1; simpa using this
  subst k1; subst k2; subst k3; subst k4; subst k5
  obtain ⟨m1, m2, m3, m4, m5⟩ := hm
  refine ⟨fun j hj => ?_, fun j hj => ?_, fun j hj => ?_, apart_perm (fun j => [c1, c2, c3, c4, c5, c6][j]?.getD 0) (fun j => ([0, 1, 2, 3, 4] : List Nat)[j]?.getD 0) (fun j hj => ?_) (by decide) (by decide) (fun j hj => ?_), ⟨_, heap_alloc_new w _, fun j hj => ?_⟩⟩
  · match j, hj with
    | 0, _ => exact d1
    | 1, _ => exact d2
    | 2, _ => exact d3
    | 3, _ => exact d4
    | 4, _ => exact d5
  · match j, hj with
    | 0, _ => show x1.length ≤ _; omega
    | 1, _ => show x2.length ≤ _; omega
    | 2, _ => show x3.length ≤ _; omega
    | 3, _ => show x4.length ≤ _; omega
    | 4, _ => show x5.length ≤ _; omega
  · match j, hj with
    | 0, _ => exact owns_base (o1.alloc _) e1
    | 1, _ => exact owns_base (o2.alloc _) e2
    | 2, _ => exact owns_base (o3.alloc _) e3
    | 3, _ => exact owns_base (o4.alloc _) e4
    | 4, _ => exact owns_base (o5.alloc _) e5
  · match j, hj with
    | 0, _ => exact m1
    | 1, _ => exact m2
    | 2, _ => exact m3
    | 3, _ => exact m4
    | 4, _ => exact m5
  · match j, hj with
    | 0, _ => exact i1
    | 1, _ => exact i2
    | 2, _ => exact i3
    | 3, _ => exact i4
    | 4, _ => exact i5
  · match j, hj with
    | 0, _ => rfl
    | 1, _ => rfl
    | 2, _ => rfl
    | 3, _ => rfl
    | 4, _ => rfl

set_option maxHeartbeats 25600000 in
set_option maxRecDepth 100000 in
theorem natTexts_walk (a0 : Option Addr) (n0' cap0 : Nat) (xs : List Int) (nn : Int) (s : ByteArray) (w : World)
    (h : Reads w w.heap.size a0 n0' cap0 xs) (n0 : -9223372036854775808 ≤ nn) (n1 : nn ≤ 9223372036854775807) (hs : s.size ≤ maxLen) (htab : Tab w) :
    Calls Tryd.prog 3 #[.slice a0 n0' cap0, .int .i64 nn, .string s] w fun e w' => e = .returned (.bool true) ∧ Below w.heap.size w w' := by
  have hn0 : n0' ≤ 9223372036854775807 := by have := h.2.2.2.1; have := h.2.2.2.2.1; unfold maxLen at this; omega
  have hsm : (s.size : Int) ≤ 9223372036854775807 := by unfold maxLen at hs; omega
  have HC0 := hid (heavy_any a0 n0' cap0 w hn0)
  by_cases hv0 : heavy n0' = true
  · rw [hv0] at HC0
    clear h hv0 htab
    go_enter Tryd.func3, Tryd.ntmps3
    go_wp2_with fail
    refine Calls.mono HC0.out ?_
    rintro e w' ⟨rfl, rfl⟩
    go_wp2_with fail
    go_ret
    exact ⟨rfl, Below.refl _ _⟩
  have hv0 : heavy n0' = false := by simpa using hv0
  rw [hv0] at HC0
  by_cases s1 : 3000 < s.size ∧ s.size ≤ 65536
  · obtain ⟨s1, s2⟩ := s1
    have s1' : (3000 : Int) < (s.size : Int) := by omega
    have s2' : (s.size : Int) ≤ 65536 := by omega
    clear h hv0 htab s1 s2
    go_enter Tryd.func3, Tryd.ntmps3
    go_wp2_with fail
    refine Calls.mono HC0.out ?_
    rintro e w' ⟨rfl, rfl⟩
    go_wp2_with fail
    go_ret
    exact ⟨rfl, Below.refl _ _⟩
  by_cases s3 : 65545 < s.size
  · have s1' : (3000 : Int) < (s.size : Int) := by omega
    have s2' : ¬ (s.size : Int) ≤ 65536 := by omega
    have s3' : (65545 : Int) < (s.size : Int) := by omega
    clear h hv0 htab s1 s3
    go_enter Tryd.func3, Tryd.ntmps3
    go_wp2_with fail
    refine Calls.mono HC0.out ?_
    rintro e w' ⟨rfl, rfl⟩
    go_wp2_with fail
    go_ret
    exact ⟨rfl, Below.refl _ _⟩
  have hss : (¬ (3000 : Int) < (s.size : Int) ∧ ¬ (65545 : Int) < (s.size : Int)) ∨ ((3000 : Int) < (s.size : Int) ∧ ¬ (s.size : Int) ≤ 65536 ∧ ¬ (65545 : Int) < (s.size : Int)) := by omega
  by_cases a1 : 0 < n0' ∧ n0' ≤ 300 ∧ 40000 < nn ∧ nn < 262104
  · obtain ⟨a1, a2, a3, a4⟩ := a1
    have a1' : (0 : Int) < (n0' : Int) := by omega
    have a2' : (n0' : Int) ≤ 300 := by omega
    clear h hv0 htab s1 s3 a1 a2
    rcases hss with ⟨s1', s3'⟩ | ⟨s1', s2', s3'⟩
    · go_enter Tryd.func3, Tryd.ntmps3
      go_wp2_with fail
      refine Calls.mono HC0.out ?_
      rintro e w' ⟨rfl, rfl⟩
      go_wp2_with fail
      go_ret
      exact ⟨rfl, Below.refl _ _⟩
    · go_enter Tryd.func3, Tryd.ntmps3
      go_wp2_with fail
      refine Calls.mono HC0.out ?_
      rintro e w' ⟨rfl, rfl⟩
      go_wp2_with fail
      go_ret
      exact ⟨rfl, Below.refl _ _⟩
  have haa : (¬ (0 : Int) < (n0' : Int)) ∨ ((0 : Int) < (n0' : Int) ∧ ¬ (n0' : Int) ≤ 300) ∨ ((0 : Int) < (n0' : Int) ∧ (n0' : Int) ≤ 300 ∧ ¬ 40000 < nn) ∨ ((0 : Int) < (n0' : Int) ∧ (n0' : Int) ≤ 300 ∧ 40000 < nn ∧ ¬ nn < 262104) := by omega
  have b0 : n0' ≤ 8201 := by unfold heavy at hv0; have := of_decide_eq_false hv0; omega
  have lx := h.1
  have wx := h.2.1
  have sa : Sl w (.slice a0 n0' cap0) xs := ⟨a0, cap0, by rw [lx], by rw [lx]; exact h⟩
  have LX := hid lx
  clear h hv0 lx hn0 s1 s3 a1
  rcases hss with ⟨s1', s3'⟩ | ⟨s1', s2', s3'⟩ <;> rcases haa with a1' | ⟨a1', a2'⟩ | ⟨a1', a2', a3'⟩ | ⟨a1', a2', a3', a4'⟩
  all_goals
    go_enter Tryd.func3, Tryd.ntmps3
    go_wp2_with fail
    refine Calls.mono HC0.out ?_
    rintro e w' ⟨rfl, rfl⟩
    clear HC0
    go_wp2_with fail
    refine (lentWords_sl _ xs _ sa (by rw [LX.out]; omega)).mono ?_
    rintro e w1 ⟨vf, rfl, of, hb1⟩
    have inF := Within.own of (Nat.le_refl _)
    replace sa := sa.later hb1
    rw [LX.out] at of
    obtain ⟨gf, capf, hvf, hcf, hcmf⟩ := own_shape of (by omega)
    rw [hvf]
    rw [hvf] at inF
    have hcmf' : capf ≤ 9223372036854775807 := by unfold maxLen at hcmf; omega
    clear hcmf
    go_wp2_with fail
    have sp : Sl w1 (.slice (some ⟨gf, 0, none⟩) n0' capf) xs := by
      rw [hvf, List.map_append] at of
      exact Sl.own (w := w1) (owns_front (k := 3) of (by simp [LX.out])) wx
    have of3 : w1.ownsRow w.heap.size 47 1 (.slice (some ⟨gf, 0, none⟩) (n0' + 3) capf) (n0' + 3) ((xs ++ marks 3).map (Value.int .u32)) := by rw [hvf] at of; exact of
    obtain ⟨W, hW⟩ : ∃ W, W = w1 := ⟨_, rfl⟩
    rw [← hW] at hb1 sp of3 sa inF ⊢
    clear hW of hvf
    replace htab := htab.later hb1
    have hb3 := hb1
    have s0 : w.heap.size ≤ W.heap.size := hb3.size
    have lnx : xs.length ≤ 8201 := by rw [LX.out]; exact b0
    clear hb1
    refine (natShift_full _ xs nn _ sp (by omega) n0 n1).mono ?_
    rintro e w3 ⟨vx1, zx1, cx1, rfl, ox1, tx1, hb⟩
    have hszw3 := hb.size
    obtain ⟨avx1, kvx1, hs⟩ := own_slice' ox1
    subst hs
    have invx1 := Within.own ox1 (Nat.le_refl _)
    have hbt := hb
    replace sa := sa.later hb
    replace sp := sp.later hb
    replace of3 := owns_later of3 hb
    replace hb3 := bt hb3 hb
    clear hb
    replace htab := htab.later hbt
    clear hbt
    go_wp2_with fail
    refine (natShift_full _ xs nn _ sp (by omega) n0 n1).mono ?_
    rintro e w4 ⟨vx2, zx2, cx2, rfl, ox2, tx2, hb⟩
    have hszw4 := hb.size
    obtain ⟨avx2, kvx2, hs⟩ := own_slice' ox2
    subst hs
    have invx2 := Within.own ox2 (Nat.le_refl _)
    have hbt := hb
    replace sa := sa.later hb
    replace sp := sp.later hb
    replace of3 := owns_later of3 hb
    replace ox1 := owns_later ox1 hb
    replace hb3 := bt hb3 hb
    clear hb
    replace htab := htab.later hbt
    clear hbt
    obtain ⟨rfl, rfl⟩ := tx2.same tx1
    clear tx2
    go_wp2_with fail
    refine (refShift_full _ xs nn _ sa (by omega) n0 n1).mono ?_
    rintro e w5 ⟨vx3, zx3, cx3, rfl, ox3, tx3, hb⟩
    have hszw5 := hb.size
    have hbt := hb
    replace sa := sa.later hb
    replace sp := sp.later hb
    replace of3 := owns_later of3 hb
    replace ox1 := owns_later ox1 hb
    replace ox2 := owns_later ox2 hb
    replace hb3 := bt hb3 hb
    clear hb
    replace htab := htab.later hbt
    clear hbt
    obtain ⟨rfl, rfl⟩ := tx3.same tx1
    have wX := tx1.wd
    have lX := tx1.len
    clear tx3 tx1
    go_wp2_with fail
    have HP1 := hid (print_any _ xs _ sp (by omega) htab)
    have HP2 := hid (fun ww (h : Sl ww (.slice a0 n0' cap0) xs) => refPrint_any _ xs ww h (by omega))
    obtain ⟨S, hS⟩ : ∃ S : ByteArray, (if chk xs = 0 then ⟨(Lib.decDigits (val xs).toNat).toArray⟩ else ⟨#[]⟩ : ByteArray) = S := ⟨_, rfl⟩
    rw [hS] at HP1 HP2
    clear hS
    obtain ⟨C, hC⟩ : ∃ C, chk xs = C := ⟨_, rfl⟩
    rw [hC] at HP1 HP2
    clear hC
    refine (HP1.out).mono ?_
    rintro e w6 ⟨rfl, hb⟩
    have hszw6 := hb.size
    have hbt := hb
    clear HP1
    replace sa := sa.later hb
    replace sp := sp.later hb
    replace of3 := owns_later of3 hb
    replace ox1 := owns_later ox1 hb
    replace ox2 := owns_later ox2 hb
    replace ox3 := owns_later ox3 hb
    replace hb3 := bt hb3 hb
    clear hb
    replace htab := htab.later hbt
    clear hbt
    go_wp2_with fail
    refine (HP2.out _ sa).mono ?_
    rintro e w7 ⟨rfl, hb⟩
    have hszw7 := hb.size
    have hbt := hb
    clear HP2
    replace sa := sa.later hb
    replace sp := sp.later hb
    replace of3 := owns_later of3 hb
    replace ox1 := owns_later ox1 hb
    replace ox2 := owns_later ox2 hb
    replace ox3 := owns_later ox3 hb
    replace hb3 := bt hb3 hb
    clear hb
    replace htab := htab.later hbt
    clear hbt
    go_wp2_with fail
    refine (parse_any s _ hs).mono ?_
    rintro e w8 ⟨vv1, zv1, cv1, rfl, ov1, tv1, hb⟩
    have hszw8 := hb.size
    obtain ⟨avv1, kvv1, hs⟩ := own_slice' ov1
    subst hs
    have invv1 := Within.own ov1 (Nat.le_refl _)
    have hbt := hb
    replace sa := sa.later hb
    replace sp := sp.later hb
    replace of3 := owns_later of3 hb
    replace ox1 := owns_later ox1 hb
    replace ox2 := owns_later ox2 hb
    replace ox3 := owns_later ox3 hb
    replace hb3 := bt hb3 hb
    clear hb
    replace htab := htab.later hbt
    clear hbt
    go_wp2_with fail
    refine (parse_any s _ hs).mono ?_
    rintro e w9 ⟨vv2, zv2, cv2, rfl, ov2, tv2, hb⟩
    have hszw9 := hb.size
    obtain ⟨avv2, kvv2, hs⟩ := own_slice' ov2
    subst hs
    have invv2 := Within.own ov2 (Nat.le_refl _)
    have hbt := hb
    replace sa := sa.later hb
    replace sp := sp.later hb
    replace of3 := owns_later of3 hb
    replace ox1 := owns_later ox1 hb
    replace ox2 := owns_later ox2 hb
    replace ox3 := owns_later ox3 hb
    replace ov1 := owns_later ov1 hb
    replace hb3 := bt hb3 hb
    clear hb
    replace htab := htab.later hbt
    clear hbt
    obtain ⟨rfl, rfl⟩ := tv2.same tv1
    clear tv2
    go_wp2_with fail
    refine (refParse_any s _ hs).mono ?_
    rintro e w10 ⟨vv3, zv3, cv3, rfl, ov3, tv3, hb⟩
    have hszw10 := hb.size
    have hbt := hb
    replace sa := sa.later hb
    replace sp := sp.later hb
    replace of3 := owns_later of3 hb
    replace ox1 := owns_later ox1 hb
    replace ox2 := owns_later ox2 hb
    replace ox3 := owns_later ox3 hb
    replace ov1 := owns_later ov1 hb
    replace ov2 := owns_later ov2 hb
    replace hb3 := bt hb3 hb
    clear hb
    replace htab := htab.later hbt
    clear hbt
    obtain ⟨rfl, rfl⟩ := tv3.same tv1
    have wV := tv1.wd
    have lV := tv1.len
    clear tv3 tv1
    go_wp2_with fail
    clear sp
    refine (lawOne_any _ _ _ zx3 cx3 _ (Sl.own ox1 wX) (Sl.own ox2 wX) (Sl.own ox3 wX) (by omega)).mono ?_
    rintro e w11 ⟨rfl, hb⟩
    have hszw11 := hb.size
    have hbt := hb
    clear ox3
    replace sa := sa.later hb
    replace of3 := owns_later of3 hb
    replace ox1 := owns_later ox1 hb
    replace ox2 := owns_later ox2 hb
    replace ov1 := owns_later ov1 hb
    replace ov2 := owns_later ov2 hb
    replace ov3 := owns_later ov3 hb
    replace hb3 := bt hb3 hb
    clear hb
    replace htab := htab.later hbt
    clear hbt
    go_wp2_with fail
    refine (lawOne_any _ _ _ zv3 cv3 _ (Sl.own ov1 wV) (Sl.own ov2 wV) (Sl.own ov3 wV) (by omega)).mono ?_
    rintro e w12 ⟨rfl, hb⟩
    have hszw12 := hb.size
    have hbt := hb
    clear ov3
    replace sa := sa.later hb
    replace of3 := owns_later of3 hb
    replace ox1 := owns_later ox1 hb
    replace ox2 := owns_later ox2 hb
    replace ov1 := owns_later ov1 hb
    replace ov2 := owns_later ov2 hb
    replace hb3 := bt hb3 hb
    clear hb
    replace htab := htab.later hbt
    clear hbt
    go_wp2_with fail
    have wf : Wd (xs ++ marks 3) := wx.append (Wd.marks 3)
    have lf : (xs ++ marks 3).length ≤ 8204 := by rw [List.length_append, marks_len 3 (by omega)]; omega
    have HK1 := hid (keptWords_sl _ _ (xs ++ marks 3) xs _ (Sl.own of3 wf) sa (by omega) (by omega))
    rw [decide_eq_true rfl] at HK1
    refine (HK1.out).mono ?_
    rintro e w13 ⟨rfl, hb⟩
    have hszw13 := hb.size
    have hbt := hb
    clear HK1
    replace sa := sa.later hb
    replace of3 := owns_later of3 hb
    replace ox1 := owns_later ox1 hb
    replace ox2 := owns_later ox2 hb
    replace ov1 := owns_later ov1 hb
    replace ov2 := owns_later ov2 hb
    replace hb3 := bt hb3 hb
    clear hb
    replace htab := htab.later hbt
    clear hbt
    have hz := hb3.size
    have HL := hid (five_apart (b := w.heap.size) w.heap.size W.heap.size w3.heap.size w7.heap.size w8.heap.size w9.heap.size (by omega) of3 wf (by omega) (by omega) ox1 wX (by omega) (by omega) ox2 wX (by omega) (by omega) ov1 wV (by omega) (by omega) ov2 wV (by omega) (by omega) inF invx1 (invx2.up (by omega)) invv1 invv2)
    have HA := hid (apart_any _ _ _ _ _ _ HL.out (by omega) (by simp; omega))
    clear HL of3 ox1 ox2 ov1 ov2 inF invx1 invx2 invv1 invv2 sa
    have HB3 := hid hb3
    clear hb3
    go_wp2_with fail
    refine Calls.mono HA.out ?_
    rintro e wE ⟨rfl, hbE⟩
    have HBE := hid (bt_alloc HB3.out hbE)
    clear hbE HA
    go_wp2_with fail
    go_ret
    exact ⟨rfl, HBE.out⟩
end Go.Proofs.YtgimgagnfkinmaaDoor

