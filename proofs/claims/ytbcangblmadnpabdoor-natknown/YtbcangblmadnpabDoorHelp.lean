/- What the laws' own example says. -/
import Derived.Test.YtbcangblmadnpabDoorHelp0
import Derived.Test.YtbcangblmadnpabDoorPrint
namespace Go.Proofs.YtbcangblmadnpabDoor
open Go.RowKit
set_option linter.unusedVariables false

theorem digits_ex : Lib.decDigits 4294967296 = [52, 50, 57, 52, 57, 54, 55, 50, 57, 54] := by simp [Lib.decDigits]

set_option maxHeartbeats 3200000 in
set_option maxRecDepth 100000 in
theorem awake_any (w : World) (htab : Tab w) : Calls Tryd.prog 5 #[] w fun e w' => e = .returned (.bool true) ∧ Below w.heap.size w w' := by
  have t1 : Trimmed [4294967295] := rfl
  have t2 : Trimmed [1] := rfl
  have t3 : Trimmed [0, 0, 1] := rfl
  have t4 : Trimmed [0, 1] := rfl
  have t5 : Trimmed [1431655765, 1431655765] := rfl
  have w1' : Wd [4294967295] := Wd.one (by omega)
  have w2' : Wd [1] := Wd.one (by omega)
  have w3' : Wd [0, 0, 1] := Wd.cons (by omega) (Wd.cons (by omega) w2')
  have w4' : Wd [0, 1] := Wd.cons (by omega) w2'
  have w5' : Wd [1431655765, 1431655765] := Wd.cons (by omega) (Wd.one (by omega))
  have w6' : Wd [3] := Wd.one (by omega)
  have HT := hid htab
  have b1 := both_good (chk_good (by simp) t1) (chk_good (by simp) t2)
  obtain ⟨s1, s2, hbA⟩ := two_lits w [4294967295] [1] #[.int .u32 4294967295] #[.int .u32 1] 1 1 w1' w2' (by simp) (by simp) rfl rfl rfl rfl
  have HA := hid (add_sl _ _ _ _ _ s1 s2 (by simp) (by simp))
  rw [b1] at HA
  have HBA := hid hbA
  clear htab b1 s1 s2 hbA
  go_enter Tryd.func5, Tryd.ntmps5
  go_wp2_with fail
  refine Calls.mono HA.out ?_
  rintro e w3 ⟨v3, zs, code, rfl, ho3, ht3, hb3⟩
  obtain ⟨rfl, hv3⟩ := ht3.good rfl (lt_wide (L := 2) (by simp [val, valTo]) (by omega))
  have hz3 : zs = [0, 1] := trimmed_eq ht3.wd w4' ht3.trim t4 (by rw [hv3]; simp [val, valTo])
  subst hz3
  have hb := bt HBA.out hb3
  have S3 := hid (Sl.own ho3 w4')
  obtain ⟨a3, c3, hv3'⟩ := own_slice' ho3
  obtain ⟨s1, s2, hbA⟩ := two_lits w3 [0, 0, 1] [3] #[.int .u32 0, .int .u32 0, .int .u32 1] #[.int .u32 3] 3 1 w3' w6' (by simp) (by simp) rfl rfl rfl rfl
  have HD := hid (divMod_word _ _ _ _ _ s1 s2 t3 (by simp) (by omega))
  have HBA2 := hid hbA
  clear ho3 ht3 hv3 hb3 HA HBA s1 s2 hbA hv3'
  go_wp2_with fail
  refine Calls.mono HD.out ?_
  rintro e w4 ⟨v4, u4, q, r, rfl, sq, sr, tq, tr, hv, hlt, hb4⟩
  have hbB := bt HBA2.out hb4
  have n1 := val_nonneg sr.wd
  have n2 := val_nonneg sq.wd
  have e0 : val [0, 0, 1] = 18446744073709551616 := by simp [val, valTo]
  rw [e0] at hv
  have hq : q = [1431655765, 1431655765] := trimmed_eq sq.wd w5' tq t5 (by rw [val_two]; omega)
  have hr : r = [1] := trimmed_eq sr.wd w2' tr t2 (by rw [val_one]; omega)
  subst hq
  subst hr
  have S3b := hid (S3.out.later hbB)
  have hbC := bt hb hbB
  have SQ := hid sq
  have SR := hid sr
  have sl := Sl.lit' w4 _ [0, 1] #[.int .u32 0, .int .u32 1] 2 rfl w4' (by unfold maxLen; simp) rfl rfl
  have HP := hid (print_any _ _ _ sl (by simp) (HT.out.later (bt hbC (alloc_later w4 (.cells #[.int .u32 0, .int .u32 1] 32)))))
  rw [chk_good (by simp) t4, if_pos rfl, val_two, show ((0 : Int) + 1 * 4294967296).toNat = 4294967296 from rfl, digits_ex] at HP
  have hbD := bt hbC (alloc_later w4 (.cells #[.int .u32 0, .int .u32 1] 32))
  have S3c := hid (S3b.out.later (alloc_later w4 (.cells #[.int .u32 0, .int .u32 1] 32)))
  have SQc := hid (SQ.out.later (alloc_later w4 (.cells #[.int .u32 0, .int .u32 1] 32)))
  have SRc := hid (SR.out.later (alloc_later w4 (.cells #[.int .u32 0, .int .u32 1] 32)))
  have HBD := hid hbD
  clear sq sr tq tr hv hlt hb4 hbB n1 n2 e0 hb hbC sl hbD HBA2 HD S3 S3b SQ SR
  go_wp2_with fail
  refine Calls.mono HP.out ?_
  rintro e w5 ⟨rfl, hb5⟩
  have hb := bt HBD.out hb5
  have S3 := hid (S3c.out.later hb5)
  have SQ := hid (SQc.out.later hb5)
  have SR := hid (SRc.out.later hb5)
  clear hb5 HP HBD S3c SQc SRc
  have L6 := Sl.lit' w5 _ [0, 1] #[.int .u32 0, .int .u32 1] 2 rfl w4' (by unfold maxLen; simp) rfl rfl
  have HS6 := hid (same_sl _ _ _ _ _ (S3.out.later (alloc_later w5 (.cells #[.int .u32 0, .int .u32 1] 32))) L6 (by simp) (by simp))
  have hbq := bt hb (alloc_later w5 (.cells #[.int .u32 0, .int .u32 1] 32))
  have SQq := hid (SQ.out.later (alloc_later w5 (.cells #[.int .u32 0, .int .u32 1] 32)))
  have SRq := hid (SR.out.later (alloc_later w5 (.cells #[.int .u32 0, .int .u32 1] 32)))
  rw [show decide ([0, 1] = ([0, 1] : List Int)) = true from decide_eq_true rfl] at HS6
  clear L6 hb S3 SQ SR
  go_wp2_with fail
  refine Calls.mono HS6.out ?_
  rintro e w6 ⟨rfl, hbn⟩
  have hb := bt hbq hbn
  have SQ := hid (SQq.out.later hbn)
  have SR := hid (SRq.out.later hbn)
  clear hbq hbn HS6 SQq SRq
  have L7 := Sl.lit' w6 _ [1431655765, 1431655765] #[.int .u32 1431655765, .int .u32 1431655765] 2 rfl w5' (by unfold maxLen; simp) rfl rfl
  have HS7 := hid (same_sl _ _ _ _ _ (SQ.out.later (alloc_later w6 (.cells #[.int .u32 1431655765, .int .u32 1431655765] 32))) L7 (by simp) (by simp))
  have hbq := bt hb (alloc_later w6 (.cells #[.int .u32 1431655765, .int .u32 1431655765] 32))
  have SRq := hid (SR.out.later (alloc_later w6 (.cells #[.int .u32 1431655765, .int .u32 1431655765] 32)))
  rw [show decide ([1431655765, 1431655765] = ([1431655765, 1431655765] : List Int)) = true from decide_eq_true rfl] at HS7
  clear L7 hb SQ SR
  go_wp2_with fail
  refine Calls.mono HS7.out ?_
  rintro e w7 ⟨rfl, hbn⟩
  have hb := bt hbq hbn
  have SR := hid (SRq.out.later hbn)
  clear hbq hbn HS7 SRq
  have L8 := Sl.lit' w7 _ [1] #[.int .u32 1] 1 rfl w2' (by unfold maxLen; simp) rfl rfl
  have HS8 := hid (same_sl _ _ _ _ _ (SR.out.later (alloc_later w7 (.cells #[.int .u32 1] 32))) L8 (by simp) (by simp))
  have hbq := bt hb (alloc_later w7 (.cells #[.int .u32 1] 32))
  rw [show decide ([1] = ([1] : List Int)) = true from decide_eq_true rfl] at HS8
  clear L8 hb SR 
  go_wp2_with fail
  refine Calls.mono HS8.out ?_
  rintro e w8 ⟨rfl, hbn⟩
  have hb := bt hbq hbn
  clear hbq hbn HS8 
  go_wp2_with fail
  go_ret
  exact ⟨rfl, hb⟩
end Go.Proofs.YtbcangblmadnpabDoor
