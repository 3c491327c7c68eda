/- The law NatKnown answers true, and writes nothing that was there, where the library's table of powers of ten stands as its text lays it. -/
import Derived.Test.YtbcangblmadnpabDoorKnownA
namespace Go.Proofs.YtbcangblmadnpabDoor
open Go.RowKit Go.Lib
set_option linter.unusedVariables false

set_option maxHeartbeats 25600000 in
set_option maxRecDepth 100000 in
theorem natKnown_walk (w : World) (htab : Tab w) :
    Calls Tryd.prog 4 #[] w fun e w' => e = .returned (.bool true) ∧ Below w.heap.size w w' := by
  have HTAB := hid htab
  clear htab
  have hb := Below.refl w.heap.size w
  go_enter Tryd.func4, Tryd.ntmps4
  have q0 : Sl (w.alloc (.cells #[.int .u32 5, .int .u32 0, .int .u32 0] 32)) (.slice (some ⟨(w.heap.size), 0, none⟩) 3 3) [5, 0, 0] := (Sl.lit' w (w.heap.size) [5, 0, 0] #[.int .u32 5, .int .u32 0, .int .u32 0] 3 (by simp) (Wd.cons (by omega) (Wd.cons (by omega) (Wd.cons (by omega) Wd.nil))) (by unfold maxLen; simp) rfl rfl).later (Below.refl _ _)
  have HH := hid (trim_sl _ [5, 0, 0] _ q0 (by simp))
  clear q0
  go_wp2_with fail
  refine Calls.mono HH.out ?_
  rintro e U1 ⟨vT, rfl, oT, hb2⟩
  replace hb2 := bt (show Below w.heap.size w (w.alloc (.cells #[.int .u32 5, .int .u32 0, .int .u32 0] 32)) from (alloc_later _ _)) hb2
  replace hb := bt hb hb2
  clear hb2 HH
  have eT : trimmed [5, 0, 0] = [5] := by decide
  have sT := Sl.own (owns_len oT) (show Wd (trimmed [5, 0, 0]) by rw [eT]; exact Wd.one (by omega))
  rw [eT] at sT
  clear oT eT
  have q0 : Sl (U1.alloc (.cells #[.int .u32 5] 32)) (.slice (some ⟨(U1.heap.size), 0, none⟩) 1 1) [5] := (Sl.lit' U1 (U1.heap.size) [5] #[.int .u32 5] 1 (by simp) (Wd.cons (by omega) Wd.nil) (by unfold maxLen; simp) rfl rfl).later (Below.refl _ _)
  have HH := hid (same_sl _ _ [5] [5] _ (sT.later (show Below U1.heap.size U1 (U1.alloc (.cells #[.int .u32 5] 32)) from (alloc_later _ _))) q0 (by simp) (by simp))
  rw [decide_eq_true rfl] at HH
  clear q0
  clear sT
  go_wp2_with fail
  refine Calls.mono HH.out ?_
  rintro e U2 ⟨rfl, hb2⟩
  replace hb2 := bt (show Below U1.heap.size U1 (U1.alloc (.cells #[.int .u32 5] 32)) from (alloc_later _ _)) hb2
  replace hb := bt hb hb2
  clear hb2 HH
  have q0 : Sl (U2.alloc (.cells #[.int .u32 5, .int .u32 0] 32)) (.slice (some ⟨(U2.heap.size), 0, none⟩) 2 2) [5, 0] := (Sl.lit' U2 (U2.heap.size) [5, 0] #[.int .u32 5, .int .u32 0] 2 (by simp) (Wd.cons (by omega) (Wd.cons (by omega) Wd.nil)) (by unfold maxLen; simp) rfl rfl).later (Below.refl _ _)
  have HH := hid (check_sl _ [5, 0] _ q0 (by simp))
  rw [show chk [5, 0] = 11 by decide] at HH
  clear q0
  go_wp2_with fail
  refine Calls.mono HH.out ?_
  rintro e w' ⟨rfl, rfl⟩
  clear HH
  have HH := hid (check_sl _ [] _ (sl_nil (U2.alloc (.cells #[.int .u32 5, .int .u32 0] 32))) (by simp))
  rw [show chk [] = 0 by decide] at HH
  go_wp2_with fail
  refine Calls.mono HH.out ?_
  rintro e w' ⟨rfl, rfl⟩
  clear HH
  have q0 : Sl (((U2.alloc (.cells #[.int .u32 5, .int .u32 0] 32)).alloc (.cells #[.int .u32 5, .int .u32 0] 32)).alloc (.cells #[.int .u32 5] 32)) (.slice (some ⟨(U2.heap.size + 1), 0, none⟩) 2 2) [5, 0] := (Sl.lit' (U2.alloc (.cells #[.int .u32 5, .int .u32 0] 32)) (U2.heap.size + 1) [5, 0] #[.int .u32 5, .int .u32 0] 2 (by simp) (Wd.cons (by omega) (Wd.cons (by omega) Wd.nil)) (by unfold maxLen; simp) rfl rfl).later (show Below ((U2.alloc (.cells #[.int .u32 5, .int .u32 0] 32)).alloc (.cells #[.int .u32 5, .int .u32 0] 32)).heap.size ((U2.alloc (.cells #[.int .u32 5, .int .u32 0] 32)).alloc (.cells #[.int .u32 5, .int .u32 0] 32)) (((U2.alloc (.cells #[.int .u32 5, .int .u32 0] 32)).alloc (.cells #[.int .u32 5, .int .u32 0] 32)).alloc (.cells #[.int .u32 5] 32)) from (alloc_later _ _))
  have q1 : Sl (((U2.alloc (.cells #[.int .u32 5, .int .u32 0] 32)).alloc (.cells #[.int .u32 5, .int .u32 0] 32)).alloc (.cells #[.int .u32 5] 32)) (.slice (some ⟨(U2.heap.size + 1 + 1), 0, none⟩) 1 1) [5] := (Sl.lit' ((U2.alloc (.cells #[.int .u32 5, .int .u32 0] 32)).alloc (.cells #[.int .u32 5, .int .u32 0] 32)) (U2.heap.size + 1 + 1) [5] #[.int .u32 5] 1 (by simp) (Wd.cons (by omega) Wd.nil) (by unfold maxLen; simp) rfl rfl).later (Below.refl _ _)
  have HH := hid (compare_sl _ _ [5, 0] [5] _ q0 q1 (by simp) (by simp))
  rw [show cmpI (val [5, 0]) (val [5]) = 0 by decide] at HH
  clear q0 q1
  go_wp2_with fail
  refine Calls.mono HH.out ?_
  rintro e U3 ⟨rfl, hb2⟩
  replace hb2 := bt (show Below U2.heap.size U2 (((U2.alloc (.cells #[.int .u32 5, .int .u32 0] 32)).alloc (.cells #[.int .u32 5, .int .u32 0] 32)).alloc (.cells #[.int .u32 5] 32)) from (bt (bt (alloc_later _ _) (alloc_later _ _)) (alloc_later _ _))) hb2
  replace hb := bt hb hb2
  clear hb2 HH
  have q0 : Sl ((U3.alloc (.cells #[.int .u32 0, .int .u32 1] 32)).alloc (.cells #[.int .u32 1] 32)) (.slice (some ⟨(U3.heap.size), 0, none⟩) 2 2) [0, 1] := (Sl.lit' U3 (U3.heap.size) [0, 1] #[.int .u32 0, .int .u32 1] 2 (by simp) (Wd.cons (by omega) (Wd.cons (by omega) Wd.nil)) (by unfold maxLen; simp) rfl rfl).later (show Below (U3.alloc (.cells #[.int .u32 0, .int .u32 1] 32)).heap.size (U3.alloc (.cells #[.int .u32 0, .int .u32 1] 32)) ((U3.alloc (.cells #[.int .u32 0, .int .u32 1] 32)).alloc (.cells #[.int .u32 1] 32)) from (alloc_later _ _))
  have q1 : Sl ((U3.alloc (.cells #[.int .u32 0, .int .u32 1] 32)).alloc (.cells #[.int .u32 1] 32)) (.slice (some ⟨(U3.heap.size + 1), 0, none⟩) 1 1) [1] := (Sl.lit' (U3.alloc (.cells #[.int .u32 0, .int .u32 1] 32)) (U3.heap.size + 1) [1] #[.int .u32 1] 1 (by simp) (Wd.cons (by omega) Wd.nil) (by unfold maxLen; simp) rfl rfl).later (Below.refl _ _)
  have HT := sub_sl _ _ [0, 1] [1] _ q0 q1 (by simp) (by simp)
  rw [if_pos (both_good (chk_good (xs := [0, 1]) (by simp) (show Trimmed [0, 1] from rfl)) (chk_good (xs := [1]) (by simp) (show Trimmed [1] from rfl))), if_neg (by decide)] at HT
  have HH := hid (Calls.mono HT (fun _ _ h => Told.got h [4294967295] (Wd.cons (by omega) Wd.nil) (show Trimmed [4294967295] from rfl) (by simp) (by decide)))
  clear q0 q1 HT
  go_wp2_with fail
  refine Calls.mono HH.out ?_
  rintro e U4 ⟨aD, cD, rfl, sD, hb2⟩
  replace hb2 := bt (show Below U3.heap.size U3 ((U3.alloc (.cells #[.int .u32 0, .int .u32 1] 32)).alloc (.cells #[.int .u32 1] 32)) from (bt (alloc_later _ _) (alloc_later _ _))) hb2
  replace hb := bt hb hb2
  clear hb2 HH
  have q0 : Sl ((U4.alloc (.cells #[.int .u32 1] 32)).alloc (.cells #[.int .u32 2] 32)) (.slice (some ⟨(U4.heap.size), 0, none⟩) 1 1) [1] := (Sl.lit' U4 (U4.heap.size) [1] #[.int .u32 1] 1 (by simp) (Wd.cons (by omega) Wd.nil) (by unfold maxLen; simp) rfl rfl).later (show Below (U4.alloc (.cells #[.int .u32 1] 32)).heap.size (U4.alloc (.cells #[.int .u32 1] 32)) ((U4.alloc (.cells #[.int .u32 1] 32)).alloc (.cells #[.int .u32 2] 32)) from (alloc_later _ _))
  have q1 : Sl ((U4.alloc (.cells #[.int .u32 1] 32)).alloc (.cells #[.int .u32 2] 32)) (.slice (some ⟨(U4.heap.size + 1), 0, none⟩) 1 1) [2] := (Sl.lit' (U4.alloc (.cells #[.int .u32 1] 32)) (U4.heap.size + 1) [2] #[.int .u32 2] 1 (by simp) (Wd.cons (by omega) Wd.nil) (by unfold maxLen; simp) rfl rfl).later (Below.refl _ _)
  have HT := sub_sl _ _ [1] [2] _ q0 q1 (by simp) (by simp)
  rw [if_pos (both_good (chk_good (xs := [1]) (by simp) (show Trimmed [1] from rfl)) (chk_good (xs := [2]) (by simp) (show Trimmed [2] from rfl))), if_pos (by decide)] at HT
  have HH := hid (Calls.mono HT (fun _ _ h => Told.errs h (by decide)))
  clear q0 q1 HT
  go_wp2_with fail
  refine Calls.mono HH.out ?_
  rintro e U5 ⟨aE, cE, rfl, _, hb2⟩
  replace hb2 := bt (show Below U4.heap.size U4 ((U4.alloc (.cells #[.int .u32 1] 32)).alloc (.cells #[.int .u32 2] 32)) from (bt (alloc_later _ _) (alloc_later _ _))) hb2
  replace sD := sD.later hb2
  replace hb := bt hb hb2
  clear hb2 HH
  have q0 : Sl ((U5.alloc (.cells #[.int .u32 4294967295] 32)).alloc (.cells #[.int .u32 4294967295] 32)) (.slice (some ⟨(U5.heap.size), 0, none⟩) 1 1) [4294967295] := (Sl.lit' U5 (U5.heap.size) [4294967295] #[.int .u32 4294967295] 1 (by simp) (Wd.cons (by omega) Wd.nil) (by unfold maxLen; simp) rfl rfl).later (show Below (U5.alloc (.cells #[.int .u32 4294967295] 32)).heap.size (U5.alloc (.cells #[.int .u32 4294967295] 32)) ((U5.alloc (.cells #[.int .u32 4294967295] 32)).alloc (.cells #[.int .u32 4294967295] 32)) from (alloc_later _ _))
  have q1 : Sl ((U5.alloc (.cells #[.int .u32 4294967295] 32)).alloc (.cells #[.int .u32 4294967295] 32)) (.slice (some ⟨(U5.heap.size + 1), 0, none⟩) 1 1) [4294967295] := (Sl.lit' (U5.alloc (.cells #[.int .u32 4294967295] 32)) (U5.heap.size + 1) [4294967295] #[.int .u32 4294967295] 1 (by simp) (Wd.cons (by omega) Wd.nil) (by unfold maxLen; simp) rfl rfl).later (Below.refl _ _)
  have HT := mul_sl _ _ [4294967295] [4294967295] _ q0 q1 (by simp) (by simp)
  rw [both_good (chk_good (xs := [4294967295]) (by simp) (show Trimmed [4294967295] from rfl)) (chk_good (xs := [4294967295]) (by simp) (show Trimmed [4294967295] from rfl))] at HT
  have HH := hid (Calls.mono HT (fun _ _ h => Told.got h [1, 4294967294] (Wd.cons (by omega) (Wd.cons (by omega) Wd.nil)) (show Trimmed [1, 4294967294] from rfl) (by simp) (by decide)))
  clear q0 q1 HT
  go_wp2_with fail
  refine Calls.mono HH.out ?_
  rintro e U6 ⟨aM, cM, rfl, sM, hb2⟩
  replace hb2 := bt (show Below U5.heap.size U5 ((U5.alloc (.cells #[.int .u32 4294967295] 32)).alloc (.cells #[.int .u32 4294967295] 32)) from (bt (alloc_later _ _) (alloc_later _ _))) hb2
  replace sD := sD.later hb2
  replace hb := bt hb hb2
  clear hb2 HH
  have q0 : Sl (U6.alloc (.cells #[.int .u32 1] 32)) (.slice (some ⟨(U6.heap.size), 0, none⟩) 1 1) [1] := (Sl.lit' U6 (U6.heap.size) [1] #[.int .u32 1] 1 (by simp) (Wd.cons (by omega) Wd.nil) (by unfold maxLen; simp) rfl rfl).later (Below.refl _ _)
  have HH := hid (divMod_zero _ _ [1] _ q0 (sl_nil (U6.alloc (.cells #[.int .u32 1] 32))) (by simp) (show Trimmed [1] from rfl))
  clear q0
  go_wp2_with fail
  refine Calls.mono HH.out ?_
  rintro e U7 ⟨rfl, hb2⟩
  replace hb2 := bt (show Below U6.heap.size U6 (U6.alloc (.cells #[.int .u32 1] 32)) from (alloc_later _ _)) hb2
  replace sD := sD.later hb2
  replace sM := sM.later hb2
  replace hb := bt hb hb2
  clear hb2 HH
  have q0 : Sl ((U7.alloc (.cells #[.int .u32 12] 32)).alloc (.cells #[.int .u32 18] 32)) (.slice (some ⟨(U7.heap.size), 0, none⟩) 1 1) [12] := (Sl.lit' U7 (U7.heap.size) [12] #[.int .u32 12] 1 (by simp) (Wd.cons (by omega) Wd.nil) (by unfold maxLen; simp) rfl rfl).later (show Below (U7.alloc (.cells #[.int .u32 12] 32)).heap.size (U7.alloc (.cells #[.int .u32 12] 32)) ((U7.alloc (.cells #[.int .u32 12] 32)).alloc (.cells #[.int .u32 18] 32)) from (alloc_later _ _))
  have q1 : Sl ((U7.alloc (.cells #[.int .u32 12] 32)).alloc (.cells #[.int .u32 18] 32)) (.slice (some ⟨(U7.heap.size + 1), 0, none⟩) 1 1) [18] := (Sl.lit' (U7.alloc (.cells #[.int .u32 12] 32)) (U7.heap.size + 1) [18] #[.int .u32 18] 1 (by simp) (Wd.cons (by omega) Wd.nil) (by unfold maxLen; simp) rfl rfl).later (Below.refl _ _)
  have HT := gcd_sl _ _ [12] [18] _ q0 q1 (by simp) (by simp)
  rw [both_good (chk_good (xs := [12]) (by simp) (show Trimmed [12] from rfl)) (chk_good (xs := [18]) (by simp) (show Trimmed [18] from rfl))] at HT
  have HH := hid (Calls.mono HT (fun _ _ h => Told.got h [6] (Wd.cons (by omega) Wd.nil) (show Trimmed [6] from rfl) (by simp) (by decide)))
  clear q0 q1 HT
  go_wp2_with fail
  refine Calls.mono HH.out ?_
  rintro e U8 ⟨aG, cG, rfl, sG, hb2⟩
  replace hb2 := bt (show Below U7.heap.size U7 ((U7.alloc (.cells #[.int .u32 12] 32)).alloc (.cells #[.int .u32 18] 32)) from (bt (alloc_later _ _) (alloc_later _ _))) hb2
  replace sD := sD.later hb2
  replace sM := sM.later hb2
  replace hb := bt hb hb2
  clear hb2 HH
  have q0 : Sl (U8.alloc (.cells #[.int .u32 7] 32)) (.slice (some ⟨(U8.heap.size), 0, none⟩) 1 1) [7] := (Sl.lit' U8 (U8.heap.size) [7] #[.int .u32 7] 1 (by simp) (Wd.cons (by omega) Wd.nil) (by unfold maxLen; simp) rfl rfl).later (Below.refl _ _)
  have HT := gcd_sl _ _ [] [7] _ (sl_nil (U8.alloc (.cells #[.int .u32 7] 32))) q0 (by simp) (by simp)
  rw [both_good (chk_good (xs := []) (by simp) (show Trimmed [] from rfl)) (chk_good (xs := [7]) (by simp) (show Trimmed [7] from rfl))] at HT
  have HH := hid (Calls.mono HT (fun _ _ h => Told.got h [7] (Wd.cons (by omega) Wd.nil) (show Trimmed [7] from rfl) (by simp) (by decide)))
  clear q0 HT
  go_wp2_with fail
  refine Calls.mono HH.out ?_
  rintro e U9 ⟨aZ, cZ, rfl, sZ, hb2⟩
  replace hb2 := bt (show Below U8.heap.size U8 (U8.alloc (.cells #[.int .u32 7] 32)) from (alloc_later _ _)) hb2
  replace sD := sD.later hb2
  replace sM := sM.later hb2
  replace sG := sG.later hb2
  replace hb := bt hb hb2
  clear hb2 HH
  have HT := gcd_sl _ _ [] [] _ (sl_nil U9) (sl_nil U9) (by simp) (by simp)
  rw [both_good (chk_good (xs := []) (by simp) (show Trimmed [] from rfl)) (chk_good (xs := []) (by simp) (show Trimmed [] from rfl))] at HT
  have HH := hid (Calls.mono HT (fun _ _ h => Told.got h [] Wd.nil Trimmed.nil (by simp) (by decide)))
  clear HT
  go_wp2_with fail
  refine Calls.mono HH.out ?_
  rintro e U10 ⟨aN, cN, rfl, _, hb2⟩
  replace hb2 := bt (Below.refl _ _) hb2
  replace sD := sD.later hb2
  replace sM := sM.later hb2
  replace sG := sG.later hb2
  replace sZ := sZ.later hb2
  replace hb := bt hb hb2
  clear hb2 HH
  have q0 : Sl (U10.alloc (.cells #[.int .u32 4294967295] 32)) (.slice (some ⟨(U10.heap.size), 0, none⟩) 1 1) [4294967295] := (Sl.lit' U10 (U10.heap.size) [4294967295] #[.int .u32 4294967295] 1 (by simp) (Wd.cons (by omega) Wd.nil) (by unfold maxLen; simp) rfl rfl).later (Below.refl _ _)
  have HH := hid (same_sl _ _ [4294967295] [4294967295] _ (sD.later (show Below U10.heap.size U10 (U10.alloc (.cells #[.int .u32 4294967295] 32)) from (alloc_later _ _))) q0 (by simp) (by simp))
  rw [decide_eq_true rfl] at HH
  clear q0
  clear sD
  go_wp2_with fail
  refine Calls.mono HH.out ?_
  rintro e U11 ⟨rfl, hb2⟩
  replace hb2 := bt (show Below U10.heap.size U10 (U10.alloc (.cells #[.int .u32 4294967295] 32)) from (alloc_later _ _)) hb2
  replace sM := sM.later hb2
  replace sG := sG.later hb2
  replace sZ := sZ.later hb2
  replace hb := bt hb hb2
  clear hb2 HH
  have q0 : Sl (U11.alloc (.cells #[.int .u32 1, .int .u32 4294967294] 32)) (.slice (some ⟨(U11.heap.size), 0, none⟩) 2 2) [1, 4294967294] := (Sl.lit' U11 (U11.heap.size) [1, 4294967294] #[.int .u32 1, .int .u32 4294967294] 2 (by simp) (Wd.cons (by omega) (Wd.cons (by omega) Wd.nil)) (by unfold maxLen; simp) rfl rfl).later (Below.refl _ _)
  have HH := hid (same_sl _ _ [1, 4294967294] [1, 4294967294] _ (sM.later (show Below U11.heap.size U11 (U11.alloc (.cells #[.int .u32 1, .int .u32 4294967294] 32)) from (alloc_later _ _))) q0 (by simp) (by simp))
  rw [decide_eq_true rfl] at HH
  clear q0
  clear sM
  go_wp2_with fail
  refine Calls.mono HH.out ?_
  rintro e U12 ⟨rfl, hb2⟩
  replace hb2 := bt (show Below U11.heap.size U11 (U11.alloc (.cells #[.int .u32 1, .int .u32 4294967294] 32)) from (alloc_later _ _)) hb2
  replace sG := sG.later hb2
  replace sZ := sZ.later hb2
  replace hb := bt hb hb2
  clear hb2 HH
  have q0 : Sl (U12.alloc (.cells #[.int .u32 6] 32)) (.slice (some ⟨(U12.heap.size), 0, none⟩) 1 1) [6] := (Sl.lit' U12 (U12.heap.size) [6] #[.int .u32 6] 1 (by simp) (Wd.cons (by omega) Wd.nil) (by unfold maxLen; simp) rfl rfl).later (Below.refl _ _)
  have HH := hid (same_sl _ _ [6] [6] _ (sG.later (show Below U12.heap.size U12 (U12.alloc (.cells #[.int .u32 6] 32)) from (alloc_later _ _))) q0 (by simp) (by simp))
  rw [decide_eq_true rfl] at HH
  clear q0
  clear sG
  go_wp2_with fail
  refine Calls.mono HH.out ?_
  rintro e U13 ⟨rfl, hb2⟩
  replace hb2 := bt (show Below U12.heap.size U12 (U12.alloc (.cells #[.int .u32 6] 32)) from (alloc_later _ _)) hb2
  replace sZ := sZ.later hb2
  replace hb := bt hb hb2
  clear hb2 HH
  have q0 : Sl (U13.alloc (.cells #[.int .u32 7] 32)) (.slice (some ⟨(U13.heap.size), 0, none⟩) 1 1) [7] := (Sl.lit' U13 (U13.heap.size) [7] #[.int .u32 7] 1 (by simp) (Wd.cons (by omega) Wd.nil) (by unfold maxLen; simp) rfl rfl).later (Below.refl _ _)
  have HH := hid (same_sl _ _ [7] [7] _ (sZ.later (show Below U13.heap.size U13 (U13.alloc (.cells #[.int .u32 7] 32)) from (alloc_later _ _))) q0 (by simp) (by simp))
  rw [decide_eq_true rfl] at HH
  clear q0
  clear sZ
  go_wp2_with fail
  refine Calls.mono HH.out ?_
  rintro e U14 ⟨rfl, hb2⟩
  replace hb2 := bt (show Below U13.heap.size U13 (U13.alloc (.cells #[.int .u32 7] 32)) from (alloc_later _ _)) hb2
  replace hb := bt hb hb2
  clear hb2 HH
  have q0 : Sl (U14.alloc (.cells #[.int .u32 1] 32)) (.slice (some ⟨(U14.heap.size), 0, none⟩) 1 1) [1] := (Sl.lit' U14 (U14.heap.size) [1] #[.int .u32 1] 1 (by simp) (Wd.cons (by omega) Wd.nil) (by unfold maxLen; simp) rfl rfl).later (Below.refl _ _)
  have HH := hid (Calls.mono (shift_up _ [1] 33 _ q0 (by simp) (show Trimmed [1] from rfl) (by omega)) (fun _ _ h => Told.got h [0, 2] (Wd.cons (by omega) (Wd.cons (by omega) Wd.nil)) (show Trimmed [0, 2] from rfl) (by simp) (by decide)))
  clear q0
  go_wp2_with fail
  refine Calls.mono HH.out ?_
  rintro e U15 ⟨aU, cU, rfl, sU, hb2⟩
  replace hb2 := bt (show Below U14.heap.size U14 (U14.alloc (.cells #[.int .u32 1] 32)) from (alloc_later _ _)) hb2
  replace hb := bt hb hb2
  clear hb2 HH
  have q0 : Sl (U15.alloc (.cells #[.int .u32 7] 32)) (.slice (some ⟨(U15.heap.size), 0, none⟩) 1 1) [7] := (Sl.lit' U15 (U15.heap.size) [7] #[.int .u32 7] 1 (by simp) (Wd.cons (by omega) Wd.nil) (by unfold maxLen; simp) rfl rfl).later (Below.refl _ _)
  have HH := hid (Calls.mono (shift_neg _ [7] 1 _ q0 (by simp) (show Trimmed [7] from rfl) (by omega)) (fun _ _ h => Told.got h [3] (Wd.cons (by omega) Wd.nil) (show Trimmed [3] from rfl) (by simp) (by decide)))
  rw [show (-((1 : Nat) : Int)) = -1 from rfl] at HH
  clear q0
  go_wp2_with fail
  refine Calls.mono HH.out ?_
  rintro e U16 ⟨aV, cV, rfl, sV, hb2⟩
  replace hb2 := bt (show Below U15.heap.size U15 (U15.alloc (.cells #[.int .u32 7] 32)) from (alloc_later _ _)) hb2
  replace sU := sU.later hb2
  replace hb := bt hb hb2
  clear hb2 HH
  have q0 : Sl (U16.alloc (.cells #[.int .u32 1] 32)) (.slice (some ⟨(U16.heap.size), 0, none⟩) 1 1) [1] := (Sl.lit' U16 (U16.heap.size) [1] #[.int .u32 1] 1 (by simp) (Wd.cons (by omega) Wd.nil) (by unfold maxLen; simp) rfl rfl).later (Below.refl _ _)
  obtain ⟨N, hN⟩ : ∃ N : Nat, N = 262144 := ⟨_, rfl⟩
  have HH := hid (Calls.mono (shift_up _ [1] N _ q0 (by simp) (show Trimmed [1] from rfl) (by omega)) (fun _ _ h => Told.longs h (by rw [val_one, Int.one_mul]; exact wide_two N (by omega))))
  rw [show ((N : Nat) : Int) = 262144 by rw [hN]; rfl] at HH
  clear q0 hN N
  go_wp2_with fail
  refine Calls.mono HH.out ?_
  rintro e U17 ⟨aL, cL, rfl, _, hb2⟩
  replace hb2 := bt (show Below U16.heap.size U16 (U16.alloc (.cells #[.int .u32 1] 32)) from (alloc_later _ _)) hb2
  replace sU := sU.later hb2
  replace sV := sV.later hb2
  replace hb := bt hb hb2
  clear hb2 HH
  have q0 : Sl (U17.alloc (.cells #[.int .u32 1] 32)) (.slice (some ⟨(U17.heap.size), 0, none⟩) 1 1) [1] := (Sl.lit' U17 (U17.heap.size) [1] #[.int .u32 1] 1 (by simp) (Wd.cons (by omega) Wd.nil) (by unfold maxLen; simp) rfl rfl).later (Below.refl _ _)
  obtain ⟨N, hN⟩ : ∃ N : Nat, N = 262143 := ⟨_, rfl⟩
  have HT := shift_up _ [1] N _ q0 (by simp) (show Trimmed [1] from rfl) (by omega)
  rw [val_one, Int.one_mul] at HT
  have HH := hid (Calls.mono HT (fun _ _ h => Told.wides h (by omega) (by omega)))
  rw [show ((N : Nat) : Int) = 262143 by rw [hN]; rfl] at HH
  have HNN := hid hN
  clear q0 hN HT
  go_wp2_with fail
  refine Calls.mono HH.out ?_
  rintro e U18 ⟨aW, cW, zW, rfl, sW, HWI, hb2⟩
  replace hb2 := bt (show Below U17.heap.size U17 (U17.alloc (.cells #[.int .u32 1] 32)) from (alloc_later _ _)) hb2
  replace sU := sU.later hb2
  replace sV := sV.later hb2
  replace hb := bt hb hb2
  clear hb2 HH
  have q0 : Sl (U18.alloc (.cells #[.int .u32 1] 32)) (.slice (some ⟨(U18.heap.size), 0, none⟩) 1 1) [1] := (Sl.lit' U18 (U18.heap.size) [1] #[.int .u32 1] 1 (by simp) (Wd.cons (by omega) Wd.nil) (by unfold maxLen; simp) rfl rfl).later (Below.refl _ _)
  have HH := hid (shift_arg _ [1] 262145 _ q0 (by simp) (show Trimmed [1] from rfl) (by omega) (by omega))
  clear q0
  go_wp2_with fail
  refine Calls.mono HH.out ?_
  rintro e U19 ⟨aA, cA, rfl, _, hb2⟩
  replace hb2 := bt (show Below U18.heap.size U18 (U18.alloc (.cells #[.int .u32 1] 32)) from (alloc_later _ _)) hb2
  replace sU := sU.later hb2
  replace sV := sV.later hb2
  replace sW := sW.later hb2
  replace hb := bt hb hb2
  clear hb2 HH
  obtain ⟨M, hM⟩ : ∃ M : Nat, M = 262144 := ⟨_, rfl⟩
  have HH := hid (Calls.mono (shift_up _ [] M _ (sl_nil U19) (by simp) Trimmed.nil (by omega)) (fun _ _ h => Told.got h [] Wd.nil Trimmed.nil (by simp) (by rw [val_nil, Int.zero_mul])))
  rw [show ((M : Nat) : Int) = 262144 by rw [hM]; rfl] at HH
  clear hM M
  go_wp2_with fail
  refine Calls.mono HH.out ?_
  rintro e U20 ⟨aO, cO, rfl, _, hb2⟩
  replace hb2 := bt (Below.refl _ _) hb2
  replace sU := sU.later hb2
  replace sV := sV.later hb2
  replace sW := sW.later hb2
  replace hb := bt hb hb2
  clear hb2 HH
  have q0 : Sl (U20.alloc (.cells #[.int .u32 0, .int .u32 2] 32)) (.slice (some ⟨(U20.heap.size), 0, none⟩) 2 2) [0, 2] := (Sl.lit' U20 (U20.heap.size) [0, 2] #[.int .u32 0, .int .u32 2] 2 (by simp) (Wd.cons (by omega) (Wd.cons (by omega) Wd.nil)) (by unfold maxLen; simp) rfl rfl).later (Below.refl _ _)
  have HH := hid (same_sl _ _ [0, 2] [0, 2] _ (sU.later (show Below U20.heap.size U20 (U20.alloc (.cells #[.int .u32 0, .int .u32 2] 32)) from (alloc_later _ _))) q0 (by simp) (by simp))
  rw [decide_eq_true rfl] at HH
  clear q0
  clear sU
  go_wp2_with fail
  refine Calls.mono HH.out ?_
  rintro e U21 ⟨rfl, hb2⟩
  replace hb2 := bt (show Below U20.heap.size U20 (U20.alloc (.cells #[.int .u32 0, .int .u32 2] 32)) from (alloc_later _ _)) hb2
  replace sV := sV.later hb2
  replace sW := sW.later hb2
  replace hb := bt hb hb2
  clear hb2 HH
  have q0 : Sl (U21.alloc (.cells #[.int .u32 3] 32)) (.slice (some ⟨(U21.heap.size), 0, none⟩) 1 1) [3] := (Sl.lit' U21 (U21.heap.size) [3] #[.int .u32 3] 1 (by simp) (Wd.cons (by omega) Wd.nil) (by unfold maxLen; simp) rfl rfl).later (Below.refl _ _)
  have HH := hid (same_sl _ _ [3] [3] _ (sV.later (show Below U21.heap.size U21 (U21.alloc (.cells #[.int .u32 3] 32)) from (alloc_later _ _))) q0 (by simp) (by simp))
  rw [decide_eq_true rfl] at HH
  clear q0
  clear sV
  go_wp2_with fail
  refine Calls.mono HH.out ?_
  rintro e U22 ⟨rfl, hb2⟩
  replace hb2 := bt (show Below U21.heap.size U21 (U21.alloc (.cells #[.int .u32 3] 32)) from (alloc_later _ _)) hb2
  replace sW := sW.later hb2
  replace hb := bt hb hb2
  clear hb2 HH
  have q0 : Sl (U22.alloc (.cells #[.int .u32 0, .int .u32 1] 32)) (.slice (some ⟨(U22.heap.size), 0, none⟩) 2 2) [0, 1] := (Sl.lit' U22 (U22.heap.size) [0, 1] #[.int .u32 0, .int .u32 1] 2 (by simp) (Wd.cons (by omega) (Wd.cons (by omega) Wd.nil)) (by unfold maxLen; simp) rfl rfl).later (Below.refl _ _)
  have HH := hid (bits_sl _ [0, 1] _ q0 (by simp))
  rw [bits_is (xs := [0, 1]) (Wd.cons (by omega) (Wd.cons (by omega) Wd.nil)) 33 (by omega) (by decide) (by decide)] at HH
  clear q0
  go_wp2_with fail
  refine Calls.mono HH.out ?_
  rintro e w' ⟨rfl, rfl⟩
  clear HH
  have HH := hid (bits_sl _ [] _ (sl_nil (U22.alloc (.cells #[.int .u32 0, .int .u32 1] 32))) (by simp))
  rw [show bitsOf [] = 0 from rfl] at HH
  go_wp2_with fail
  refine Calls.mono HH.out ?_
  rintro e w' ⟨rfl, rfl⟩
  clear HH
  have sX := sW.later (show Below U22.heap.size U22 (U22.alloc (.cells #[.int .u32 0, .int .u32 1] 32)) from (alloc_later _ _))
  have HT := add_sl _ _ zW zW _ sX sX (by have := HWI.out.1; omega) (by have := HWI.out.1; omega)
  have HCK : chk zW = 0 := chk_good (by have := HWI.out.1; omega) HWI.out.2.1
  rw [both_good HCK HCK, HWI.out.2.2] at HT
  have HH := hid (Calls.mono HT (fun _ _ h => Told.longs h (by have e := wide_two (N + 1) (by have := HNN.out; omega); rw [Int.pow_succ] at e; omega)))
  have HCK2 := hid HCK
  clear HT sX HCK
  go_wp2_with fail
  refine Calls.mono HH.out ?_
  rintro e U23 ⟨aP, cP, rfl, _, hb2⟩
  replace hb2 := bt (show Below U22.heap.size U22 (U22.alloc (.cells #[.int .u32 0, .int .u32 1] 32)) from (alloc_later _ _)) hb2
  replace sW := sW.later hb2
  replace hb := bt hb hb2
  clear hb2 HH
  have q0 : Sl (U23.alloc (.cells #[.int .u32 2] 32)) (.slice (some ⟨(U23.heap.size), 0, none⟩) 1 1) [2] := (Sl.lit' U23 (U23.heap.size) [2] #[.int .u32 2] 1 (by simp) (Wd.cons (by omega) Wd.nil) (by unfold maxLen; simp) rfl rfl).later (Below.refl _ _)
  have HT := mul_sl _ _ zW [2] _ (sW.later (show Below U23.heap.size U23 (U23.alloc (.cells #[.int .u32 2] 32)) from (alloc_later _ _))) q0 (by have := HWI.out.1; omega) (by simp)
  rw [both_good HCK2.out (chk_good (xs := [2]) (by simp) (show Trimmed [2] from rfl)), HWI.out.2.2, val_one] at HT
  have HH := hid (Calls.mono HT (fun _ _ h => Told.longs h (by have e := wide_two (N + 1) (by have := HNN.out; omega); rw [Int.pow_succ] at e; exact e)))
  clear HT q0 sW
  go_wp2_with fail
  refine Calls.mono HH.out ?_
  rintro e U24 ⟨aQ, cQ, rfl, _, hb2⟩
  replace hb2 := bt (show Below U23.heap.size U23 (U23.alloc (.cells #[.int .u32 2] 32)) from (alloc_later _ _)) hb2
  replace hb := bt hb hb2
  clear hb2 HH
  clear HWI HCK2 HNN
  -- the texts
  have HBX := hid (Box.made U24 9 #[.string ⟨#[48, 48, 55]⟩, .string ⟨#[]⟩, .string ⟨#[45, 49]⟩, .string ⟨#[32, 49]⟩, .string ⟨#[49, 32]⟩, .string ⟨#[43, 49]⟩, .string ⟨#[49, 97]⟩])
  replace hb := bt hb (alloc_later U24 (.cells #[.string ⟨#[48, 48, 55]⟩, .string ⟨#[]⟩, .string ⟨#[45, 49]⟩, .string ⟨#[32, 49]⟩, .string ⟨#[49, 32]⟩, .string ⟨#[43, 49]⟩, .string ⟨#[49, 97]⟩] 9))
  go_wp2_with fail
  refine wp_loop_rounds 8 ?_
  have hbl := Below.refl (U24.alloc (.cells #[.string ⟨#[48, 48, 55]⟩, .string ⟨#[]⟩, .string ⟨#[45, 49]⟩, .string ⟨#[32, 49]⟩, .string ⟨#[49, 32]⟩, .string ⟨#[43, 49]⟩, .string ⟨#[49, 97]⟩] 9)).heap.size (U24.alloc (.cells #[.string ⟨#[48, 48, 55]⟩, .string ⟨#[]⟩, .string ⟨#[45, 49]⟩, .string ⟨#[32, 49]⟩, .string ⟨#[49, 32]⟩, .string ⟨#[43, 49]⟩, .string ⟨#[49, 97]⟩] 9))
  rw [rounds_succ]
  have HP := parse_any ⟨#[48, 48, 55]⟩ (U24.alloc (.cells #[.string ⟨#[48, 48, 55]⟩, .string ⟨#[]⟩, .string ⟨#[45, 49]⟩, .string ⟨#[32, 49]⟩, .string ⟨#[49, 32]⟩, .string ⟨#[43, 49]⟩, .string ⟨#[49, 97]⟩] 9)) (by unfold maxLen; decide)
  rw [pErr_no ⟨#[48, 48, 55]⟩ (by decide) (fun h => absurd (h.2.1 rfl) (by decide))] at HP
  have HH := hid (Calls.mono HP (fun _ _ h => Told.errs h (by decide)))
  clear HP
  have ck : (U24.alloc (.cells #[.string ⟨#[48, 48, 55]⟩, .string ⟨#[]⟩, .string ⟨#[45, 49]⟩, .string ⟨#[32, 49]⟩, .string ⟨#[49, 32]⟩, .string ⟨#[43, 49]⟩, .string ⟨#[49, 97]⟩] 9)).cell? ⟨U24.heap.size, 0, none⟩ = some (.string ⟨#[48, 48, 55]⟩) := (HBX.out.later hbl HBX.out.lt).cell 0
  go_wp2_with fail
  refine Calls.mono HH.out ?_
  rintro e U25 ⟨aS0, cS0, rfl, _, hb2⟩
  replace hb := bt hb hb2
  replace hbl := bt hbl hb2
  clear hb2 HH ck
  go_wp2_with fail
  rw [rounds_succ]
  have HP := parse_any ⟨#[]⟩ U25 (by unfold maxLen; decide)
  rw [pErr_no ⟨#[]⟩ (by decide) (fun h => absurd h.1 (by decide))] at HP
  have HH := hid (Calls.mono HP (fun _ _ h => Told.errs h (by decide)))
  clear HP
  have ck : U25.cell? ⟨U24.heap.size, 1, none⟩ = some (.string ⟨#[]⟩) := (HBX.out.later hbl HBX.out.lt).cell 1
  go_wp2_with fail
  refine Calls.mono HH.out ?_
  rintro e U26 ⟨aS1, cS1, rfl, _, hb2⟩
  replace hb := bt hb hb2
  replace hbl := bt hbl hb2
  clear hb2 HH ck
  go_wp2_with fail
  rw [rounds_succ]
  have HP := parse_any ⟨#[45, 49]⟩ U26 (by unfold maxLen; decide)
  rw [pErr_no ⟨#[45, 49]⟩ (by decide) (fun h => absurd (h.2.2 45 (by decide)) (by decide))] at HP
  have HH := hid (Calls.mono HP (fun _ _ h => Told.errs h (by decide)))
  clear HP
  have ck : U26.cell? ⟨U24.heap.size, 2, none⟩ = some (.string ⟨#[45, 49]⟩) := (HBX.out.later hbl HBX.out.lt).cell 2
  go_wp2_with fail
  refine Calls.mono HH.out ?_
  rintro e U27 ⟨aS2, cS2, rfl, _, hb2⟩
  replace hb := bt hb hb2
  replace hbl := bt hbl hb2
  clear hb2 HH ck
  go_wp2_with fail
  rw [rounds_succ]
  have HP := parse_any ⟨#[32, 49]⟩ U27 (by unfold maxLen; decide)
  rw [pErr_no ⟨#[32, 49]⟩ (by decide) (fun h => absurd (h.2.2 32 (by decide)) (by decide))] at HP
  have HH := hid (Calls.mono HP (fun _ _ h => Told.errs h (by decide)))
  clear HP
  have ck : U27.cell? ⟨U24.heap.size, 3, none⟩ = some (.string ⟨#[32, 49]⟩) := (HBX.out.later hbl HBX.out.lt).cell 3
  go_wp2_with fail
  refine Calls.mono HH.out ?_
  rintro e U28 ⟨aS3, cS3, rfl, _, hb2⟩
  replace hb := bt hb hb2
  replace hbl := bt hbl hb2
  clear hb2 HH ck
  go_wp2_with fail
  rw [rounds_succ]
  have HP := parse_any ⟨#[49, 32]⟩ U28 (by unfold maxLen; decide)
  rw [pErr_no ⟨#[49, 32]⟩ (by decide) (fun h => absurd (h.2.2 32 (by decide)) (by decide))] at HP
  have HH := hid (Calls.mono HP (fun _ _ h => Told.errs h (by decide)))
  clear HP
  have ck : U28.cell? ⟨U24.heap.size, 4, none⟩ = some (.string ⟨#[49, 32]⟩) := (HBX.out.later hbl HBX.out.lt).cell 4
  go_wp2_with fail
  refine Calls.mono HH.out ?_
  rintro e U29 ⟨aS4, cS4, rfl, _, hb2⟩
  replace hb := bt hb hb2
  replace hbl := bt hbl hb2
  clear hb2 HH ck
  go_wp2_with fail
  rw [rounds_succ]
  have HP := parse_any ⟨#[43, 49]⟩ U29 (by unfold maxLen; decide)
  rw [pErr_no ⟨#[43, 49]⟩ (by decide) (fun h => absurd (h.2.2 43 (by decide)) (by decide))] at HP
  have HH := hid (Calls.mono HP (fun _ _ h => Told.errs h (by decide)))
  clear HP
  have ck : U29.cell? ⟨U24.heap.size, 5, none⟩ = some (.string ⟨#[43, 49]⟩) := (HBX.out.later hbl HBX.out.lt).cell 5
  go_wp2_with fail
  refine Calls.mono HH.out ?_
  rintro e U30 ⟨aS5, cS5, rfl, _, hb2⟩
  replace hb := bt hb hb2
  replace hbl := bt hbl hb2
  clear hb2 HH ck
  go_wp2_with fail
  rw [rounds_succ]
  have HP := parse_any ⟨#[49, 97]⟩ U30 (by unfold maxLen; decide)
  rw [pErr_no ⟨#[49, 97]⟩ (by decide) (fun h => absurd (h.2.2 97 (by decide)) (by decide))] at HP
  have HH := hid (Calls.mono HP (fun _ _ h => Told.errs h (by decide)))
  clear HP
  have ck : U30.cell? ⟨U24.heap.size, 6, none⟩ = some (.string ⟨#[49, 97]⟩) := (HBX.out.later hbl HBX.out.lt).cell 6
  go_wp2_with fail
  refine Calls.mono HH.out ?_
  rintro e U31 ⟨aS6, cS6, rfl, _, hb2⟩
  replace hb := bt hb hb2
  replace hbl := bt hbl hb2
  clear hb2 HH ck
  go_wp2_with fail
  rw [rounds_succ]
  have HP := parse_any ⟨#[52, 50, 57, 52, 57, 54, 55, 50, 57, 54]⟩ U31 (by unfold maxLen; decide)
  rw [pErr_yes ⟨#[52, 50, 57, 52, 57, 54, 55, 50, 57, 54]⟩ (by decide) ⟨by decide, by decide, by unfold Dg; decide⟩] at HP
  have HH := hid (Calls.mono HP (fun _ _ h => Told.got h [0, 1] (Wd.cons (by omega) (Wd.cons (by omega) Wd.nil)) (show Trimmed [0, 1] from rfl) (by simp) (by decide)))
  clear HP hbl HBX
  go_wp2_with fail
  refine Calls.mono HH.out ?_
  rintro e U32 ⟨aX, cX, rfl, sX, hb2⟩
  replace hb2 := bt (Below.refl _ _) hb2
  replace hb := bt hb hb2
  clear hb2 HH
  have HH := hid (print_any _ [] _ (sl_nil U32) (by simp) (HTAB.out.later hb))
  rw [show chk [] = 0 by decide, if_pos rfl, show (decDigits (val []).toNat).toArray = #[48] by rw [val_nil]; simp [Lib.decDigits]] at HH
  go_wp2_with fail
  refine Calls.mono HH.out ?_
  rintro e U33 ⟨rfl, hb2⟩
  replace hb2 := bt (Below.refl _ _) hb2
  replace sX := sX.later hb2
  replace hb := bt hb hb2
  clear hb2 HH
  have HH := hid (awake_any U33 (HTAB.out.later hb))
  go_wp2_with fail
  refine Calls.mono HH.out ?_
  rintro e U34 ⟨rfl, hb2⟩
  replace hb2 := bt (Below.refl _ _) hb2
  replace sX := sX.later hb2
  replace hb := bt hb hb2
  clear hb2 HH
  have q0 : Sl (U34.alloc (.cells #[.int .u32 0, .int .u32 1] 32)) (.slice (some ⟨(U34.heap.size), 0, none⟩) 2 2) [0, 1] := (Sl.lit' U34 (U34.heap.size) [0, 1] #[.int .u32 0, .int .u32 1] 2 (by simp) (Wd.cons (by omega) (Wd.cons (by omega) Wd.nil)) (by unfold maxLen; simp) rfl rfl).later (Below.refl _ _)
  have HH := hid (same_sl _ _ [0, 1] [0, 1] _ (sX.later (show Below U34.heap.size U34 (U34.alloc (.cells #[.int .u32 0, .int .u32 1] 32)) from (alloc_later _ _))) q0 (by simp) (by simp))
  rw [decide_eq_true rfl] at HH
  clear q0
  clear sX
  go_wp2_with fail
  refine Calls.mono HH.out ?_
  rintro e U35 ⟨rfl, hb2⟩
  replace hb2 := bt (show Below U34.heap.size U34 (U34.alloc (.cells #[.int .u32 0, .int .u32 1] 32)) from (alloc_later _ _)) hb2
  replace hb := bt hb hb2
  clear hb2 HH
  go_wp2_with fail
  go_ret
  exact ⟨rfl, hb⟩
end Go.Proofs.YtbcangblmadnpabDoor
