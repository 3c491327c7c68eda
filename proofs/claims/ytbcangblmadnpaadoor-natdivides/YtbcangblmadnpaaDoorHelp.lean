/- The laws' own helpers: put (a number of at most 60 words out of any list), add and mul (without errors), awake (the document's examples hold). -/
import Derived.Test.YtbcangblmadnpaaDoorPrint
import Derived.Test.YtbcangblmadnpaaDoorDiv1
import Derived.Test.YtbcangblmadnpaaDoorLaw
namespace Go.Proofs.YtbcangblmadnpaaDoor
open Go.RowKit
set_option linter.unusedVariables false

theorem Sl.lit (w : World) (zs : List Int) (hw : Wd zs) (hm : zs.length ≤ maxLen) : Sl (w.alloc (.cells ((zs.map (Value.int .u32)).toArray) 43)) (.slice (some ⟨w.heap.size, 0, none⟩) zs.length zs.length) zs :=
  ⟨_, _, rfl, Reads.lit w 43 zs hw hm⟩

theorem len_of_lt {zs : List Int} (hw : Wd zs) (ht : Trimmed zs) {L : Nat} (h : val zs < 4294967296 ^ L) : zs.length ≤ L := by
  by_cases e : zs.length ≤ L
  · exact e
  · have h1 := val_ge hw ht (by omega)
    have h2 : (4294967296 : Int) ^ L ≤ 4294967296 ^ (zs.length - 1) := pw_le (by omega)
    omega
theorem lt_wide {x : Int} {L : Nat} (h : x < 4294967296 ^ L) (hL : L ≤ 8192) : x < wide := by
  have : (4294967296 : Int) ^ L ≤ 4294967296 ^ 8192 := pw_le hL
  unfold wide
  omega
theorem chk_good {xs : List Int} (hl : xs.length ≤ 8192) (ht : Trimmed xs) : chk xs = 0 := by
  unfold chk; rw [if_neg (by omega), if_pos (show sz xs = xs.length from ht)]
theorem both_good {xs ys : List Int} (h : chk xs = 0) (g : chk ys = 0) : both xs ys = 0 := by unfold both; rw [if_pos h, g]

set_option maxHeartbeats 800000 in
set_option maxRecDepth 100000 in
theorem put_any (a : Option Addr) (n cap : Nat) (xs : List Int) (w : World) (h : Reads w w.heap.size a n cap xs) :
    Calls Tryd.prog 18 #[.slice a n cap] w fun e w' => ∃ v zs, e = .returned v ∧ Sl w' v zs ∧ Trimmed zs ∧ zs.length ≤ 60 ∧ Below w.heap.size w w' := by
  have hcap := h.2.2.2.1
  have hcm := h.2.2.2.2.1
  unfold maxLen at hcm
  have hl := h.1
  by_cases h60 : 60 < n
  · have hs : Sl w (.slice a 60 cap) (xs.take 60) := by
      have e : (xs.take 60).length = 60 := by rw [List.length_take]; omega
      exact ⟨a, cap, by rw [e], by rw [e]; exact h.front 60 (by omega)⟩
    have e60 : (xs.take 60).length = 60 := by rw [List.length_take]; omega
    rcases h.2.2.1 with h0 | ⟨b, o, rfl, _, _⟩
    · omega
    · have HS := hid hs
      have HE := hid e60
      clear h hs hl e60
      go_enter Tryd.func18, Tryd.ntmps18
      go_wp2_with fail
      refine (trim_sl _ (xs.take 60) _ HS.out (by rw [HE.out]; omega)).mono ?_
      rintro e w1 ⟨v, rfl, ho, hb⟩
      have HR := hid (Sl.own ho HS.out.wd.trimmed)
      clear ho
      go_wp2
      go_ret
      exact ⟨v, _, rfl, HR.out, Trimmed.trimmed _, by rw [length_trimmed]; have := sz_le (xs.take 60); rw [HE.out] at this; exact this, hb⟩
  · have hs : Sl w (.slice a n cap) xs := ⟨a, cap, by rw [hl], by rw [hl]; exact h⟩
    have HS := hid hs
    have HE := hid hl
    clear h hs hl
    go_enter Tryd.func18, Tryd.ntmps18
    go_wp2_with fail
    refine (trim_sl _ xs _ HS.out (by rw [HE.out]; omega)).mono ?_
    rintro e w1 ⟨v, rfl, ho, hb⟩
    have HR := hid (Sl.own ho HS.out.wd.trimmed)
    clear ho
    go_wp2
    go_ret
    exact ⟨v, _, rfl, HR.out, Trimmed.trimmed _, by rw [length_trimmed]; have := sz_le xs; rw [HE.out] at this; omega, hb⟩

/-- A number in new memory. -/
def NumIs (w : World) (t : Int) (L : Nat) (x : Ending) (w' : World) : Prop := ∃ v zs, x = .returned v ∧ Sl w' v zs ∧ Trimmed zs ∧ val zs = t ∧ zs.length ≤ L ∧ Below w.heap.size w w'

set_option maxHeartbeats 800000 in
set_option maxRecDepth 100000 in
theorem add_small (v u : Value) (xs ys : List Int) (L : Nat) (w : World) (h : Sl w v xs) (g : Sl w u ys) (tx : Trimmed xs) (ty : Trimmed ys) (lx : xs.length ≤ L) (ly : ys.length ≤ L) (hL : L ≤ 1000) :
    Calls Tryd.prog 20 #[v, u] w (NumIs w (val xs + val ys) (L + 1)) := by
  have hb := both_good (chk_good (by omega) tx) (chk_good (by omega) ty)
  have h1 := val_lt h.wd
  have h2 := val_lt g.wd
  have p1 : (4294967296 : Int) ^ xs.length ≤ 4294967296 ^ L := pw_le lx
  have p2 : (4294967296 : Int) ^ ys.length ≤ 4294967296 ^ L := pw_le ly
  have p3 := pw_succ L
  have p4 := pw_pos L
  have hlt : val xs + val ys < 4294967296 ^ (L + 1) := by omega
  have HLT := hid hlt
  have HA := hid (add_sl v u xs ys w h g (by omega) (by omega))
  rw [hb] at HA
  clear hb h1 h2 p1 p2 p3 p4 hlt h g
  go_enter Tryd.func20, Tryd.ntmps20
  go_wp2_with fail
  refine Calls.mono HA.out ?_
  rintro e w1 ⟨v1, zs, code, rfl, ho, ht, hbel⟩
  obtain ⟨rfl, hv⟩ := ht.good rfl (lt_wide HLT.out (by omega))
  have HR := hid (Sl.own ho ht.wd)
  have HLN := hid (len_of_lt ht.wd ht.trim (L := L + 1) (by rw [hv]; exact HLT.out))
  have HV := hid hv
  have HTR := hid ht.trim
  clear ho ht hv
  go_wp2
  go_ret
  exact ⟨v1, zs, rfl, HR.out, HTR.out, HV.out, HLN.out, hbel⟩

set_option maxHeartbeats 800000 in
set_option maxRecDepth 100000 in
theorem mul_small (v u : Value) (xs ys : List Int) (L M : Nat) (w : World) (h : Sl w v xs) (g : Sl w u ys) (tx : Trimmed xs) (ty : Trimmed ys) (lx : xs.length ≤ L) (ly : ys.length ≤ M) (hL : L ≤ 1000) (hM : M ≤ 1000) :
    Calls Tryd.prog 21 #[v, u] w (NumIs w (val xs * val ys) (L + M)) := by
  have hb := both_good (chk_good (by omega) tx) (chk_good (by omega) ty)
  have h1 := val_lt h.wd
  have h2 := val_lt g.wd
  have p1 : (4294967296 : Int) ^ xs.length ≤ 4294967296 ^ L := pw_le lx
  have p2 : (4294967296 : Int) ^ ys.length ≤ 4294967296 ^ M := pw_le ly
  have hlt : val xs * val ys < 4294967296 ^ (L + M) := by
    rw [Int.pow_add]
    have n1 := val_nonneg h.wd
    have n2 := val_nonneg g.wd
    have e1 : val xs * val ys ≤ 4294967296 ^ L * val ys := Int.mul_le_mul_of_nonneg_right (by omega) n2
    have e2 : (4294967296 : Int) ^ L * val ys < 4294967296 ^ L * 4294967296 ^ M := Int.mul_lt_mul_of_pos_left (by omega) (pw_pos L)
    omega
  have HLT := hid hlt
  have HA := hid (mul_sl v u xs ys w h g (by omega) (by omega))
  rw [hb] at HA
  clear hb h1 h2 p1 p2 hlt h g
  go_enter Tryd.func21, Tryd.ntmps21
  go_wp2_with fail
  refine Calls.mono HA.out ?_
  rintro e w1 ⟨v1, zs, code, rfl, ho, ht, hbel⟩
  obtain ⟨rfl, hv⟩ := ht.good rfl (lt_wide HLT.out (by omega))
  have HR := hid (Sl.own ho ht.wd)
  have HLN := hid (len_of_lt ht.wd ht.trim (L := L + M) (by rw [hv]; exact HLT.out))
  have HV := hid hv
  have HTR := hid ht.trim
  clear ho ht hv
  go_wp2
  go_ret
  exact ⟨v1, zs, rfl, HR.out, HTR.out, HV.out, HLN.out, hbel⟩

set_option maxHeartbeats 800000 in
set_option maxRecDepth 100000 in
theorem divMod_word (v u : Value) (xs : List Int) (y : Int) (w : World) (h : Sl w v xs) (g : Sl w u [y]) (tx : Trimmed xs) (lx : xs.length ≤ 8192) (hy : 1 ≤ y) :
    Calls Tryd.prog 25 #[v, u] w fun e w' => ∃ v1 u1 q r, e = .returned (.tuple #[v1, u1, .int .i64 0]) ∧ Sl w' v1 q ∧ Sl w' u1 r ∧ Trimmed q ∧ Trimmed r ∧ val xs = val q * y + val r ∧ val r < y ∧ Below w.heap.size w w' := by
  have ty : Trimmed [y] := by
    have e : ¬ y = 0 := by omega
    simp [Trimmed, sz, szTo, e]
  have HB := hid (checkBoth_sl v u xs [y] w h g (by omega) (by simp))
  rw [both_good (chk_good lx tx) (chk_good (by simp) ty)] at HB
  have HD : Hid (Calls Tryd.prog 54 #[v, u] w (Divided w xs [y])) := by
    by_cases hlt : val xs < y
    · exact divide_less v u xs [y] w h g lx (by simp) (by rw [val_one]; exact hlt)
    · exact divide_word v u xs y w h g lx tx hy (by omega)
  obtain ⟨b, cap', rfl, gr⟩ := g
  clear gr h ty
  go_enter Tryd.func25, Tryd.ntmps25
  go_wp2_with fail
  refine Calls.mono HB.out ?_
  rintro e w' ⟨rfl, rfl⟩
  go_wp2_with fail
  refine Calls.mono HD.out ?_
  rintro e w1 ⟨v1, u1, q, r, c, rfl, oq, orr, _, _, _, _, wq, wr, tq, tr, hv, hlt, hbel⟩
  have HQ := hid (Sl.own oq wq)
  have HR := hid (Sl.own orr wr)
  rw [val_one] at hv hlt
  have HV := hid hv
  have HLT := hid hlt
  clear oq orr hv hlt
  go_wp2
  go_ret3
  exact ⟨v1, u1, q, r, rfl, HQ.out, HR.out, tq, tr, HV.out, HLT.out, hbel⟩

theorem digits_ex : Lib.decDigits 4294967296 = [52, 50, 57, 52, 57, 54, 55, 50, 57, 54] := by simp [Lib.decDigits]

theorem ofTrim {zs ys : List Int} {w : World} {v : Value} (h : Sl w v zs) (tz : Trimmed zs) (wy : Wd ys) (ty : Trimmed ys) (hv : val zs = val ys) : zs = ys := trimmed_eq h.wd wy tz ty hv

theorem Sl.lit' (w : World) (b : Nat) (zs : List Int) (cs : Array Value) (n : Nat) (hb : b = w.heap.size) (hw : Wd zs) (hm : zs.length ≤ maxLen) (hc : cs = (zs.map (Value.int .u32)).toArray) (hn : n = zs.length) : Sl (w.alloc (.cells cs 43)) (.slice (some ⟨b, 0, none⟩) n n) zs := by
  subst hb; subst hc; subst hn
  exact Sl.lit w zs hw hm
theorem alloc_later (w : World) (o : Obj) : Below w.heap.size w (w.alloc o) := (Below.refl _ _).alloc (Nat.le_refl _) _

/-- Two short lists, laid one behind the other. -/
theorem two_lits (w : World) (xs ys : List Int) (cs ds : Array Value) (n m : Nat) (hx : Wd xs) (hy : Wd ys) (lx : xs.length ≤ 10) (ly : ys.length ≤ 10) (hc : cs = (xs.map (Value.int .u32)).toArray) (hd : ds = (ys.map (Value.int .u32)).toArray) (hn : n = xs.length) (hm : m = ys.length) :
    Sl ((w.alloc (.cells cs 43)).alloc (.cells ds 43)) (.slice (some ⟨w.heap.size, 0, none⟩) n n) xs ∧ Sl ((w.alloc (.cells cs 43)).alloc (.cells ds 43)) (.slice (some ⟨w.heap.size + 1, 0, none⟩) m m) ys ∧
      Below w.heap.size w ((w.alloc (.cells cs 43)).alloc (.cells ds 43)) := by
  have m1 : xs.length ≤ maxLen := by unfold maxLen; omega
  have m2 : ys.length ≤ maxLen := by unfold maxLen; omega
  exact ⟨(Sl.lit' w _ xs cs n rfl hx m1 hc hn).later (alloc_later _ _), Sl.lit' _ _ ys ds m (by simp) hy m2 hd hm, bt (alloc_later _ _) (alloc_later _ _)⟩

set_option maxHeartbeats 3200000 in
set_option maxRecDepth 100000 in
theorem awake_any (w : World) (htab : Tab w) : Calls Tryd.prog 24 #[] w fun e w' => e = .returned (.bool true) ∧ Below w.heap.size w w' := by
  have t1 : Trimmed [4294967295] := rfl
  have t2 : Trimmed [1] := rfl
  have t3 : Trimmed [0, 0, 1] := rfl
  have t4 : Trimmed [0, 1] := rfl
  have t5 : Trimmed [1431655765, 1431655765] := rfl
  have w1' : Wd [4294967295] := Wd.one (by omega)
  have w2' : Wd [1] := Wd.one (by omega)
  have w3' : Wd [0, 0, 1] := Wd.cons (by omega) (Wd.cons (by omega) w2')
  have w4' : Wd [0, 1] := Wd.cons (by omega) w2'
  have w5' : Wd [1431655765, 1431655765] := Wd.cons (by omega) (Wd.one (by omega))
  have w6' : Wd [3] := Wd.one (by omega)
  have HT := hid htab
  have b1 := both_good (chk_good (by simp) t1) (chk_good (by simp) t2)
  obtain ⟨s1, s2, hbA⟩ := two_lits w [4294967295] [1] #[.int .u32 4294967295] #[.int .u32 1] 1 1 w1' w2' (by simp) (by simp) rfl rfl rfl rfl
  have HA := hid (add_sl _ _ _ _ _ s1 s2 (by simp) (by simp))
  rw [b1] at HA
  have HBA := hid hbA
  clear htab b1 s1 s2 hbA
  go_enter Tryd.func24, Tryd.ntmps24
  go_wp2_with fail
  refine Calls.mono HA.out ?_
  rintro e w3 ⟨v3, zs, code, rfl, ho3, ht3, hb3⟩
  obtain ⟨rfl, hv3⟩ := ht3.good rfl (lt_wide (L := 2) (by simp [val, valTo]) (by omega))
  have hz3 : zs = [0, 1] := trimmed_eq ht3.wd w4' ht3.trim t4 (by rw [hv3]; simp [val, valTo])
  subst hz3
  have hb := bt HBA.out hb3
  have S3 := hid (Sl.own ho3 w4')
  obtain ⟨a3, c3, hv3'⟩ := own_slice' ho3
  obtain ⟨s1, s2, hbA⟩ := two_lits w3 [0, 0, 1] [3] #[.int .u32 0, .int .u32 0, .int .u32 1] #[.int .u32 3] 3 1 w3' w6' (by simp) (by simp) rfl rfl rfl rfl
  have HD := hid (divMod_word _ _ _ _ _ s1 s2 t3 (by simp) (by omega))
  have HBA2 := hid hbA
  clear ho3 ht3 hv3 hb3 HA HBA s1 s2 hbA hv3'
  go_wp2_with fail
  refine Calls.mono HD.out ?_
  rintro e w4 ⟨v4, u4, q, r, rfl, sq, sr, tq, tr, hv, hlt, hb4⟩
  have hbB := bt HBA2.out hb4
  have n1 := val_nonneg sr.wd
  have n2 := val_nonneg sq.wd
  have e0 : val [0, 0, 1] = 18446744073709551616 := by simp [val, valTo]
  rw [e0] at hv
  have hq : q = [1431655765, 1431655765] := trimmed_eq sq.wd w5' tq t5 (by rw [val_two]; omega)
  have hr : r = [1] := trimmed_eq sr.wd w2' tr t2 (by rw [val_one]; omega)
  subst hq
  subst hr
  have S3b := hid (S3.out.later hbB)
  have hbC := bt hb hbB
  have SQ := hid sq
  have SR := hid sr
  have sl := Sl.lit' w4 _ [0, 1] #[.int .u32 0, .int .u32 1] 2 rfl w4' (by unfold maxLen; simp) rfl rfl
  have HP := hid (print_any _ _ _ sl (by simp) (HT.out.later (bt hbC (alloc_later w4 (.cells #[.int .u32 0, .int .u32 1] 43)))))
  rw [chk_good (by simp) t4, if_pos rfl, val_two, show ((0 : Int) + 1 * 4294967296).toNat = 4294967296 from rfl, digits_ex] at HP
  have hbD := bt hbC (alloc_later w4 (.cells #[.int .u32 0, .int .u32 1] 43))
  have S3c := hid (S3b.out.later (alloc_later w4 (.cells #[.int .u32 0, .int .u32 1] 43)))
  have SQc := hid (SQ.out.later (alloc_later w4 (.cells #[.int .u32 0, .int .u32 1] 43)))
  have SRc := hid (SR.out.later (alloc_later w4 (.cells #[.int .u32 0, .int .u32 1] 43)))
  have HBD := hid hbD
  clear sq sr tq tr hv hlt hb4 hbB n1 n2 e0 hb hbC sl hbD HBA2 HD S3 S3b SQ SR
  go_wp2_with fail
  refine Calls.mono HP.out ?_
  rintro e w5 ⟨rfl, hb5⟩
  have hb := bt HBD.out hb5
  have S3 := hid (S3c.out.later hb5)
  have SQ := hid (SQc.out.later hb5)
  have SR := hid (SRc.out.later hb5)
  clear hb5 HP HBD S3c SQc SRc
  have L6 := Sl.lit' w5 _ [0, 1] #[.int .u32 0, .int .u32 1] 2 rfl w4' (by unfold maxLen; simp) rfl rfl
  have HS6 := hid (same_sl _ _ _ _ _ (S3.out.later (alloc_later w5 (.cells #[.int .u32 0, .int .u32 1] 43))) L6 (by simp) (by simp))
  have hbq := bt hb (alloc_later w5 (.cells #[.int .u32 0, .int .u32 1] 43))
  have SQq := hid (SQ.out.later (alloc_later w5 (.cells #[.int .u32 0, .int .u32 1] 43)))
  have SRq := hid (SR.out.later (alloc_later w5 (.cells #[.int .u32 0, .int .u32 1] 43)))
  rw [show decide ([0, 1] = ([0, 1] : List Int)) = true from decide_eq_true rfl] at HS6
  clear L6 hb S3 SQ SR
  go_wp2_with fail
  refine Calls.mono HS6.out ?_
  rintro e w6 ⟨rfl, hbn⟩
  have hb := bt hbq hbn
  have SQ := hid (SQq.out.later hbn)
  have SR := hid (SRq.out.later hbn)
  clear hbq hbn HS6 SQq SRq
  have L7 := Sl.lit' w6 _ [1431655765, 1431655765] #[.int .u32 1431655765, .int .u32 1431655765] 2 rfl w5' (by unfold maxLen; simp) rfl rfl
  have HS7 := hid (same_sl _ _ _ _ _ (SQ.out.later (alloc_later w6 (.cells #[.int .u32 1431655765, .int .u32 1431655765] 43))) L7 (by simp) (by simp))
  have hbq := bt hb (alloc_later w6 (.cells #[.int .u32 1431655765, .int .u32 1431655765] 43))
  have SRq := hid (SR.out.later (alloc_later w6 (.cells #[.int .u32 1431655765, .int .u32 1431655765] 43)))
  rw [show decide ([1431655765, 1431655765] = ([1431655765, 1431655765] : List Int)) = true from decide_eq_true rfl] at HS7
  clear L7 hb SQ SR
  go_wp2_with fail
  refine Calls.mono HS7.out ?_
  rintro e w7 ⟨rfl, hbn⟩
  have hb := bt hbq hbn
  have SR := hid (SRq.out.later hbn)
  clear hbq hbn HS7 SRq
  have L8 := Sl.lit' w7 _ [1] #[.int .u32 1] 1 rfl w2' (by unfold maxLen; simp) rfl rfl
  have HS8 := hid (same_sl _ _ _ _ _ (SR.out.later (alloc_later w7 (.cells #[.int .u32 1] 43))) L8 (by simp) (by simp))
  have hbq := bt hb (alloc_later w7 (.cells #[.int .u32 1] 43))
  rw [show decide ([1] = ([1] : List Int)) = true from decide_eq_true rfl] at HS8
  clear L8 hb SR 
  go_wp2_with fail
  refine Calls.mono HS8.out ?_
  rintro e w8 ⟨rfl, hbn⟩
  have hb := bt hbq hbn
  clear hbq hbn HS8 
  go_wp2_with fail
  go_ret
  exact ⟨rfl, hb⟩
end Go.Proofs.YtbcangblmadnpaaDoor
