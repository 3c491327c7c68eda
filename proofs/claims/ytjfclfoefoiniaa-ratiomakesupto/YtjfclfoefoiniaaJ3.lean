/- My texts on the way to RatioMakes, one behind the other: contracts of the program and of the document's answers. -/
import Derived.Test.YtjfclfoefoiniaaJ2
import Derived.Deep.LoopGhost
import Derived.Deep.RegionHeld3
import Derived.Deep.RegionLaw
import Derived.LoopN
import Derived.Deep.Cut
/- The document's own greatest common divisor: slackwaterref01.Common. -/
namespace Go.Proofs.Ytjfclfoefoiniaa
open Go.RowKit
set_option linter.unusedVariables false

set_option maxHeartbeats 3200000 in
set_option maxRecDepth 100000 in
theorem refCommon_any (v u : Value) (xs ys : List Int) (w : World) (h : Sl w v xs) (g : Sl w u ys) (hn : xs.length ≤ 8200) (hm : ys.length ≤ 8200) (hx : Trimmed xs) (hy : Trimmed ys) :
    Calls Try.prog 61 #[v, u] w (Ref1 w (gcdI (val xs) (val ys))) := by
  have HS := hid (And.intro h g)
  obtain ⟨a, cap, rfl, hr⟩ := h
  obtain ⟨b, cap', rfl, gr⟩ := g
  clear hr gr
  go_enter Try.func61, Try.ntmps61
  go_wp2_with fail
  go_loopg [0, 1] (val ys).toNat (fun k s0 s1 wr => ∃ (a : Option Addr) (c : Nat) (us : List Int) (b : Option Addr) (d : Nat) (vs : List Int), s0 = .slice a us.length c ∧ s1 = .slice b vs.length d ∧ us.length ≤ 8200 ∧ vs.length ≤ 8200 ∧ Hid (Sl wr (.slice a us.length c) us ∧ Sl wr (.slice b vs.length d) vs ∧ Trimmed us ∧ Trimmed vs ∧ (k : Int) = val vs ∧ gcdI (val us) (val vs) = gcdI (val xs) (val ys)) ∧ Below w.heap.size w wr)
  case atStart => exact ⟨a, cap, xs, b, cap', ys, rfl, rfl, hn, hm, ⟨HS.out.1, HS.out.2, hx, hy, by have := val_nonneg HS.out.2.wd; omega, rfl⟩, Below.refl _ _⟩
  case round =>
    obtain ⟨a1, c1, us, b1, d1, vs, rfl, rfl, lu, lv, HR, hb⟩ := hrel
    by_cases h0 : vs.length = 0
    · have HF : Hid (val us = gcdI (val xs) (val ys)) := by
        have e1 : vs = [] := List.eq_nil_of_length_eq_zero h0
        have e2 := HR.out.2.2.2.2.2
        rw [e1, val_nil, gcdI_zero _ (val_nonneg HR.out.1.wd)] at e2
        exact e2
      have HT := hid (refTrim_sl _ us wr HR.out.1 (by omega))
      have HW := hid HR.out.1.wd
      rw [h0]
      clear HR HS h0 lv
      go_wp2_with fail
      refine Calls.mono HT.out ?_
      rintro e w3 ⟨v3, rfl, o3, hb3⟩
      have HO3 := hid (owns_base (owns_len o3) hb.size)
      have hbF := bt hb hb3
      clear o3 hb3
      go_wp2_with fail
      go_ret
      exact ⟨v3, _, rfl, HO3.out, HW.out.trimmed, Trimmed.trimmed _, by rw [val_trimmed]; exact HF.out, hbF⟩
    · have hpos : (0 : Int) < (vs.length : Int) := by omega
      have HO := hid (refOver_any _ _ us vs wr HR.out.1 HR.out.2.1 lu lv HR.out.2.2.1 HR.out.2.2.2.1 (by omega))
      have HB := hid hb
      clear hb HS
      go_wp2_with fail
      refine Calls.mono HO.out ?_
      rintro e w2 ⟨v2, zs, v3, rs, rfl, o2, o3, wz, wr', tz, tr, hv, hlt, hb2⟩
      obtain ⟨a3, c3, hs⟩ := own_slice' o3
      subst hs
      have lr : rs.length ≤ 8200 := by
        have := len_of_lt wr' tr (L := vs.length) (by have := val_lt HR.out.2.1.wd; omega)
        omega
      have HN : Hid (Sl w2 (.slice b1 vs.length d1) vs ∧ Sl w2 (.slice a3 rs.length c3) rs ∧ Trimmed vs ∧ Trimmed rs ∧ ((val rs).toNat : Int) = val rs ∧ gcdI (val vs) (val rs) = gcdI (val xs) (val ys)) :=
        ⟨HR.out.2.1.later hb2, Sl.own o3 wr', HR.out.2.2.2.1, tr, by have := val_nonneg wr'; omega, by rw [← HR.out.2.2.2.2.2]; exact (gcdI_rest hv).symm⟩
      have HM : Hid ((val rs).toNat < (val vs).toNat) := by have := val_nonneg wr'; show _ < _; omega
      have HBN := hid (bt HB.out hb2)
      have HKK := hid HR.out.2.2.2.2.1
      clear o2 o3 hv hlt hb2 HR HO HB
      go_wp2_with fail
      go_roundg (val rs).toNat
      case rel => exact ⟨b1, d1, vs, a3, c3, rs, rfl, rfl, lv, lr, HN, HBN.out⟩
      case measure => have := HM.out; have := HKK.out; omega
end Go.Proofs.Ytjfclfoefoiniaa

/- The document's told: a number, if it is not too long. -/
namespace Go.Proofs.Ytjfclfoefoiniaa
open Go.RowKit
set_option linter.unusedVariables false

set_option maxHeartbeats 800000 in
set_option maxRecDepth 100000 in
theorem refTold_ok (a : Option Addr) (n c : Nat) (w : World) (h : n ≤ 8192) :
    Calls Try.prog 60 #[.slice a n c] w fun e w' => e = .returned (.tuple #[.slice a n c, .int .i64 0]) ∧ w = w' := by
  have h' : ¬ (8192 : Int) < (n : Int) := by omega
  go_enter Try.func60, Try.ntmps60
  go_wp2_with fail
  go_ret2
  exact ⟨rfl, rfl⟩
set_option maxHeartbeats 800000 in
set_option maxRecDepth 100000 in
theorem refTold_long (a : Option Addr) (n c : Nat) (w : World) (h : 8192 < n) :
    Calls Try.prog 60 #[.slice a n c] w fun e w' => e = .returned (.tuple #[.slice none 0 0, .int .i64 3]) ∧ w = w' := by
  have h' : (8192 : Int) < (n : Int) := by omega
  go_enter Try.func60, Try.ntmps60
  go_wp2_with fail
  go_ret2
  exact ⟨rfl, rfl⟩
theorem trimmed_wide {zs : List Int} {t : Int} (hw : Wd zs) (ht : Trimmed zs) (hv : val zs = t) : 8192 < zs.length ↔ wide ≤ t := by
  rw [← hv, ← wide_iff hw]
  have e : sz zs = zs.length := ht
  rw [e]
end Go.Proofs.Ytjfclfoefoiniaa

/- The document's own calls that may refuse: slackwaterref01.both, told, Add, Sub, Mul, DivMod, Gcd: of every two lists that can be read. -/
namespace Go.Proofs.Ytjfclfoefoiniaa
open Go.RowKit
set_option linter.unusedVariables false

set_option maxHeartbeats 800000 in
set_option maxRecDepth 100000 in
theorem refBoth_sl (v u : Value) (xs ys : List Int) (w : World) (h : Sl w v xs) (g : Sl w u ys) (hn : xs.length ≤ 281474976710656) (hm : ys.length ≤ 281474976710656) :
    Calls Try.prog 59 #[v, u] w fun e w' => e = .returned (.int .i64 (both xs ys)) ∧ w = w' := by
  have H1 := hid (refCheck_sl v xs w h hn)
  have H2 := hid (refCheck_sl u ys w g hm)
  by_cases hc : chk xs = 0
  · have HE : Hid (both xs ys = chk ys) := by show _ = _; unfold both; rw [if_pos hc]
    rw [hc] at H1
    clear h g hc
    go_enter Try.func59, Try.ntmps59
    go_wp2_with fail
    refine Calls.mono H1.out ?_
    rintro e w1 ⟨rfl, rfl⟩
    go_wp2_with fail
    refine Calls.mono H2.out ?_
    rintro e w1 ⟨rfl, rfl⟩
    go_wp2_with fail
    go_ret
    exact ⟨ret_int HE.out.symm, rfl⟩
  · have HE : Hid (both xs ys = chk xs) := by show _ = _; unfold both; rw [if_neg hc]
    have hc' : (chk xs == 0) = false := by simpa using hc
    clear h g hc
    go_enter Try.func59, Try.ntmps59
    go_wp2_with fail
    refine Calls.mono H1.out ?_
    rintro e w1 ⟨rfl, rfl⟩
    go_wp2_with fail
    go_ret
    exact ⟨ret_int HE.out.symm, rfl⟩
set_option maxHeartbeats 1600000 in
set_option maxRecDepth 100000 in
theorem refAdd_sl (v u : Value) (xs ys : List Int) (w : World) (h : Sl w v xs) (g : Sl w u ys) (hn : xs.length ≤ 281474976710656) (hm : ys.length ≤ 281474976710656) :
    Calls Try.prog 69 #[v, u] w (Told w (both xs ys) (val xs + val ys)) := by
  by_cases hb : both xs ys = 0
  · have HB := hid (refBoth_sl v u xs ys w h g hn hm)
    rw [hb] at HB
    obtain ⟨k1, k2⟩ := both_ok hb
    obtain ⟨lx, tx⟩ := chk_ok k1
    obtain ⟨ly, ty⟩ := chk_ok k2
    have HP := hid (refPlus_sl v u xs ys w h g (by omega) (by omega))
    rw [hb]
    clear h g hb k1 k2
    go_enter Try.func69, Try.ntmps69
    go_wp2_with fail
    refine Calls.mono HB.out ?_
    rintro e w1 ⟨rfl, rfl⟩
    go_wp2_with fail
    refine Calls.mono HP.out ?_
    intro e w2 h2
    obtain ⟨a2, c2, zs, rfl, o2, wz, tz, vz, hb2⟩ := h2.slice
    have hwd := trimmed_wide wz tz vz
    have HR := hid (And.intro o2 (And.intro wz (And.intro tz (And.intro vz (And.intro hwd hb2)))))
    by_cases hlen : 8192 < zs.length
    · have HT := hid (refTold_long a2 zs.length c2 w2 hlen)
      have HL := hid (hwd.1 hlen)
      clear h2 o2 wz tz vz hwd hb2 hlen
      go_wp2_with fail
      refine Calls.mono HT.out ?_
      rintro e w3 ⟨rfl, rfl⟩
      go_wp2_with fail
      go_ret2
      exact ⟨_, [], 3, rfl, World.ownsRow_nil _ _ _ _, Tells.tooLong HL.out, HR.out.2.2.2.2.2⟩
    · have HT := hid (refTold_ok a2 zs.length c2 w2 (by omega))
      have HL := hid (Int.not_le.1 fun h => hlen (hwd.2 h))
      clear h2 o2 wz tz vz hwd hb2 hlen
      go_wp2_with fail
      refine Calls.mono HT.out ?_
      rintro e w3 ⟨rfl, rfl⟩
      go_wp2_with fail
      go_ret2
      exact ⟨_, zs, 0, rfl, HR.out.1, Tells.ok HR.out.2.1 HR.out.2.2.1 HR.out.2.2.2.1 HL.out, HR.out.2.2.2.2.2⟩
  · have HB := hid (refBoth_sl v u xs ys w h g hn hm)
    have hb' : (both xs ys == 0) = false := by simpa using hb
    have HE := hid hb
    clear h g hb
    go_enter Try.func69, Try.ntmps69
    go_wp2_with fail
    refine Calls.mono HB.out ?_
    rintro e w1 ⟨rfl, rfl⟩
    go_wp2_with fail
    go_ret2
    exact ⟨_, [], _, rfl, World.ownsRow_nil _ _ _ _, Tells.err HE.out, Below.refl _ _⟩

set_option maxHeartbeats 1600000 in
set_option maxRecDepth 100000 in
theorem refGcd_sl (v u : Value) (xs ys : List Int) (w : World) (h : Sl w v xs) (g : Sl w u ys) (hn : xs.length ≤ 281474976710656) (hm : ys.length ≤ 281474976710656) :
    Calls Try.prog 43 #[v, u] w (Told w (both xs ys) (gcdI (val xs) (val ys))) := by
  by_cases hb : both xs ys = 0
  · have HB := hid (refBoth_sl v u xs ys w h g hn hm)
    rw [hb] at HB
    obtain ⟨k1, k2⟩ := both_ok hb
    obtain ⟨lx, tx⟩ := chk_ok k1
    obtain ⟨ly, ty⟩ := chk_ok k2
    have HP := hid (refCommon_any v u xs ys w h g (by omega) (by omega) tx ty)
    rw [hb]
    clear h g hb k1 k2
    go_enter Try.func43, Try.ntmps43
    go_wp2_with fail
    refine Calls.mono HB.out ?_
    rintro e w1 ⟨rfl, rfl⟩
    go_wp2_with fail
    refine Calls.mono HP.out ?_
    intro e w2 h2
    obtain ⟨a2, c2, zs, rfl, o2, wz, tz, vz, hb2⟩ := h2.slice
    have hwd := trimmed_wide wz tz vz
    have HR := hid (And.intro o2 (And.intro wz (And.intro tz (And.intro vz (And.intro hwd hb2)))))
    by_cases hlen : 8192 < zs.length
    · have HT := hid (refTold_long a2 zs.length c2 w2 hlen)
      have HL := hid (hwd.1 hlen)
      clear h2 o2 wz tz vz hwd hb2 hlen
      go_wp2_with fail
      refine Calls.mono HT.out ?_
      rintro e w3 ⟨rfl, rfl⟩
      go_wp2_with fail
      go_ret2
      exact ⟨_, [], 3, rfl, World.ownsRow_nil _ _ _ _, Tells.tooLong HL.out, HR.out.2.2.2.2.2⟩
    · have HT := hid (refTold_ok a2 zs.length c2 w2 (by omega))
      have HL := hid (Int.not_le.1 fun h => hlen (hwd.2 h))
      clear h2 o2 wz tz vz hwd hb2 hlen
      go_wp2_with fail
      refine Calls.mono HT.out ?_
      rintro e w3 ⟨rfl, rfl⟩
      go_wp2_with fail
      go_ret2
      exact ⟨_, zs, 0, rfl, HR.out.1, Tells.ok HR.out.2.1 HR.out.2.2.1 HR.out.2.2.2.1 HL.out, HR.out.2.2.2.2.2⟩
  · have HB := hid (refBoth_sl v u xs ys w h g hn hm)
    have hb' : (both xs ys == 0) = false := by simpa using hb
    have HE := hid hb
    clear h g hb
    go_enter Try.func43, Try.ntmps43
    go_wp2_with fail
    refine Calls.mono HB.out ?_
    rintro e w1 ⟨rfl, rfl⟩
    go_wp2_with fail
    go_ret2
    exact ⟨_, [], _, rfl, World.ownsRow_nil _ _ _ _, Tells.err HE.out, Below.refl _ _⟩

set_option maxHeartbeats 1600000 in
set_option maxRecDepth 100000 in
theorem refSub_sl (v u : Value) (xs ys : List Int) (w : World) (h : Sl w v xs) (g : Sl w u ys) (hn : xs.length ≤ 281474976710656) (hm : ys.length ≤ 281474976710656) :
    Calls Try.prog 71 #[v, u] w (Told w (if both xs ys = 0 then (if val xs < val ys then 2 else 0) else both xs ys) (val xs - val ys)) := by
  by_cases hb : both xs ys = 0
  · have HB := hid (refBoth_sl v u xs ys w h g hn hm)
    rw [hb] at HB
    obtain ⟨k1, k2⟩ := both_ok hb
    obtain ⟨lx, tx⟩ := chk_ok k1
    obtain ⟨ly, ty⟩ := chk_ok k2
    rw [if_pos hb]
    have HC := hid (refCompare_sl v u xs ys w h g (by omega) (by omega))
    by_cases hlt : val xs < val ys
    · rw [if_pos hlt]
      rw [cmpI_lt hlt] at HC
      clear h g hb k1 k2 hlt
      go_enter Try.func71, Try.ntmps71
      go_wp2_with fail
      refine Calls.mono HB.out ?_
      rintro e w1 ⟨rfl, rfl⟩
      go_wp2_with fail
      refine Calls.mono HC.out ?_
      rintro e w1 ⟨rfl, rfl⟩
      go_wp2_with fail
      go_ret2
      exact ⟨_, [], 2, rfl, World.ownsRow_nil _ _ _ _, Tells.err (by decide), Below.refl _ _⟩
    · rw [if_neg hlt]
      have HP := hid (refLess_sl v u xs ys w h g (by omega) (by omega) (by omega))
      obtain ⟨c, hcc, hcv⟩ : ∃ c, cmpI (val xs) (val ys) = c ∧ ¬ c < 0 ∧ c ≤ 1 := by
        by_cases e : val xs = val ys
        · exact ⟨0, cmpI_eq e, by omega, by omega⟩
        · exact ⟨1, cmpI_gt (by omega), by omega, by omega⟩
      obtain ⟨c0, c1⟩ := hcv
      rw [hcc] at HC
      clear h g hb k1 k2 hlt hcc
      go_enter Try.func71, Try.ntmps71
      go_wp2_with fail
      refine Calls.mono HB.out ?_
      rintro e w1 ⟨rfl, rfl⟩
      go_wp2_with fail
      refine Calls.mono HC.out ?_
      rintro e w1 ⟨rfl, rfl⟩
      go_wp2_with fail
      refine Calls.mono HP.out ?_
      intro e w2 h2
      obtain ⟨a2, c2, zs, rfl, o2, wz, tz, vz, hb2⟩ := h2.slice
      have hwd := trimmed_wide wz tz vz
      have HR := hid (And.intro o2 (And.intro wz (And.intro tz (And.intro vz (And.intro hwd hb2)))))
      by_cases hlen : 8192 < zs.length
      · have HT := hid (refTold_long a2 zs.length c2 w2 hlen)
        have HL := hid (hwd.1 hlen)
        clear h2 o2 wz tz vz hwd hb2 hlen
        go_wp2_with fail
        refine Calls.mono HT.out ?_
        rintro e w3 ⟨rfl, rfl⟩
        go_wp2_with fail
        go_ret2
        exact ⟨_, [], 3, rfl, World.ownsRow_nil _ _ _ _, Tells.tooLong HL.out, HR.out.2.2.2.2.2⟩
      · have HT := hid (refTold_ok a2 zs.length c2 w2 (by omega))
        have HL := hid (Int.not_le.1 fun h => hlen (hwd.2 h))
        clear h2 o2 wz tz vz hwd hb2 hlen
        go_wp2_with fail
        refine Calls.mono HT.out ?_
        rintro e w3 ⟨rfl, rfl⟩
        go_wp2_with fail
        go_ret2
        exact ⟨_, zs, 0, rfl, HR.out.1, Tells.ok HR.out.2.1 HR.out.2.2.1 HR.out.2.2.2.1 HL.out, HR.out.2.2.2.2.2⟩
  · rw [if_neg hb]
    have HB := hid (refBoth_sl v u xs ys w h g hn hm)
    have hb' : (both xs ys == 0) = false := by simpa using hb
    have HE := hid hb
    clear h g hb
    go_enter Try.func71, Try.ntmps71
    go_wp2_with fail
    refine Calls.mono HB.out ?_
    rintro e w1 ⟨rfl, rfl⟩
    go_wp2_with fail
    go_ret2
    exact ⟨_, [], _, rfl, World.ownsRow_nil _ _ _ _, Tells.err HE.out, Below.refl _ _⟩

set_option maxHeartbeats 1600000 in
set_option maxRecDepth 100000 in
theorem refMul_sl (v u : Value) (xs ys : List Int) (w : World) (h : Sl w v xs) (g : Sl w u ys) (hn : xs.length ≤ 281474976710656) (hm : ys.length ≤ 281474976710656) :
    Calls Try.prog 72 #[v, u] w (Told w (both xs ys) (val xs * val ys)) := by
  by_cases hb : both xs ys = 0
  · have HB := hid (refBoth_sl v u xs ys w h g hn hm)
    rw [hb] at HB
    obtain ⟨k1, k2⟩ := both_ok hb
    obtain ⟨lx, tx⟩ := chk_ok k1
    obtain ⟨ly, ty⟩ := chk_ok k2
    have HP := hid (refTimes_sl v u xs ys w h g (by omega) (by omega))
    rw [hb]
    have wx := h.wd
    have wy := g.wd
    have HV := hid (And.intro h g)
    obtain ⟨a, cap, rfl, hr⟩ := h
    obtain ⟨b, cap', rfl, gr⟩ := g
    clear hr gr
    by_cases hx0 : 0 < xs.length
    · have hx1 : (0 : Int) < (xs.length : Int) := by omega
      by_cases hy0 : 0 < ys.length
      · have hy1 : (0 : Int) < (ys.length : Int) := by omega
        by_cases hlong : 8192 < xs.length + ys.length - 1
        · have HL : Hid (wide ≤ val xs * val ys) := by
            show _ ≤ _
            have e1 := val_ge wx tx hx0
            have e2 := val_ge wy ty hy0
            have e3 : (4294967296 : Int) ^ (xs.length - 1) * 4294967296 ^ (ys.length - 1) ≤ val xs * val ys := Int.mul_le_mul e1 e2 (Int.le_of_lt (pw_pos _)) (val_nonneg wx)
            rw [← Int.pow_add] at e3
            have e4 : wide ≤ (4294967296 : Int) ^ (xs.length - 1 + (ys.length - 1)) := pw_le (by omega)
            omega
          have hl1 : (8192 : Int) < (xs.length : Int) + (ys.length : Int) - 1 := by omega
          clear hb k1 k2 hlong HV HP
          go_enter Try.func72, Try.ntmps72
          go_wp2_with fail
          refine Calls.mono HB.out ?_
          rintro e w1 ⟨rfl, rfl⟩
          go_wp2_with fail
          go_ret2
          exact ⟨_, [], 3, rfl, World.ownsRow_nil _ _ _ _, Tells.tooLong HL.out, Below.refl _ _⟩
        · have hl1 : ¬ (8192 : Int) < (xs.length : Int) + (ys.length : Int) - 1 := by omega
          clear hb k1 k2 hlong HV
          go_enter Try.func72, Try.ntmps72
          go_wp2_with fail
          refine Calls.mono HB.out ?_
          rintro e w1 ⟨rfl, rfl⟩
          go_wp2_with fail
          refine Calls.mono HP.out ?_
          intro e w2 h2
          obtain ⟨a2, c2, zs, rfl, o2, wz, tz, vz, hb2⟩ := h2.slice
          have hwd := trimmed_wide wz tz vz
          have HR := hid (And.intro o2 (And.intro wz (And.intro tz (And.intro vz (And.intro hwd hb2)))))
          by_cases hlen : 8192 < zs.length
          · have HT := hid (refTold_long a2 zs.length c2 w2 hlen)
            have HL := hid (hwd.1 hlen)
            clear h2 o2 wz tz vz hwd hb2 hlen
            go_wp2_with fail
            refine Calls.mono HT.out ?_
            rintro e w3 ⟨rfl, rfl⟩
            go_wp2_with fail
            go_ret2
            exact ⟨_, [], 3, rfl, World.ownsRow_nil _ _ _ _, Tells.tooLong HL.out, HR.out.2.2.2.2.2⟩
          · have HT := hid (refTold_ok a2 zs.length c2 w2 (by omega))
            have HL := hid (Int.not_le.1 fun h => hlen (hwd.2 h))
            clear h2 o2 wz tz vz hwd hb2 hlen
            go_wp2_with fail
            refine Calls.mono HT.out ?_
            rintro e w3 ⟨rfl, rfl⟩
            go_wp2_with fail
            go_ret2
            exact ⟨_, zs, 0, rfl, HR.out.1, Tells.ok HR.out.2.1 HR.out.2.2.1 HR.out.2.2.2.1 HL.out, HR.out.2.2.2.2.2⟩
      · have hy2 : ys.length = 0 := by omega
        rw [hy2] at HP HB ⊢
        clear hb k1 k2 HV hy0
        go_enter Try.func72, Try.ntmps72
        go_wp2_with fail
        refine Calls.mono HB.out ?_
        rintro e w1 ⟨rfl, rfl⟩
        go_wp2_with fail
        refine Calls.mono HP.out ?_
        intro e w2 h2
        obtain ⟨a2, c2, zs, rfl, o2, wz, tz, vz, hb2⟩ := h2.slice
        have hwd := trimmed_wide wz tz vz
        have HR := hid (And.intro o2 (And.intro wz (And.intro tz (And.intro vz (And.intro hwd hb2)))))
        by_cases hlen : 8192 < zs.length
        · have HT := hid (refTold_long a2 zs.length c2 w2 hlen)
          have HL := hid (hwd.1 hlen)
          clear h2 o2 wz tz vz hwd hb2 hlen
          go_wp2_with fail
          refine Calls.mono HT.out ?_
          rintro e w3 ⟨rfl, rfl⟩
          go_wp2_with fail
          go_ret2
          exact ⟨_, [], 3, rfl, World.ownsRow_nil _ _ _ _, Tells.tooLong HL.out, HR.out.2.2.2.2.2⟩
        · have HT := hid (refTold_ok a2 zs.length c2 w2 (by omega))
          have HL := hid (Int.not_le.1 fun h => hlen (hwd.2 h))
          clear h2 o2 wz tz vz hwd hb2 hlen
          go_wp2_with fail
          refine Calls.mono HT.out ?_
          rintro e w3 ⟨rfl, rfl⟩
          go_wp2_with fail
          go_ret2
          exact ⟨_, zs, 0, rfl, HR.out.1, Tells.ok HR.out.2.1 HR.out.2.2.1 HR.out.2.2.2.1 HL.out, HR.out.2.2.2.2.2⟩
    · have hx2 : xs.length = 0 := by omega
      rw [hx2] at HP HB ⊢
      clear hb k1 k2 HV hx0
      go_enter Try.func72, Try.ntmps72
      go_wp2_with fail
      refine Calls.mono HB.out ?_
      rintro e w1 ⟨rfl, rfl⟩
      go_wp2_with fail
      refine Calls.mono HP.out ?_
      intro e w2 h2
      obtain ⟨a2, c2, zs, rfl, o2, wz, tz, vz, hb2⟩ := h2.slice
      have hwd := trimmed_wide wz tz vz
      have HR := hid (And.intro o2 (And.intro wz (And.intro tz (And.intro vz (And.intro hwd hb2)))))
      by_cases hlen : 8192 < zs.length
      · have HT := hid (refTold_long a2 zs.length c2 w2 hlen)
        have HL := hid (hwd.1 hlen)
        clear h2 o2 wz tz vz hwd hb2 hlen
        go_wp2_with fail
        refine Calls.mono HT.out ?_
        rintro e w3 ⟨rfl, rfl⟩
        go_wp2_with fail
        go_ret2
        exact ⟨_, [], 3, rfl, World.ownsRow_nil _ _ _ _, Tells.tooLong HL.out, HR.out.2.2.2.2.2⟩
      · have HT := hid (refTold_ok a2 zs.length c2 w2 (by omega))
        have HL := hid (Int.not_le.1 fun h => hlen (hwd.2 h))
        clear h2 o2 wz tz vz hwd hb2 hlen
        go_wp2_with fail
        refine Calls.mono HT.out ?_
        rintro e w3 ⟨rfl, rfl⟩
        go_wp2_with fail
        go_ret2
        exact ⟨_, zs, 0, rfl, HR.out.1, Tells.ok HR.out.2.1 HR.out.2.2.1 HR.out.2.2.2.1 HL.out, HR.out.2.2.2.2.2⟩
  · have HB := hid (refBoth_sl v u xs ys w h g hn hm)
    have hb' : (both xs ys == 0) = false := by simpa using hb
    have HE := hid hb
    clear h g hb
    go_enter Try.func72, Try.ntmps72
    go_wp2_with fail
    refine Calls.mono HB.out ?_
    rintro e w1 ⟨rfl, rfl⟩
    go_wp2_with fail
    go_ret2
    exact ⟨_, [], _, rfl, World.ownsRow_nil _ _ _ _, Tells.err HE.out, Below.refl _ _⟩

set_option maxHeartbeats 1600000 in
set_option maxRecDepth 100000 in
theorem refDivMod_any (v u : Value) (xs ys : List Int) (w : World) (h : Sl w v xs) (g : Sl w u ys) (lx : xs.length ≤ 8192) (ly : ys.length ≤ 8192) (tx : Trimmed xs) (ty : Trimmed ys) (h0 : 0 < ys.length) :
    Calls Try.prog 62 #[v, u] w fun e w' => ∃ v1 u1 q r, e = .returned (.tuple #[v1, u1, .int .i64 0]) ∧ w'.ownsRow w.heap.size 53 1 v1 q.length (q.map (Value.int .u32)) ∧ w'.ownsRow w.heap.size 53 1 u1 r.length (r.map (Value.int .u32)) ∧ Wd q ∧ Wd r ∧ Trimmed q ∧ Trimmed r ∧ val xs = val q * val ys + val r ∧ val r < val ys ∧ Below w.heap.size w w' := by
  have HB := hid (refBoth_sl v u xs ys w h g (by omega) (by omega))
  have HP := hid (refOver_any v u xs ys w h g (by omega) (by omega) tx ty h0)
  rw [both_good (chk_good lx tx) (chk_good ly ty)] at HB
  obtain ⟨a, cap, rfl, hr⟩ := h
  obtain ⟨b, cap', rfl, gr⟩ := g
  have h1 : ((ys.length : Int) == 0) = false := by simp; exact fun e => by rw [e] at h0; simp at h0
  clear hr gr
  go_enter Try.func62, Try.ntmps62
  go_wp2_with fail
  refine Calls.mono HB.out ?_
  rintro e w1 ⟨rfl, rfl⟩
  go_wp2_with fail
  refine Calls.mono HP.out ?_
  rintro e w2 ⟨v2, zs, v3, rs, rfl, o2, o3, wz, wr', tz, tr, hv, hlt, hb2⟩
  have HR := hid (And.intro o2 (And.intro o3 (And.intro hv (And.intro hlt hb2))))
  clear o2 o3 hv hlt hb2 HP HB
  go_wp2_with fail
  go_ret3
  exact ⟨v2, v3, zs, rs, rfl, HR.out.1, HR.out.2.1, wz, wr', tz, tr, HR.out.2.2.1, HR.out.2.2.2.1, HR.out.2.2.2.2⟩
set_option maxHeartbeats 1600000 in
set_option maxRecDepth 100000 in
theorem refDivMod_err (v u : Value) (xs ys : List Int) (w : World) (h : Sl w v xs) (g : Sl w u ys) (hn : xs.length ≤ 281474976710656) (hm : ys.length ≤ 281474976710656) (hb : both xs ys ≠ 0) :
    Calls Try.prog 62 #[v, u] w fun e w' => e = .returned (.tuple #[.slice none 0 0, .slice none 0 0, .int .i64 (both xs ys)]) ∧ w = w' := by
  have HB := hid (refBoth_sl v u xs ys w h g hn hm)
  have hb' : (both xs ys == 0) = false := by simpa using hb
  have HE := hid hb
  clear h g hb
  go_enter Try.func62, Try.ntmps62
  go_wp2_with fail
  refine Calls.mono HB.out ?_
  rintro e w1 ⟨rfl, rfl⟩
  go_wp2_with fail
  go_ret3
  exact ⟨rfl, rfl⟩
set_option maxHeartbeats 1600000 in
set_option maxRecDepth 100000 in
theorem refDivMod_zero (v u : Value) (xs : List Int) (w : World) (h : Sl w v xs) (g : Sl w u []) (hn : xs.length ≤ 281474976710656) (hb : both xs [] = 0) :
    Calls Try.prog 62 #[v, u] w fun e w' => e = .returned (.tuple #[.slice none 0 0, .slice none 0 0, .int .i64 7]) ∧ w = w' := by
  have HB := hid (refBoth_sl v u xs [] w h g hn (by simp))
  rw [hb] at HB
  obtain ⟨a, cap, rfl, hr⟩ := h
  obtain ⟨b, cap', rfl, gr⟩ := g
  have hl0 : List.length ([] : List Int) = 0 := rfl
  rw [hl0] at HB ⊢
  clear hr gr hl0
  go_enter Try.func62, Try.ntmps62
  go_wp2_with fail
  refine Calls.mono HB.out ?_
  rintro e w1 ⟨rfl, rfl⟩
  go_wp2_with fail
  go_ret3
  exact ⟨rfl, rfl⟩
end Go.Proofs.Ytjfclfoefoiniaa

/- A struct variable that is written: what lies elsewhere stays. -/
namespace Go.Proofs.Ytjfclfoefoiniaa
open Go.RowKit
set_option linter.unusedVariables false

theorem Sl.put2 {U : World} {v : Value} {xs : List Int} {b t : Nat} {n : Bool} {a : Option Addr} {k c : Nat} (h : Sl U v xs) (hb : Box U b t #[.bool n, .slice a k c]) (v0 v1 : Value) : Sl ((U.setCell ⟨b, 0, none⟩ v0).setCell ⟨b, 1, none⟩ v1) v xs := by
  obtain ⟨a', cap, rfl, h1, h2, h3, h4⟩ := h
  refine ⟨a', cap, rfl, h1, h2, ?_, h4⟩
  rcases h3 with h0 | ⟨bb, o, rfl, hlt, hc⟩
  · exact .inl h0
  · by_cases hl : xs.length = 0
    · exact .inl hl
    · right
      have hne : bb ≠ b := fun e => by
        subst e
        have e1 := hc 0 (by omega)
        rw [Nat.add_zero, hb.cell o] at e1
        match o with
        | 0 => simp at e1
        | 1 => simp at e1
        | o + 2 => simp at e1
      refine ⟨bb, o, rfl, by simpa [World.setCell] using hlt, fun j hj => ?_⟩
      have e1 := World.cell?_of_block (w := U) (w' := U.setCell ⟨b, 0, none⟩ v0) (a := ⟨bb, o + j, none⟩) (Below.heap_setCell U ⟨b, 0, none⟩ v0 bb hne)
      have e2 := World.cell?_of_block (w := U.setCell ⟨b, 0, none⟩ v0) (w' := (U.setCell ⟨b, 0, none⟩ v0).setCell ⟨b, 1, none⟩ v1) (a := ⟨bb, o + j, none⟩) (Below.heap_setCell _ ⟨b, 1, none⟩ v1 bb hne)
      rw [e2, e1]
      exact hc j hj
theorem Box.put2 {U : World} {b t : Nat} {u0 u1 : Value} (h : Box U b t #[u0, u1]) (v0 v1 : Value) : Box ((U.setCell ⟨b, 0, none⟩ v0).setCell ⟨b, 1, none⟩ v1) b t #[v0, v1] := (h.set 0 v0).set 1 v1
theorem Box.far2 {U : World} {b t b' : Nat} {vs : Array Value} (h : Box U b t vs) (hne : b ≠ b') (v0 v1 : Value) : Box ((U.setCell ⟨b', 0, none⟩ v0).setCell ⟨b', 1, none⟩ v1) b t vs := (h.other ⟨b', 0, none⟩ v0 hne).other ⟨b', 1, none⟩ v1 hne
theorem own_ne_box {U : World} {base e n b t : Nat} {v : Value} {xs : List Value} {vs : Array Value} (h : U.ownsRow base e 1 v n xs) (hb : Box U b t vs) (hne : e ≠ t) : ∀ g, v.ownBlock = some g → g ≠ b := fun g hg => by
  rcases h.2 with ⟨rfl, _⟩ | ⟨g1, c1, u1, rfl, _, hg1, _⟩
  · simp [Value.ownBlock] at hg
  · simp [Value.ownBlock] at hg
    subst hg
    intro e1
    subst e1
    unfold Box at hb
    rw [hg1] at hb
    simp at hb
    exact hne hb.2
/-- A whole number in memory that may be, in new memory. -/
structure Pb (U : World) (base b : Nat) (n : Bool) (a : Option Addr) (c : Nat) (zs : List Int) : Prop where
  box : Box U b 24 #[.bool n, .slice a zs.length c]
  own : U.ownsRow base 53 1 (.slice a zs.length c) zs.length (zs.map (Value.int .u32))
  wd : Wd zs
  ok : wchk n zs = 0
/-- A whole number in memory that may be. -/
structure Ab (U : World) (b : Nat) (n : Bool) (a : Option Addr) (c : Nat) (xs : List Int) : Prop where
  box : Box U b 24 #[.bool n, .slice a xs.length c]
  sl : Sl U (.slice a xs.length c) xs
  ok : wchk n xs = 0
theorem Pb.later {U V : World} {base b : Nat} {n : Bool} {a : Option Addr} {c : Nat} {zs : List Int} (h : Pb U base b n a c zs) (hb : Below U.heap.size U V) : Pb V base b n a c zs := ⟨h.box.later hb h.box.lt, owns_later h.own hb, h.wd, h.ok⟩
theorem Ab.later {U V : World} {b : Nat} {n : Bool} {a : Option Addr} {c : Nat} {zs : List Int} (h : Ab U b n a c zs) (hb : Below U.heap.size U V) : Ab V b n a c zs := ⟨h.box.later hb h.box.lt, h.sl.later hb, h.ok⟩
theorem Pb.far {U : World} {base b : Nat} {n : Bool} {a : Option Addr} {c : Nat} {zs : List Int} (h : Pb U base b n a c zs) {b' : Nat} {n' : Bool} {a' : Option Addr} {k' c' : Nat} (hb : Box U b' 24 #[.bool n', .slice a' k' c']) (hne : b ≠ b') (v0 v1 : Value) : Pb ((U.setCell ⟨b', 0, none⟩ v0).setCell ⟨b', 1, none⟩ v1) base b n a c zs :=
  ⟨h.box.far2 hne v0 v1, own_put2 h.own b' (own_ne_box h.own hb (by decide)) v0 v1, h.wd, h.ok⟩
theorem Ab.far {U : World} {b : Nat} {n : Bool} {a : Option Addr} {c : Nat} {zs : List Int} (h : Ab U b n a c zs) {b' : Nat} {n' : Bool} {a' : Option Addr} {k' c' : Nat} (hb : Box U b' 24 #[.bool n', .slice a' k' c']) (hne : b ≠ b') (v0 v1 : Value) : Ab ((U.setCell ⟨b', 0, none⟩ v0).setCell ⟨b', 1, none⟩ v1) b n a c zs :=
  ⟨h.box.far2 hne v0 v1, h.sl.put2 hb v0 v1, h.ok⟩
theorem Pb.put {U : World} {base b : Nat} {n' : Bool} {a' : Option Addr} {k' c' : Nat} (hb : Box U b 24 #[.bool n', .slice a' k' c']) {n : Bool} {a : Option Addr} {c : Nat} {zs : List Int} (ho : U.ownsRow base 53 1 (.slice a zs.length c) zs.length (zs.map (Value.int .u32))) (hw : Wd zs) (hk : wchk n zs = 0) :
    Pb ((U.setCell ⟨b, 0, none⟩ (.bool n)).setCell ⟨b, 1, none⟩ (.slice a zs.length c)) base b n a c zs := ⟨hb.put2 _ _, own_put2 ho b (own_ne_box ho hb (by decide)) _ _, hw, hk⟩
theorem Ab.put {U : World} {b : Nat} {n' : Bool} {a' : Option Addr} {k' c' : Nat} (hb : Box U b 24 #[.bool n', .slice a' k' c']) {n : Bool} {a : Option Addr} {c : Nat} {zs : List Int} (hs : Sl U (.slice a zs.length c) zs) (hk : wchk n zs = 0) :
    Ab ((U.setCell ⟨b, 0, none⟩ (.bool n)).setCell ⟨b, 1, none⟩ (.slice a zs.length c)) b n a c zs := ⟨hb.put2 _ _, hs.put2 hb _ _, hk⟩
theorem Pb.c {U : World} {base b : Nat} {n : Bool} {a : Option Addr} {c : Nat} {zs : List Int} (h : Pb U base b n a c zs) : U.cell? ⟨b, 0, none⟩ = some (.bool n) ∧ U.cell? ⟨b, 1, none⟩ = some (.slice a zs.length c) ∧ U.frozen? ⟨b, 0, none⟩ = false ∧ U.frozen? ⟨b, 1, none⟩ = false := ⟨h.box.cell 0, h.box.cell 1, h.box.free 0, h.box.free 1⟩
theorem Ab.c {U : World} {b : Nat} {n : Bool} {a : Option Addr} {c : Nat} {zs : List Int} (h : Ab U b n a c zs) : U.cell? ⟨b, 0, none⟩ = some (.bool n) ∧ U.cell? ⟨b, 1, none⟩ = some (.slice a zs.length c) ∧ U.frozen? ⟨b, 0, none⟩ = false ∧ U.frozen? ⟨b, 1, none⟩ = false := ⟨h.box.cell 0, h.box.cell 1, h.box.free 0, h.box.free 1⟩
theorem Box.c2 {U : World} {b t : Nat} {u0 u1 : Value} (h : Box U b t #[u0, u1]) : U.cell? ⟨b, 0, none⟩ = some u0 ∧ U.cell? ⟨b, 1, none⟩ = some u1 ∧ U.frozen? ⟨b, 0, none⟩ = false ∧ U.frozen? ⟨b, 1, none⟩ = false := ⟨h.cell 0, h.cell 1, h.free 0, h.free 1⟩
theorem wchk_one {n : Bool} {zs : List Int} (l : zs.length ≤ 2048) (t : Trimmed zs) (s : n = false ∨ 0 < zs.length) : wchk n zs = 0 := wchk_good l t s
end Go.Proofs.Ytjfclfoefoiniaa

/- The document's own whole numbers: slackwaterref02.Check, Product. -/
namespace Go.Proofs.Ytjfclfoefoiniaa
open Go.RowKit
set_option linter.unusedVariables false

theorem chk_last {xs : List Int} (hl : xs.length ≤ 2048) : chk xs = 0 ↔ xs.length = 0 ∨ ¬ xs[xs.length - 1]?.getD 0 = 0 := by
  rw [← sz_eq_iff]
  constructor
  · intro h; exact (chk_ok h).2
  · intro h; exact chk_good (by omega) h

/-- A whole number in its one form, of any length, in new memory. -/
def WNum (w : World) (t : Int) (x : Ending) (w' : World) : Prop := ∃ n v zs, x = .returned (.agg #[.bool n, v]) ∧ w'.ownsRow w.heap.size 53 1 v zs.length (zs.map (Value.int .u32)) ∧ Wd zs ∧ Trimmed zs ∧ (n = false ∨ 0 < zs.length) ∧ wval n zs = t ∧ Below w.heap.size w w'
end Go.Proofs.Ytjfclfoefoiniaa

/- The document's own fractions: over, trimmed, whole, one, size. -/
namespace Go.Proofs.Ytjfclfoefoiniaa
open Go.RowKit
set_option linter.unusedVariables false

set_option maxHeartbeats 800000 in
set_option maxRecDepth 100000 in
theorem over3_any (v u : Value) (xs ys : List Int) (w : World) (h : Sl w v xs) (g : Sl w u ys) (lx : xs.length ≤ 8192) (ly : ys.length ≤ 8192) (tx : Trimmed xs) (ty : Trimmed ys) (h0 : 0 < ys.length) :
    Calls Try.prog 44 #[v, u] w (Told1 w (val xs / val ys)) := by
  have HH := hid (refDivMod_any v u xs ys w h g lx ly tx ty h0)
  obtain ⟨a, cap, rfl, hr⟩ := h
  obtain ⟨b, cap', rfl, gr⟩ := g
  clear hr gr
  go_enter Try.func44, Try.ntmps44
  go_wp2_with fail
  refine Calls.mono HH.out ?_
  rintro e w1 ⟨v1, v2, q, r, rfl, o1, o2, wq, wr, tq, tr, hq, hr, hb1⟩
  have hv : val q = val xs / val ys := by
    have r0 := val_nonneg wr
    rw [hq, Int.add_comm, Int.add_mul_ediv_right _ _ (by omega), Int.ediv_eq_zero_of_lt r0 hr]
    omega
  obtain ⟨a1, c1, hs1⟩ := own_slice' o1
  subst hs1
  obtain ⟨a2, c2, hs2⟩ := own_slice' o2
  subst hs2
  have HE := hid (And.intro o1 (And.intro wq (And.intro tq (And.intro hv hb1))))
  clear o1 o2 wq wr tq tr hq hr hb1 hv HH
  go_wp2_with fail
  go_ret
  exact ⟨_, q, rfl, HE.out.1, HE.out.2.1, HE.out.2.2.1, HE.out.2.2.2.1, HE.out.2.2.2.2⟩

set_option maxHeartbeats 1600000 in
set_option maxRecDepth 100000 in
theorem trimmed3_any (v : Value) (xs : List Int) (w : World) (h : Sl w v xs) (hn : xs.length ≤ 281474976710656) :
    Calls Try.prog 42 #[v] w fun e w' => e = .returned (.bool (decide (sz xs = xs.length))) ∧ Below w.heap.size w w' := by
  have wx := h.wd
  obtain ⟨a, cap, rfl, hr⟩ := h
  have HCL := hid hr.cells
  have hcap := hr.2.2.2.1
  have hcap2 := hr.2.2.2.2.1
  have HB := hid (Below.refl w.heap.size w)
  clear hr
  have hcl : Trimmed xs ↔ xs.length = 0 ∨ ¬ xs[xs.length - 1]?.getD 0 = 0 := by rw [← sz_eq_iff]; exact Iff.rfl
  obtain ⟨k, hk⟩ : ∃ k, xs.length = k := ⟨_, rfl⟩
  rw [hk] at hcl
  by_cases h0 : k = 0
  · subst h0
    have HW : Hid (decide (sz xs = xs.length) = true) := by show _ = _; exact decide_eq_true (hcl.2 (.inl rfl))
    rw [HW.out, hk]
    clear hk hcl HCL wx
    go_enter Try.func42, Try.ntmps42
    go_wp2_with fail
    go_ret
    exact ⟨rfl, HB.out⟩
  · obtain ⟨m, hm⟩ : ∃ m, k = m + 1 := ⟨k - 1, by omega⟩
    subst hm
    have bx := wx.at m
    rw [show m + 1 - 1 = m by omega] at hcl
    have hkz : ((m : Int) + 1 == 0) = false := beq_eq_false_iff_ne.2 (by omega)
    have hm1 : (m : Int) ≤ 281474976710656 := by omega
    rw [hk] at HCL hcap ⊢
    obtain ⟨b1, o1, rfl, l1, cx⟩ := HCL.out m (by omega)
    have him : ((m + 1 : Nat) : Int) - 1 = (m : Int) := by omega
    by_cases hz : xs[m]?.getD 0 = 0
    · have HW : Hid (decide (sz xs = xs.length) = false) := by show _ = _; exact decide_eq_false (fun h => (hcl.1 h).elim (fun e => by omega) (fun e => e hz))
      rw [hk] at HW
      rw [HW.out]
      rw [hz] at cx
      clear hk hcl HCL hz bx wx
      go_enter Try.func42, Try.ntmps42
      go_wp2_with fail
      go_ret
      exact ⟨rfl, HB.out⟩
    · have HW : Hid (decide (sz xs = xs.length) = true) := by show _ = _; exact decide_eq_true (hcl.2 (.inr hz))
      rw [hk] at HW
      rw [HW.out]
      obtain ⟨X, hX⟩ : ∃ X, xs[m]?.getD 0 = X := ⟨_, rfl⟩
      rw [hX] at cx hz bx
      have hzb : (X != 0) = true := by simp [hz]
      clear hk hcl HCL hX wx
      go_enter Try.func42, Try.ntmps42
      go_wp2_with fail
      go_ret
      exact ⟨rfl, HB.out⟩

theorem one3_any (w : World) : Calls Try.prog 34 #[] w fun e w' => ∃ g, e = .returned (.slice (some ⟨g, 0, none⟩) 1 1) ∧ w'.ownsRow w.heap.size 53 1 (.slice (some ⟨g, 0, none⟩) 1 1) 1 ([(1 : Int)].map (Value.int .u32)) ∧ Below w.heap.size w w' := by
  have HO : Hid ((w.alloc (.cells #[.int .u32 1] 53)).ownsRow w.heap.size 53 1 (.slice (some ⟨w.heap.size, 0, none⟩) 1 1) 1 ([(1 : Int)].map (Value.int .u32))) := ⟨rfl, .inr ⟨w.heap.size, 1, #[.int .u32 1], rfl, Nat.le_refl _, Box.made w _ _, Nat.le_refl _, by unfold maxLen; simp, rfl, rfl⟩⟩
  have HB := hid (alloc_later w (.cells #[.int .u32 1] 53))
  go_enter Try.func34, Try.ntmps34
  go_wp2_with fail
  go_ret
  exact ⟨w.heap.size, rfl, HO.out, HB.out⟩
end Go.Proofs.Ytjfclfoefoiniaa

/- The document's own fractions: whole: is it a whole number in its one form? -/
namespace Go.Proofs.Ytjfclfoefoiniaa
open Go.RowKit
set_option linter.unusedVariables false

set_option maxHeartbeats 1600000 in
set_option maxRecDepth 100000 in
theorem whole3_any (n : Bool) (v : Value) (xs : List Int) (w : World) (h : Sl w v xs) (hn : xs.length ≤ 281474976710656) :
    Calls Try.prog 22 #[.agg #[.bool n, v]] w fun e w' => e = .returned (.int .i64 (wchk n xs)) ∧ Below w.heap.size w w' := by
  have HB := hid (alloc_later w (.cells #[.bool n, v] 24))
  have HT := hid (fun ww (hb : Below _ (w.alloc (.cells #[.bool n, v] 24)) ww) => trimmed3_any v xs ww ((h.later HB.out).later hb) hn)
  obtain ⟨a, cap, rfl, hr⟩ := h
  clear hr
  obtain ⟨k, hk⟩ : ∃ k, xs.length = k := ⟨_, rfl⟩
  have HX := hid (Box.made w 24 #[.bool n, .slice a xs.length cap])
  have HR := hid (Below.refl (w.alloc (.cells #[.bool n, .slice a xs.length cap] 24)).heap.size (w.alloc (.cells #[.bool n, .slice a xs.length cap] 24)))
  rw [hk] at HB HT HX HR ⊢
  by_cases h1 : 2048 < k
  · have HW : Hid (wchk n xs = 3) := by show _ = _; unfold wchk; rw [if_pos (by omega)]
    rw [HW.out]
    have h1' : (2048 : Int) < (k : Int) := by omega
    clear hk HT
    go_enter Try.func22, Try.ntmps22
    go_wp2_with fail
    go_ret
    exact ⟨rfl, HB.out⟩
  · have h1' : ¬ (2048 : Int) < (k : Int) := by omega
    have hck : chk xs = 0 ↔ sz xs = k := by
      rw [← hk]
      exact ⟨fun h => (chk_ok h).2, fun h => chk_good (by omega) h⟩
    obtain ⟨T, hT⟩ : ∃ T, decide (sz xs = k) = T := ⟨_, rfl⟩
    rw [hT] at HT
    cases T with
    | false =>
      have HW : Hid (wchk n xs = 11) := by
        show _ = _
        unfold wchk
        rw [if_neg (by omega), if_neg (fun h => (of_decide_eq_false hT) (hck.1 h.1))]
      rw [HW.out]
      clear hk hck hT
      go_enter Try.func22, Try.ntmps22
      go_wp2_with fail
      refine Calls.mono (HT.out _ HR.out) ?_
      rintro e w1 ⟨rfl, hb1⟩
      have HBN := hid (bt HB.out hb1)
      clear hb1
      go_wp2_with fail
      go_ret
      exact ⟨rfl, HBN.out⟩
    | true =>
      have ht : chk xs = 0 := hck.2 (of_decide_eq_true hT)
      by_cases h0 : k = 0
      · subst h0
        cases n with
        | false =>
          have HW : Hid (wchk false xs = 0) := by show _ = _; unfold wchk; rw [if_neg (by omega), if_pos ⟨ht, .inl rfl⟩]
          rw [HW.out]
          clear hk hck hT ht
          go_enter Try.func22, Try.ntmps22
          go_wp2_with fail
          refine Calls.mono (HT.out _ HR.out) ?_
          rintro e w1 ⟨rfl, hb1⟩
          obtain ⟨p0, p1, _, _⟩ := (HX.out.later hb1 HX.out.lt).c2
          have HBN := hid (bt HB.out hb1)
          clear hb1
          go_wp2_with fail
          go_ret
          exact ⟨rfl, HBN.out⟩
        | true =>
          have HW : Hid (wchk true xs = 11) := by show _ = _; unfold wchk; rw [if_neg (by omega), if_neg (fun h => h.2.elim (fun e => by cases e) (fun e => by omega))]
          rw [HW.out]
          clear hk hck hT ht
          go_enter Try.func22, Try.ntmps22
          go_wp2_with fail
          refine Calls.mono (HT.out _ HR.out) ?_
          rintro e w1 ⟨rfl, hb1⟩
          obtain ⟨p0, p1, _, _⟩ := (HX.out.later hb1 HX.out.lt).c2
          have HBN := hid (bt HB.out hb1)
          clear hb1
          go_wp2_with fail
          go_ret
          exact ⟨rfl, HBN.out⟩
      · have HW : Hid (wchk n xs = 0) := by
          show _ = _
          unfold wchk
          rw [if_neg (by omega), if_pos ⟨ht, .inr (by omega)⟩]
        rw [HW.out]
        have hkz : ((k : Int) == 0) = false := beq_eq_false_iff_ne.2 (by omega)
        clear hk hck hT ht
        go_enter Try.func22, Try.ntmps22
        go_wp2_with fail
        refine Calls.mono (HT.out _ HR.out) ?_
        rintro e w1 ⟨rfl, hb1⟩
        obtain ⟨p0, p1, _, _⟩ := (HX.out.later hb1 HX.out.lt).c2
        have HBN := hid (bt HB.out hb1)
        clear hb1
        go_wp2_with fail
        go_ret
        exact ⟨rfl, HBN.out⟩
end Go.Proofs.Ytjfclfoefoiniaa

/- Fractions: ratio.signedSum: numbers with signs added. -/
namespace Go.Proofs.Ytjfclfoefoiniaa
open Go.RowKit
set_option linter.unusedVariables false

/-- A number with a sign (0 may have one), in new memory. -/
def WVal (w : World) (t : Int) (x : Ending) (w' : World) : Prop := ∃ n v zs, x = .returned (.agg #[.bool n, v]) ∧ w'.ownsRow w.heap.size 53 1 v zs.length (zs.map (Value.int .u32)) ∧ Wd zs ∧ Trimmed zs ∧ wval n zs = t ∧ Below w.heap.size w w'
/-- A number told in new memory. -/
def One (U w' : World) (v : Value) (zs : List Int) (t : Int) : Prop := w'.ownsRow U.heap.size 53 1 v zs.length (zs.map (Value.int .u32)) ∧ Wd zs ∧ Trimmed zs ∧ val zs = t
theorem One.later {U V W : World} {v : Value} {zs : List Int} {t : Int} (h : One U V v zs t) (hb : Below V.heap.size V W) : One U W v zs t := ⟨owns_later h.1 hb, h.2⟩
theorem One.base {U U' V : World} {v : Value} {zs : List Int} {t : Int} (h : One U V v zs t) (hb : U'.heap.size ≤ U.heap.size) : One U' V v zs t := ⟨owns_base h.1 hb, h.2⟩
theorem One.sl {U V : World} {v : Value} {zs : List Int} {t : Int} (h : One U V v zs t) : Sl V v zs := Sl.own h.1 h.2.1
/-- A callee's contract, at each world that may come up in a region: with what stays beside it. -/
theorem told1_at {U : World} {f : Nat} {args : Array Value} {t : Int} (S : World → Prop) (hS : ∀ w', Below U.heap.size U w' → S w') (ww : World) (hb : Below U.heap.size U ww) (C : Calls Try.prog f args ww (Told1 ww t)) :
    Calls Try.prog f args ww fun e w' => ∃ a2 zs c2, e = .returned (.slice a2 zs.length c2) ∧ Hid (One U w' (.slice a2 zs.length c2) zs t) ∧ S w' ∧ Below U.heap.size U w' ∧ Hid (Below ww.heap.size ww w') :=
  Calls.mono C fun e w' h => by
    obtain ⟨v, zs, rfl, o, h1, h2, h3, hb2⟩ := h
    obtain ⟨a2, c2, hs2⟩ := own_slice' o
    subst hs2
    exact ⟨a2, zs, c2, rfl, ⟨owns_base o hb.size, h1, h2, h3⟩, hS w' (bt hb hb2), bt hb hb2, hb2⟩

set_option maxHeartbeats 6400000 in
set_option maxRecDepth 100000 in
theorem rsigned_any (n : Bool) (v : Value) (xs : List Int) (m0 : Bool) (u : Value) (ys : List Int) (w : World) (h : Sl w v xs) (g : Sl w u ys) (lx : xs.length ≤ 8191) (ly : ys.length ≤ 8191) (tx : Trimmed xs) (ty : Trimmed ys) :
    Calls Try.prog 50 #[.agg #[.bool n, v], .agg #[.bool m0, u]] w (WVal w (wval n xs + wval m0 ys)) := by
  obtain ⟨a, cap, rfl, hr⟩ := h
  obtain ⟨b, cap', rfl, gr⟩ := g
  have h : Sl w (.slice a xs.length cap) xs := ⟨a, cap, rfl, hr⟩
  have g : Sl w (.slice b ys.length cap') ys := ⟨b, cap', rfl, gr⟩
  clear hr gr
  have HB : Hid (Below w.heap.size w (((w.alloc (.cells #[.bool n, .slice a xs.length cap] 24)).alloc (.cells #[.bool m0, .slice b ys.length cap'] 24)).alloc (.cells #[.bool false, .slice none 0 0] 24))) := bt (bt (alloc_later _ _) (alloc_later _ _)) (alloc_later _ _)
  have HXB : Hid (Box (((w.alloc (.cells #[.bool n, .slice a xs.length cap] 24)).alloc (.cells #[.bool m0, .slice b ys.length cap'] 24)).alloc (.cells #[.bool false, .slice none 0 0] 24)) (w.heap.size + 1 + 1) 24 #[.bool false, .slice none 0 0]) := by
    have e := Box.made ((w.alloc (.cells #[.bool n, .slice a xs.length cap] 24)).alloc (.cells #[.bool m0, .slice b ys.length cap'] 24)) 24 #[.bool false, .slice none 0 0]
    simp at e
    exact e
  have HXR : Hid (w.heap.size ≤ w.heap.size + 1 + 1 ∧ w.heap.size + 1 + 1 < (((w.alloc (.cells #[.bool n, .slice a xs.length cap] 24)).alloc (.cells #[.bool m0, .slice b ys.length cap'] 24)).alloc (.cells #[.bool false, .slice none 0 0] 24)).heap.size) := ⟨by omega, HXB.out.lt⟩
  have HN : Hid (Box (((w.alloc (.cells #[.bool n, .slice a xs.length cap] 24)).alloc (.cells #[.bool m0, .slice b ys.length cap'] 24)).alloc (.cells #[.bool false, .slice none 0 0] 24)) w.heap.size 24 #[.bool n, .slice a xs.length cap]) := Box.later (Box.made w _ _) (bt (alloc_later _ _) (alloc_later _ _)) (by simp)
  have HM : Hid (Box (((w.alloc (.cells #[.bool n, .slice a xs.length cap] 24)).alloc (.cells #[.bool m0, .slice b ys.length cap'] 24)).alloc (.cells #[.bool false, .slice none 0 0] 24)) (w.heap.size + 1) 24 #[.bool m0, .slice b ys.length cap']) := by
    have e := Box.later (Box.made (w.alloc (.cells #[.bool n, .slice a xs.length cap] 24)) 24 #[.bool m0, .slice b ys.length cap']) (alloc_later ((w.alloc (.cells #[.bool n, .slice a xs.length cap] 24)).alloc (.cells #[.bool m0, .slice b ys.length cap'] 24)) (.cells #[.bool false, .slice none 0 0] 24)) (by simp)
    simp at e
    exact e
  have HSL := hid (And.intro (h.later HB.out) (g.later HB.out))
  have HCM := hid (compare_sl _ _ xs ys _ HSL.out.1 HSL.out.2 (by omega) (by omega))
  clear h g
  cases n with
  | false =>
    cases m0 with
    | false =>
      clear HCM
      have HBU := hid HB.out
      have HUS : Hid (w.heap.size + 1 + 1 < (((w.alloc (.cells #[.bool false, .slice a xs.length cap] 24)).alloc (.cells #[.bool false, .slice b ys.length cap'] 24)).alloc (.cells #[.bool false, .slice none 0 0] 24)).heap.size) := HXR.out.2
      go_enter Try.func50, Try.ntmps50
      have HK : Hid (∀ w', Below (((w.alloc (.cells #[.bool false, .slice a xs.length cap] 24)).alloc (.cells #[.bool false, .slice b ys.length cap'] 24)).alloc (.cells #[.bool false, .slice none 0 0] 24)).heap.size (((w.alloc (.cells #[.bool false, .slice a xs.length cap] 24)).alloc (.cells #[.bool false, .slice b ys.length cap'] 24)).alloc (.cells #[.bool false, .slice none 0 0] 24)) w' → (fun w' : World => ((fun w' : World => w'.cell? ⟨w.heap.size, 0, none⟩ = some (.bool false) ∧ w'.cell? ⟨w.heap.size, 1, none⟩ = some (.slice a xs.length cap) ∧ w'.cell? ⟨w.heap.size + 1, 0, none⟩ = some (.bool false) ∧ w'.cell? ⟨w.heap.size + 1, 1, none⟩ = some (.slice b ys.length cap'))) w' ∧ w'.cell? ⟨w.heap.size + 1 + 1, 0, none⟩ = some (.bool false) ∧ w'.cell? ⟨w.heap.size + 1 + 1, 1, none⟩ = some (.slice none 0 0) ∧ w'.frozen? ⟨w.heap.size + 1 + 1, 0, none⟩ = false ∧ w'.frozen? ⟨w.heap.size + 1 + 1, 1, none⟩ = false) w') := fun w' hb => by
        have hx : Below (((w.alloc (.cells #[.bool false, .slice a xs.length cap] 24)).alloc (.cells #[.bool false, .slice b ys.length cap'] 24)).alloc (.cells #[.bool false, .slice none 0 0] 24)).heap.size _ w' := hb
        obtain ⟨r0, r1, f0, f1⟩ := res_box HXB.out hx
        obtain ⟨p0, p1, _, _⟩ := res_box HN.out hx
        obtain ⟨q0, q1, _, _⟩ := res_box HM.out hx
        exact ⟨⟨p0, p1, q0, q1⟩, r0, r1, f0, f1⟩
      have HF := hid (fun ww (hb : Below (((w.alloc (.cells #[.bool false, .slice a xs.length cap] 24)).alloc (.cells #[.bool false, .slice b ys.length cap'] 24)).alloc (.cells #[.bool false, .slice none 0 0] 24)).heap.size (((w.alloc (.cells #[.bool false, .slice a xs.length cap] 24)).alloc (.cells #[.bool false, .slice b ys.length cap'] 24)).alloc (.cells #[.bool false, .slice none 0 0] 24)) ww) => told1_at _ HK.out ww hb (rsum_any _ _ xs ys ww (HSL.out.1.later hb) (HSL.out.2.later hb) lx ly tx ty))
      have hs0 := (HK.out _ (Below.drew (Below.refl _ (((w.alloc (.cells #[.bool false, .slice a xs.length cap] 24)).alloc (.cells #[.bool false, .slice b ys.length cap'] 24)).alloc (.cells #[.bool false, .slice none 0 0] 24))))).1
      have hq0 : w.heap.size + 1 + 1 ≠ w.heap.size := by omega
      go_wp2_with fail
      go_region_held3 (fun w' : World => w'.cell? ⟨w.heap.size, 0, none⟩ = some (.bool false) ∧ w'.cell? ⟨w.heap.size, 1, none⟩ = some (.slice a xs.length cap) ∧ w'.cell? ⟨w.heap.size + 1, 0, none⟩ = some (.bool false) ∧ w'.cell? ⟨w.heap.size + 1, 1, none⟩ = some (.slice b ys.length cap')) (first | exact hs1 | exact hs0 | (simp [hs1, World.cell?_setCell_far, hq0]))
        (first | (go_at_call 65; refine Calls.mono (HF.out _ (Below.drew (Below.refl _ _))) ?_; rintro e w2 ⟨a2, zs, c2, rfl, HE, ⟨hs1, r0, r1, f0, f1⟩, hb2, _⟩))
      all_goals
        go_wp2_with fail
        refine bodyPost_ret (v := .agg #[.bool false, .slice a2 zs.length c2]) (by simp [results, Try.results50, go_sem, r0, r1]) rfl ?_
        refine ⟨false, _, zs, rfl, owns_base (own_put2 HE.out.1 _ (fun g hg => ?_) _ _) (by have := HXR.out; have := HBU.out.size; omega), HE.out.2.1, HE.out.2.2.1, ?_, below_put2 (bt HBU.out hb2) _ (by have := HXR.out; omega) _ _⟩
        · have h1 := (World.ownsRow.lt HE.out.1 g hg).1
          have h2 := HXR.out
          have h3 := HUS.out
          omega
        · have e := HE.out.2.2.2
          show _ = _
          simp [wval] at e ⊢
          omega
    | true =>
      by_cases hlt : val xs < val ys
      · rw [cmpI_lt hlt] at HCM
        go_enter Try.func50, Try.ntmps50
        go_wp2_with fail
        refine Calls.mono HCM.out ?_
        rintro e w1 ⟨rfl, hb1⟩
        obtain ⟨p0, p1, _, _⟩ := res_box HN.out hb1
        obtain ⟨q0, q1, _, _⟩ := res_box HM.out hb1
        have HB1 := hid hb1
        have HBU := hid (bt HB.out hb1)
        have HUS : Hid (w.heap.size + 1 + 1 < w1.heap.size) := by
          show _ < _
          have h1 := HXR.out.2
          have h2 := HB1.out.size
          omega
        clear hb1 HCM
        have HK : Hid (∀ w', Below w1.heap.size w1 w' → (fun w' : World => ((fun w' : World => w'.cell? ⟨w.heap.size, 0, none⟩ = some (.bool false) ∧ w'.cell? ⟨w.heap.size, 1, none⟩ = some (.slice a xs.length cap) ∧ w'.cell? ⟨w.heap.size + 1, 0, none⟩ = some (.bool true) ∧ w'.cell? ⟨w.heap.size + 1, 1, none⟩ = some (.slice b ys.length cap'))) w' ∧ w'.cell? ⟨w.heap.size + 1 + 1, 0, none⟩ = some (.bool false) ∧ w'.cell? ⟨w.heap.size + 1 + 1, 1, none⟩ = some (.slice none 0 0) ∧ w'.frozen? ⟨w.heap.size + 1 + 1, 0, none⟩ = false ∧ w'.frozen? ⟨w.heap.size + 1 + 1, 1, none⟩ = false) w') := fun w' hb => by
          have hx : Below (((w.alloc (.cells #[.bool false, .slice a xs.length cap] 24)).alloc (.cells #[.bool true, .slice b ys.length cap'] 24)).alloc (.cells #[.bool false, .slice none 0 0] 24)).heap.size _ w' := bt HB1.out hb
          obtain ⟨r0, r1, f0, f1⟩ := res_box HXB.out hx
          obtain ⟨p0, p1, _, _⟩ := res_box HN.out hx
          obtain ⟨q0, q1, _, _⟩ := res_box HM.out hx
          exact ⟨⟨p0, p1, q0, q1⟩, r0, r1, f0, f1⟩
        have HF := hid (fun ww (hb : Below w1.heap.size w1 ww) => told1_at _ HK.out ww hb (rdiff_any _ _ ys xs ww ((HSL.out.2.later HB1.out).later hb) ((HSL.out.1.later HB1.out).later hb) (by omega) (by omega) ty tx (by omega)))
        have hs0 := (HK.out _ (Below.drew (Below.refl _ w1))).1
        have hq0 : w.heap.size + 1 + 1 ≠ w.heap.size := by omega
        go_wp2_with fail
        go_region_held3 (fun w' : World => w'.cell? ⟨w.heap.size, 0, none⟩ = some (.bool false) ∧ w'.cell? ⟨w.heap.size, 1, none⟩ = some (.slice a xs.length cap) ∧ w'.cell? ⟨w.heap.size + 1, 0, none⟩ = some (.bool true) ∧ w'.cell? ⟨w.heap.size + 1, 1, none⟩ = some (.slice b ys.length cap')) (first | exact hs1 | exact hs0 | (simp [hs1, World.cell?_setCell_far, hq0]))
          (first | (go_at_call 67; refine Calls.mono (HF.out _ (Below.drew (Below.refl _ _))) ?_; rintro e w2 ⟨a2, zs, c2, rfl, HE, ⟨hs1, r0, r1, f0, f1⟩, hb2, _⟩))
        all_goals
          go_wp2_with fail
          refine bodyPost_ret (v := .agg #[.bool true, .slice a2 zs.length c2]) (by simp [results, Try.results50, go_sem, r0, r1]) rfl ?_
          refine ⟨true, _, zs, rfl, owns_base (own_put2 HE.out.1 _ (fun g hg => ?_) _ _) (by have := HXR.out; have := HBU.out.size; omega), HE.out.2.1, HE.out.2.2.1, ?_, below_put2 (bt HBU.out hb2) _ (by have := HXR.out; omega) _ _⟩
          · have h1 := (World.ownsRow.lt HE.out.1 g hg).1
            have h2 := HXR.out
            have h3 := HUS.out
            omega
          · have e := HE.out.2.2.2
            show _ = _
            simp [wval] at e ⊢
            omega
      · have hc0 : (0 : Int) ≤ cmpI (val xs) (val ys) := by
          by_cases c : val ys < val xs
          · rw [cmpI_gt c]; omega
          · rw [cmpI_eq (by omega)]; omega
        obtain ⟨cv, hcv⟩ : ∃ cv, cmpI (val xs) (val ys) = cv := ⟨_, rfl⟩
        rw [hcv] at HCM hc0
        have hc1 : ¬ cv < 0 := by omega
        clear hcv hc0
        go_enter Try.func50, Try.ntmps50
        go_wp2_with fail
        refine Calls.mono HCM.out ?_
        rintro e w1 ⟨rfl, hb1⟩
        obtain ⟨p0, p1, _, _⟩ := res_box HN.out hb1
        obtain ⟨q0, q1, _, _⟩ := res_box HM.out hb1
        have HB1 := hid hb1
        have HBU := hid (bt HB.out hb1)
        have HUS : Hid (w.heap.size + 1 + 1 < w1.heap.size) := by
          show _ < _
          have h1 := HXR.out.2
          have h2 := HB1.out.size
          omega
        clear hb1 HCM
        have HK : Hid (∀ w', Below w1.heap.size w1 w' → (fun w' : World => ((fun w' : World => w'.cell? ⟨w.heap.size, 0, none⟩ = some (.bool false) ∧ w'.cell? ⟨w.heap.size, 1, none⟩ = some (.slice a xs.length cap) ∧ w'.cell? ⟨w.heap.size + 1, 0, none⟩ = some (.bool true) ∧ w'.cell? ⟨w.heap.size + 1, 1, none⟩ = some (.slice b ys.length cap'))) w' ∧ w'.cell? ⟨w.heap.size + 1 + 1, 0, none⟩ = some (.bool false) ∧ w'.cell? ⟨w.heap.size + 1 + 1, 1, none⟩ = some (.slice none 0 0) ∧ w'.frozen? ⟨w.heap.size + 1 + 1, 0, none⟩ = false ∧ w'.frozen? ⟨w.heap.size + 1 + 1, 1, none⟩ = false) w') := fun w' hb => by
          have hx : Below (((w.alloc (.cells #[.bool false, .slice a xs.length cap] 24)).alloc (.cells #[.bool true, .slice b ys.length cap'] 24)).alloc (.cells #[.bool false, .slice none 0 0] 24)).heap.size _ w' := bt HB1.out hb
          obtain ⟨r0, r1, f0, f1⟩ := res_box HXB.out hx
          obtain ⟨p0, p1, _, _⟩ := res_box HN.out hx
          obtain ⟨q0, q1, _, _⟩ := res_box HM.out hx
          exact ⟨⟨p0, p1, q0, q1⟩, r0, r1, f0, f1⟩
        have HF := hid (fun ww (hb : Below w1.heap.size w1 ww) => told1_at _ HK.out ww hb (rdiff_any _ _ xs ys ww ((HSL.out.1.later HB1.out).later hb) ((HSL.out.2.later HB1.out).later hb) (by omega) (by omega) tx ty (by omega)))
        have hs0 := (HK.out _ (Below.drew (Below.refl _ w1))).1
        have hq0 : w.heap.size + 1 + 1 ≠ w.heap.size := by omega
        go_wp2_with fail
        go_region_held3 (fun w' : World => w'.cell? ⟨w.heap.size, 0, none⟩ = some (.bool false) ∧ w'.cell? ⟨w.heap.size, 1, none⟩ = some (.slice a xs.length cap) ∧ w'.cell? ⟨w.heap.size + 1, 0, none⟩ = some (.bool true) ∧ w'.cell? ⟨w.heap.size + 1, 1, none⟩ = some (.slice b ys.length cap')) (first | exact hs1 | exact hs0 | (simp [hs1, World.cell?_setCell_far, hq0]))
          (first | (go_at_call 67; refine Calls.mono (HF.out _ (Below.drew (Below.refl _ _))) ?_; rintro e w2 ⟨a2, zs, c2, rfl, HE, ⟨hs1, r0, r1, f0, f1⟩, hb2, _⟩))
        all_goals
          go_wp2_with fail
          refine bodyPost_ret (v := .agg #[.bool false, .slice a2 zs.length c2]) (by simp [results, Try.results50, go_sem, r0, r1]) rfl ?_
          refine ⟨false, _, zs, rfl, owns_base (own_put2 HE.out.1 _ (fun g hg => ?_) _ _) (by have := HXR.out; have := HBU.out.size; omega), HE.out.2.1, HE.out.2.2.1, ?_, below_put2 (bt HBU.out hb2) _ (by have := HXR.out; omega) _ _⟩
          · have h1 := (World.ownsRow.lt HE.out.1 g hg).1
            have h2 := HXR.out
            have h3 := HUS.out
            omega
          · have e := HE.out.2.2.2
            show _ = _
            simp [wval] at e ⊢
            omega
  | true =>
    cases m0 with
    | false =>
      by_cases hlt : val xs < val ys
      · rw [cmpI_lt hlt] at HCM
        go_enter Try.func50, Try.ntmps50
        go_wp2_with fail
        refine Calls.mono HCM.out ?_
        rintro e w1 ⟨rfl, hb1⟩
        obtain ⟨p0, p1, _, _⟩ := res_box HN.out hb1
        obtain ⟨q0, q1, _, _⟩ := res_box HM.out hb1
        have HB1 := hid hb1
        have HBU := hid (bt HB.out hb1)
        have HUS : Hid (w.heap.size + 1 + 1 < w1.heap.size) := by
          show _ < _
          have h1 := HXR.out.2
          have h2 := HB1.out.size
          omega
        clear hb1 HCM
        have HK : Hid (∀ w', Below w1.heap.size w1 w' → (fun w' : World => ((fun w' : World => w'.cell? ⟨w.heap.size, 0, none⟩ = some (.bool true) ∧ w'.cell? ⟨w.heap.size, 1, none⟩ = some (.slice a xs.length cap) ∧ w'.cell? ⟨w.heap.size + 1, 0, none⟩ = some (.bool false) ∧ w'.cell? ⟨w.heap.size + 1, 1, none⟩ = some (.slice b ys.length cap'))) w' ∧ w'.cell? ⟨w.heap.size + 1 + 1, 0, none⟩ = some (.bool false) ∧ w'.cell? ⟨w.heap.size + 1 + 1, 1, none⟩ = some (.slice none 0 0) ∧ w'.frozen? ⟨w.heap.size + 1 + 1, 0, none⟩ = false ∧ w'.frozen? ⟨w.heap.size + 1 + 1, 1, none⟩ = false) w') := fun w' hb => by
          have hx : Below (((w.alloc (.cells #[.bool true, .slice a xs.length cap] 24)).alloc (.cells #[.bool false, .slice b ys.length cap'] 24)).alloc (.cells #[.bool false, .slice none 0 0] 24)).heap.size _ w' := bt HB1.out hb
          obtain ⟨r0, r1, f0, f1⟩ := res_box HXB.out hx
          obtain ⟨p0, p1, _, _⟩ := res_box HN.out hx
          obtain ⟨q0, q1, _, _⟩ := res_box HM.out hx
          exact ⟨⟨p0, p1, q0, q1⟩, r0, r1, f0, f1⟩
        have HF := hid (fun ww (hb : Below w1.heap.size w1 ww) => told1_at _ HK.out ww hb (rdiff_any _ _ ys xs ww ((HSL.out.2.later HB1.out).later hb) ((HSL.out.1.later HB1.out).later hb) (by omega) (by omega) ty tx (by omega)))
        have hs0 := (HK.out _ (Below.drew (Below.refl _ w1))).1
        have hq0 : w.heap.size + 1 + 1 ≠ w.heap.size := by omega
        go_wp2_with fail
        go_region_held3 (fun w' : World => w'.cell? ⟨w.heap.size, 0, none⟩ = some (.bool true) ∧ w'.cell? ⟨w.heap.size, 1, none⟩ = some (.slice a xs.length cap) ∧ w'.cell? ⟨w.heap.size + 1, 0, none⟩ = some (.bool false) ∧ w'.cell? ⟨w.heap.size + 1, 1, none⟩ = some (.slice b ys.length cap')) (first | exact hs1 | exact hs0 | (simp [hs1, World.cell?_setCell_far, hq0]))
          (first | (go_at_call 67; refine Calls.mono (HF.out _ (Below.drew (Below.refl _ _))) ?_; rintro e w2 ⟨a2, zs, c2, rfl, HE, ⟨hs1, r0, r1, f0, f1⟩, hb2, _⟩))
        all_goals
          go_wp2_with fail
          refine bodyPost_ret (v := .agg #[.bool false, .slice a2 zs.length c2]) (by simp [results, Try.results50, go_sem, r0, r1]) rfl ?_
          refine ⟨false, _, zs, rfl, owns_base (own_put2 HE.out.1 _ (fun g hg => ?_) _ _) (by have := HXR.out; have := HBU.out.size; omega), HE.out.2.1, HE.out.2.2.1, ?_, below_put2 (bt HBU.out hb2) _ (by have := HXR.out; omega) _ _⟩
          · have h1 := (World.ownsRow.lt HE.out.1 g hg).1
            have h2 := HXR.out
            have h3 := HUS.out
            omega
          · have e := HE.out.2.2.2
            show _ = _
            simp [wval] at e ⊢
            omega
      · have hc0 : (0 : Int) ≤ cmpI (val xs) (val ys) := by
          by_cases c : val ys < val xs
          · rw [cmpI_gt c]; omega
          · rw [cmpI_eq (by omega)]; omega
        obtain ⟨cv, hcv⟩ : ∃ cv, cmpI (val xs) (val ys) = cv := ⟨_, rfl⟩
        rw [hcv] at HCM hc0
        have hc1 : ¬ cv < 0 := by omega
        clear hcv hc0
        go_enter Try.func50, Try.ntmps50
        go_wp2_with fail
        refine Calls.mono HCM.out ?_
        rintro e w1 ⟨rfl, hb1⟩
        obtain ⟨p0, p1, _, _⟩ := res_box HN.out hb1
        obtain ⟨q0, q1, _, _⟩ := res_box HM.out hb1
        have HB1 := hid hb1
        have HBU := hid (bt HB.out hb1)
        have HUS : Hid (w.heap.size + 1 + 1 < w1.heap.size) := by
          show _ < _
          have h1 := HXR.out.2
          have h2 := HB1.out.size
          omega
        clear hb1 HCM
        have HK : Hid (∀ w', Below w1.heap.size w1 w' → (fun w' : World => ((fun w' : World => w'.cell? ⟨w.heap.size, 0, none⟩ = some (.bool true) ∧ w'.cell? ⟨w.heap.size, 1, none⟩ = some (.slice a xs.length cap) ∧ w'.cell? ⟨w.heap.size + 1, 0, none⟩ = some (.bool false) ∧ w'.cell? ⟨w.heap.size + 1, 1, none⟩ = some (.slice b ys.length cap'))) w' ∧ w'.cell? ⟨w.heap.size + 1 + 1, 0, none⟩ = some (.bool false) ∧ w'.cell? ⟨w.heap.size + 1 + 1, 1, none⟩ = some (.slice none 0 0) ∧ w'.frozen? ⟨w.heap.size + 1 + 1, 0, none⟩ = false ∧ w'.frozen? ⟨w.heap.size + 1 + 1, 1, none⟩ = false) w') := fun w' hb => by
          have hx : Below (((w.alloc (.cells #[.bool true, .slice a xs.length cap] 24)).alloc (.cells #[.bool false, .slice b ys.length cap'] 24)).alloc (.cells #[.bool false, .slice none 0 0] 24)).heap.size _ w' := bt HB1.out hb
          obtain ⟨r0, r1, f0, f1⟩ := res_box HXB.out hx
          obtain ⟨p0, p1, _, _⟩ := res_box HN.out hx
          obtain ⟨q0, q1, _, _⟩ := res_box HM.out hx
          exact ⟨⟨p0, p1, q0, q1⟩, r0, r1, f0, f1⟩
        have HF := hid (fun ww (hb : Below w1.heap.size w1 ww) => told1_at _ HK.out ww hb (rdiff_any _ _ xs ys ww ((HSL.out.1.later HB1.out).later hb) ((HSL.out.2.later HB1.out).later hb) (by omega) (by omega) tx ty (by omega)))
        have hs0 := (HK.out _ (Below.drew (Below.refl _ w1))).1
        have hq0 : w.heap.size + 1 + 1 ≠ w.heap.size := by omega
        go_wp2_with fail
        go_region_held3 (fun w' : World => w'.cell? ⟨w.heap.size, 0, none⟩ = some (.bool true) ∧ w'.cell? ⟨w.heap.size, 1, none⟩ = some (.slice a xs.length cap) ∧ w'.cell? ⟨w.heap.size + 1, 0, none⟩ = some (.bool false) ∧ w'.cell? ⟨w.heap.size + 1, 1, none⟩ = some (.slice b ys.length cap')) (first | exact hs1 | exact hs0 | (simp [hs1, World.cell?_setCell_far, hq0]))
          (first | (go_at_call 67; refine Calls.mono (HF.out _ (Below.drew (Below.refl _ _))) ?_; rintro e w2 ⟨a2, zs, c2, rfl, HE, ⟨hs1, r0, r1, f0, f1⟩, hb2, _⟩))
        all_goals
          go_wp2_with fail
          refine bodyPost_ret (v := .agg #[.bool true, .slice a2 zs.length c2]) (by simp [results, Try.results50, go_sem, r0, r1]) rfl ?_
          refine ⟨true, _, zs, rfl, owns_base (own_put2 HE.out.1 _ (fun g hg => ?_) _ _) (by have := HXR.out; have := HBU.out.size; omega), HE.out.2.1, HE.out.2.2.1, ?_, below_put2 (bt HBU.out hb2) _ (by have := HXR.out; omega) _ _⟩
          · have h1 := (World.ownsRow.lt HE.out.1 g hg).1
            have h2 := HXR.out
            have h3 := HUS.out
            omega
          · have e := HE.out.2.2.2
            show _ = _
            simp [wval] at e ⊢
            omega
    | true =>
      clear HCM
      have HBU := hid HB.out
      have HUS : Hid (w.heap.size + 1 + 1 < (((w.alloc (.cells #[.bool true, .slice a xs.length cap] 24)).alloc (.cells #[.bool true, .slice b ys.length cap'] 24)).alloc (.cells #[.bool false, .slice none 0 0] 24)).heap.size) := HXR.out.2
      go_enter Try.func50, Try.ntmps50
      have HK : Hid (∀ w', Below (((w.alloc (.cells #[.bool true, .slice a xs.length cap] 24)).alloc (.cells #[.bool true, .slice b ys.length cap'] 24)).alloc (.cells #[.bool false, .slice none 0 0] 24)).heap.size (((w.alloc (.cells #[.bool true, .slice a xs.length cap] 24)).alloc (.cells #[.bool true, .slice b ys.length cap'] 24)).alloc (.cells #[.bool false, .slice none 0 0] 24)) w' → (fun w' : World => ((fun w' : World => w'.cell? ⟨w.heap.size, 0, none⟩ = some (.bool true) ∧ w'.cell? ⟨w.heap.size, 1, none⟩ = some (.slice a xs.length cap) ∧ w'.cell? ⟨w.heap.size + 1, 0, none⟩ = some (.bool true) ∧ w'.cell? ⟨w.heap.size + 1, 1, none⟩ = some (.slice b ys.length cap'))) w' ∧ w'.cell? ⟨w.heap.size + 1 + 1, 0, none⟩ = some (.bool false) ∧ w'.cell? ⟨w.heap.size + 1 + 1, 1, none⟩ = some (.slice none 0 0) ∧ w'.frozen? ⟨w.heap.size + 1 + 1, 0, none⟩ = false ∧ w'.frozen? ⟨w.heap.size + 1 + 1, 1, none⟩ = false) w') := fun w' hb => by
        have hx : Below (((w.alloc (.cells #[.bool true, .slice a xs.length cap] 24)).alloc (.cells #[.bool true, .slice b ys.length cap'] 24)).alloc (.cells #[.bool false, .slice none 0 0] 24)).heap.size _ w' := hb
        obtain ⟨r0, r1, f0, f1⟩ := res_box HXB.out hx
        obtain ⟨p0, p1, _, _⟩ := res_box HN.out hx
        obtain ⟨q0, q1, _, _⟩ := res_box HM.out hx
        exact ⟨⟨p0, p1, q0, q1⟩, r0, r1, f0, f1⟩
      have HF := hid (fun ww (hb : Below (((w.alloc (.cells #[.bool true, .slice a xs.length cap] 24)).alloc (.cells #[.bool true, .slice b ys.length cap'] 24)).alloc (.cells #[.bool false, .slice none 0 0] 24)).heap.size (((w.alloc (.cells #[.bool true, .slice a xs.length cap] 24)).alloc (.cells #[.bool true, .slice b ys.length cap'] 24)).alloc (.cells #[.bool false, .slice none 0 0] 24)) ww) => told1_at _ HK.out ww hb (rsum_any _ _ xs ys ww (HSL.out.1.later hb) (HSL.out.2.later hb) lx ly tx ty))
      have hs0 := (HK.out _ (Below.drew (Below.refl _ (((w.alloc (.cells #[.bool true, .slice a xs.length cap] 24)).alloc (.cells #[.bool true, .slice b ys.length cap'] 24)).alloc (.cells #[.bool false, .slice none 0 0] 24))))).1
      have hq0 : w.heap.size + 1 + 1 ≠ w.heap.size := by omega
      go_wp2_with fail
      go_region_held3 (fun w' : World => w'.cell? ⟨w.heap.size, 0, none⟩ = some (.bool true) ∧ w'.cell? ⟨w.heap.size, 1, none⟩ = some (.slice a xs.length cap) ∧ w'.cell? ⟨w.heap.size + 1, 0, none⟩ = some (.bool true) ∧ w'.cell? ⟨w.heap.size + 1, 1, none⟩ = some (.slice b ys.length cap')) (first | exact hs1 | exact hs0 | (simp [hs1, World.cell?_setCell_far, hq0]))
        (first | (go_at_call 65; refine Calls.mono (HF.out _ (Below.drew (Below.refl _ _))) ?_; rintro e w2 ⟨a2, zs, c2, rfl, HE, ⟨hs1, r0, r1, f0, f1⟩, hb2, _⟩))
      all_goals
        go_wp2_with fail
        refine bodyPost_ret (v := .agg #[.bool true, .slice a2 zs.length c2]) (by simp [results, Try.results50, go_sem, r0, r1]) rfl ?_
        refine ⟨true, _, zs, rfl, owns_base (own_put2 HE.out.1 _ (fun g hg => ?_) _ _) (by have := HXR.out; have := HBU.out.size; omega), HE.out.2.1, HE.out.2.2.1, ?_, below_put2 (bt HBU.out hb2) _ (by have := HXR.out; omega) _ _⟩
        · have h1 := (World.ownsRow.lt HE.out.1 g hg).1
          have h2 := HXR.out
          have h3 := HUS.out
          omega
        · have e := HE.out.2.2.2
          show _ = _
          simp [wval] at e ⊢
          omega
end Go.Proofs.Ytjfclfoefoiniaa

/- Fractions: ratio.add, multiply: sums and products of fractions, what is in common taken out first. -/
namespace Go.Proofs.Ytjfclfoefoiniaa
open Go.RowKit
set_option linter.unusedVariables false

theorem div_gcd_left {x y g : Int} (hg : g = gcdI x y) : x = x / g * g := (Int.ediv_mul_cancel (by rw [hg]; exact Int.gcd_dvd_left ..)).symm
theorem div_gcd_right {x y g : Int} (hg : g = gcdI x y) : y = y / g * g := (Int.ediv_mul_cancel (by rw [hg]; exact Int.gcd_dvd_right ..)).symm
theorem gcd_pos_right {x y : Int} (h : 0 < y) : 0 < gcdI x y := by
  have : 0 < Int.gcd x y := Int.gcd_pos_iff.2 (Or.inr (by omega))
  unfold gcdI; omega
theorem gcd_le_right {x y : Int} (h : 0 < y) : gcdI x y ≤ y := Int.le_of_dvd h (Int.gcd_dvd_right ..)
theorem sg_mul (n : Bool) (x y : Int) : sg n (x * y) = sg n x * y := by cases n <;> simp [sg, Int.neg_mul]
/-- What add works out. -/
theorem add_parts {n m nn : Bool} {xs ys us vs : List Int} {g rA rB p1 p2 N s q1 e den : Int} (hy : 0 < val ys) (hv : 0 < val vs) (h1 : gcdI (val xs) (val ys) = 1) (h2 : gcdI (val us) (val vs) = 1)
    (hg : g = gcdI (val ys) (val vs)) (hA : rA = val ys / g) (hB : rB = val vs / g) (hp1 : p1 = val xs * rB) (hp2 : p2 = val us * rA) (hN : sg nn N = sg n p1 + sg m p2) (hs : s = gcdI N g) (hq : q1 = N / s) (he : e = val vs / s) (hd : den = rA * e) :
    0 < den ∧ gcdI q1 den = 1 ∧ Rat.divInt (sg nn q1) den = rq n xs ys + rq m us vs := by
  have g0 : 0 < g := by rw [hg]; exact gcd_pos_right hv
  have k1 : val ys = rA * g := by rw [hA]; exact div_gcd_left hg
  have k2 : val vs = rB * g := by rw [hB]; exact div_gcd_right hg
  have k3 : N = q1 * s := by rw [hq]; exact div_gcd_left hs
  have sg' : s ∣ g := by rw [hs]; exact Int.gcd_dvd_right ..
  have k4 : val vs = e * s := by rw [he]; exact (Int.ediv_mul_cancel (Int.dvd_trans sg' ⟨rB, by rw [k2, Int.mul_comm]⟩)).symm
  have hN' : sg nn N = sg n (val xs) * rB + sg m (val us) * rA := by rw [hN, hp1, hp2, sg_mul, sg_mul]
  have hs' : s = gcdI (sg nn N) g := by rw [gcd_sg]; exact hs
  have r := fr_add (a := sg n (val xs)) (c := sg m (val us)) (p := sg nn q1) hy hv (by rw [gcd_sg]; exact h1) (by rw [gcd_sg]; exact h2) hg k1 k2 hN' hs' (by rw [← sg_mul, ← k3]) k4
  rw [← hd, gcd_sg] at r
  exact r
/-- What multiply works out. -/
theorem mul_parts {n m : Bool} {xs ys us vs : List Int} {f s num den : Int} (hy : 0 < val ys) (hv : 0 < val vs) (h1 : gcdI (val xs) (val ys) = 1) (h2 : gcdI (val us) (val vs) = 1)
    (hf : f = gcdI (val xs) (val vs)) (hs : s = gcdI (val us) (val ys)) (hn : num = val xs / f * (val us / s)) (hd : den = val ys / s * (val vs / f)) :
    0 < den ∧ gcdI num den = 1 ∧ Rat.divInt (sg (n != m) num) den = rq n xs ys * rq m us vs := by
  have r := fr_mul (a := sg n (val xs)) (c := sg m (val us)) (a1 := sg n (val xs / f)) (c1 := sg m (val us / s)) hy hv (by rw [gcd_sg]; exact h1) (by rw [gcd_sg]; exact h2) (by rw [gcd_sg]; exact hf) (by rw [gcd_sg]; exact hs) (by rw [← sg_mul, ← div_gcd_left hf]) (div_gcd_right hf) (by rw [← sg_mul, ← div_gcd_left hs]) (div_gcd_right hs)
  have e : sg n (val xs / f) * sg m (val us / s) = sg (n != m) num := by rw [hn]; exact (mul_sign n m _ _).symm
  rw [e, ← hd, gcd_sg] at r
  exact r
theorem WVal.at {U ww : World} {f : Nat} {args : Array Value} {t : Int} (S : World → Prop) (hS : ∀ w', Below U.heap.size U w' → S w') (hb : Below U.heap.size U ww) (C : Calls Try.prog f args ww (WVal ww t)) :
    Calls Try.prog f args ww fun e w' => ∃ k a2 zs c2, e = .returned (.agg #[.bool k, .slice a2 zs.length c2]) ∧ Hid (∃ T, One U w' (.slice a2 zs.length c2) zs T ∧ sg k T = t) ∧ S w' ∧ Below U.heap.size U w' ∧ Hid (Below ww.heap.size ww w') :=
  Calls.mono C fun e w' h => by
    obtain ⟨k, v, zs, rfl, o, h1, h2, h3, hb2⟩ := h
    obtain ⟨a2, c2, hs2⟩ := own_slice' o
    subst hs2
    exact ⟨k, a2, zs, c2, rfl, ⟨val zs, ⟨owns_base o hb.size, h1, h2, rfl⟩, h3⟩, hS w' (bt hb hb2), bt hb hb2, hb2⟩
theorem mul_4096 {x y : Int} (h0 : 0 ≤ x) (hx : x < 4294967296 ^ 2048) (g0 : 0 ≤ y) (hy : y < 4294967296 ^ 2048) : x * y < 4294967296 ^ 4096 := by
  have e : (4294967296 : Int) ^ 4096 = 4294967296 ^ 2048 * 4294967296 ^ 2048 := by rw [← Int.pow_add]
  have p := pw_pos 2048
  rw [e]
  generalize (4294967296 : Int) ^ 2048 = P at *
  have e1 : x * y ≤ x * P := Int.mul_le_mul_of_nonneg_left (by omega) h0
  have e2 : x * P < P * P := Int.mul_lt_mul_of_pos_right hx p
  omega
theorem own_len {v : Value} {zs : List Int} {U V : World} {t : Int} (h : One U V v zs t) {L : Nat} (hl : t < 4294967296 ^ L) : zs.length ≤ L := len_of_lt h.2.1 h.2.2.1 (by rw [h.2.2.2]; exact hl)
theorem own_pos {v : Value} {zs : List Int} {U V : World} {t : Int} (h : One U V v zs t) (h0 : 0 < t) : 0 < zs.length := by
  by_cases c : 0 < zs.length
  · exact c
  · have := trimmed_zero' (us := zs) (by omega)
    have := h.2.2.2
    omega
/-- What told tells of a numerator and a denominator with nothing in common. -/
theorem rtold_at {U ww : World} {n : Bool} {a : Option Addr} {ca : Nat} {zs : List Int} {b : Option Addr} {cb : Nat} {ds : List Int} {s t : Int} {q : Rat} (S : World → Prop) (hS : ∀ w', Below U.heap.size U w' → S w') (hb : Below U.heap.size U ww) (h1 : One U ww (.slice a zs.length ca) zs s) (h2 : One U ww (.slice b ds.length cb) ds t) (hd : 0 < t) (hg : gcdI s t = 1) (hq : Rat.divInt (sg n s) t = q) :
    Calls Try.prog 20 #[.bool n, .slice a zs.length ca, .slice b ds.length cb] ww fun e w' => ∃ k a8 z8 c8 a9 z9 c9 code, e = .returned (.tuple #[.agg #[.bool k, .slice a8 (List.length z8) c8, .slice a9 (List.length z9) c9], .int .i64 code]) ∧ Hid (w'.ownsRow U.heap.size 53 1 (.slice a8 (List.length z8) c8) z8.length (z8.map (Value.int .u32)) ∧ w'.ownsRow U.heap.size 53 1 (.slice a9 (List.length z9) c9) z9.length (z9.map (Value.int .u32)) ∧ RTells 0 q k z8 z9 code) ∧ S w' ∧ Below U.heap.size U w' := by
  obtain ⟨o1, w1, t1, v1⟩ := h1
  obtain ⟨o2, w2, t2, v2⟩ := h2
  obtain ⟨k, us, vs, c, e1, e2, e3, r⟩ := rtells_of (n := n) w1 t1 w2 t2 (by rw [v2]; exact hd) (by rw [v1, v2]; exact hg)
  rw [v1, v2, hq] at r
  refine Calls.mono (rtold_any n a zs.length ca b ds.length cb ww) fun e w' h => ?_
  obtain ⟨rfl, hb2⟩ := h
  rw [e1]
  by_cases z : c = 0
  · rw [if_pos z] at e2 e3
    subst e2; subst e3
    refine ⟨k, a, us, ca, b, vs, cb, c, by rw [if_pos z, if_pos z], ⟨owns_later o1 hb2, owns_later o2 hb2, r⟩, hS w' (bt hb hb2), bt hb hb2⟩
  · rw [if_neg z] at e2 e3
    subst e2; subst e3
    exact ⟨k, none, [], 0, none, [], 0, c, by rw [if_neg z, if_neg z]; rfl, ⟨World.ownsRow_nil _ _ _ _, World.ownsRow_nil _ _ _ _, r⟩, hS w' (bt hb hb2), bt hb hb2⟩
/-- What lies in blocks that were there stays, said so that the walk can use it. -/
def Far (ww w' : World) : Prop := (∀ H, H < ww.heap.size → H < w'.heap.size) ∧ (∀ H j, H < ww.heap.size → w'.cell? ⟨H, j, none⟩ = ww.cell? ⟨H, j, none⟩) ∧ (∀ H j, H < ww.heap.size → w'.frozen? ⟨H, j, none⟩ = ww.frozen? ⟨H, j, none⟩)
theorem Far.of {ww w' : World} (h : Below ww.heap.size ww w') : Far ww w' := ⟨fun H hl => Nat.lt_of_lt_of_le hl h.size, fun H j hl => h.cell (p := ⟨H, j, none⟩) hl, fun H j hl => h.frozen (p := ⟨H, j, none⟩) hl⟩
theorem quot_by {U ww : World} {a : Option Addr} {ca : Nat} {xs : List Int} {a1 : Option Addr} {z1 : List Int} {c1 : Nat} {g : Int} (S : World → Prop) (hS : ∀ w', Below U.heap.size U w' → S w') (hb : Below U.heap.size U ww) (hx : Sl ww (.slice a xs.length ca) xs) (lx : xs.length ≤ 8192) (tx : Trimmed xs) (h : One U ww (.slice a1 z1.length c1) z1 g) (h0 : 0 < g) (hl : g < 4294967296 ^ 2048) :
    Calls Try.prog 21 #[.slice a xs.length ca, .slice a1 z1.length c1] ww fun e w' => ∃ a2 zs c2, e = .returned (.slice a2 zs.length c2) ∧ Hid (One U w' (.slice a2 zs.length c2) zs (val xs / g)) ∧ S w' ∧ Below U.heap.size U w' ∧ Hid (Below ww.heap.size ww w') := by
  have e := rquot_any _ _ xs z1 ww hx h.sl lx (by have := own_len h hl; omega) tx h.2.2.1 (own_pos h h0)
  rw [h.2.2.2] at e
  exact told1_at S hS ww hb e
theorem RTold.put {w U w3 : World} {e : Int} {q : Rat} {k : Bool} {v u : Value} {zs ds : List Int} {code : Int} (h : w3.ownsRow U.heap.size 53 1 v zs.length (zs.map (Value.int .u32)) ∧ w3.ownsRow U.heap.size 53 1 u ds.length (ds.map (Value.int .u32)) ∧ RTells e q k zs ds code) (b : Nat) (hb : b < U.heap.size) (hw : w.heap.size ≤ b) (hbw : Below w.heap.size w w3) (x y z : Value) :
    RTold w e q (.returned (.tuple #[.agg #[.bool k, v, u], .int .i64 code])) (((w3.setCell ⟨b, 0, none⟩ x).setCell ⟨b, 1, none⟩ y).setCell ⟨b, 2, none⟩ z) :=
  ⟨k, v, zs, u, ds, code, rfl, owns_base (own_put3 h.1 b (fun g hg => by have := (World.ownsRow.lt h.1 g hg).1; omega) _ _ _) (by omega), owns_base (own_put3 h.2.1 b (fun g hg => by have := (World.ownsRow.lt h.2.1 g hg).1; omega) _ _ _) (by omega), h.2.2, below_put3 hbw b hw _ _ _⟩

end Go.Proofs.Ytjfclfoefoiniaa

/- Whole numbers: whole.divide, DivMod as in Wh6, and besides: quotient and rest lie apart. -/
namespace Go.Proofs.Ytjfclfoefoiniaa
open Go.RowKit
set_option linter.unusedVariables false

/-- The first lies below a cut, the second from it on: both new. -/
def Cut (w : World) (v u : Value) (w' : World) : Prop := ∃ c, w.heap.size ≤ c ∧ c ≤ w'.heap.size ∧ Lies v w.heap.size c ∧ Lies u c w'.heap.size
theorem Cut.up {w w' W W' : World} {v u : Value} (h : Cut w v u w') (h0 : W.heap.size ≤ w.heap.size) (h1 : w'.heap.size ≤ W'.heap.size) : Cut W v u W' := by
  obtain ⟨c, c0, c1, l0, l1⟩ := h
  exact ⟨c, Nat.le_trans h0 c0, Nat.le_trans c1 h1, fun g hg => ⟨Nat.le_trans h0 (l0 g hg).1, (l0 g hg).2⟩, fun g hg => ⟨(l1 g hg).1, Nat.lt_of_lt_of_le (l1 g hg).2 h1⟩⟩

set_option maxHeartbeats 800000 in
set_option maxRecDepth 100000 in
theorem divMod_cut (v u : Value) (xs ys : List Int) (w : World) (h : Sl w v xs) (g : Sl w u ys) (lx : xs.length ≤ 8192) (ly : ys.length ≤ 8192) (tx : Trimmed xs) (ty : Trimmed ys) (h0 : 0 < ys.length) :
    Calls Try.prog 41 #[v, u] w fun e w' => ∃ v1 u1 q r, e = .returned (.tuple #[v1, u1, .int .i64 0]) ∧ w'.ownsRow w.heap.size 53 1 v1 q.length (q.map (Value.int .u32)) ∧ w'.ownsRow w.heap.size 53 1 u1 r.length (r.map (Value.int .u32)) ∧ Wd q ∧ Wd r ∧ Trimmed q ∧ Trimmed r ∧ val xs = val q * val ys + val r ∧ val r < val ys ∧ Below w.heap.size w w' ∧ Cut w v1 u1 w' := by
  have HB := hid (checkBoth_sl v u xs ys w h g (by omega) (by omega))
  rw [both_good (chk_good lx tx) (chk_good ly ty)] at HB
  have HD : Hid (Calls Try.prog 58 #[v, u] w (Divided w xs ys)) := divide_any v u xs ys w h g lx ly tx ty h0
  obtain ⟨b, cap', rfl, gr⟩ := g
  have hz : ((ys.length : Int) == 0) = false := by simp; exact fun e => by rw [e] at h0; simp at h0
  clear gr h ty
  go_enter Try.func41, Try.ntmps41
  go_wp2_with fail
  refine Calls.mono HB.out ?_
  rintro e w' ⟨rfl, rfl⟩
  go_wp2_with fail
  refine Calls.mono HD.out ?_
  rintro e w1 ⟨v1, u1, q, r, c, rfl, oq, orr, i1, i2, i3, i4, wq, wr, tq, tr, hv, hlt, hbel⟩
  have HCU : Hid (Cut w v1 u1 w1) := ⟨c, i3, i4, i1, i2⟩
  have HQ := hid oq
  have HR := hid orr
  have HV := hid hv
  have HLT := hid hlt
  clear oq orr hv hlt i1 i2 i3 i4
  go_wp2
  go_ret3
  exact ⟨v1, u1, q, r, rfl, HQ.out, HR.out, wq, wr, tq, tr, HV.out, HLT.out, hbel, HCU.out⟩

/-- A size and a rest, in new memory, apart. -/
def WPartsA (w : World) (n : Bool) (xs ys : List Int) (x : Ending) (w' : World) : Prop := ∃ v1 u1 q r, x = .returned (.tuple #[v1, u1]) ∧ w'.ownsRow w.heap.size 53 1 v1 q.length (q.map (Value.int .u32)) ∧ w'.ownsRow w.heap.size 53 1 u1 r.length (r.map (Value.int .u32)) ∧ Wd q ∧ Wd r ∧ Trimmed q ∧ Trimmed r ∧ q.length ≤ 2048 ∧ r.length ≤ 2048 ∧
  val xs = val q * val ys + sg n (val r) ∧ val r < val ys ∧ Below w.heap.size w w' ∧ Cut w v1 u1 w'
/-- Quotient and rest of whole numbers, in new memory, apart. -/
def WDivA (w : World) (X Y : Int) (x : Ending) (w' : World) : Prop := ∃ nq vq zq vr zr, x = .returned (.tuple #[.agg #[.bool nq, vq], .agg #[.bool false, vr], .int .i64 0]) ∧ w'.ownsRow w.heap.size 53 1 vq zq.length (zq.map (Value.int .u32)) ∧ w'.ownsRow w.heap.size 53 1 vr zr.length (zr.map (Value.int .u32)) ∧ Wd zq ∧ Wd zr ∧ Trimmed zq ∧ Trimmed zr ∧ zq.length ≤ 2048 ∧ zr.length ≤ 2048 ∧ (nq = false ∨ 0 < zq.length) ∧
  X = wval nq zq * Y + val zr ∧ val zr < (Y.natAbs : Int) ∧ Below w.heap.size w w' ∧ Cut w vq vr w'
end Go.Proofs.Ytjfclfoefoiniaa

/- Fractions: ratio.Make: of two whole numbers, in whatever form; Num and Den lie apart. -/
namespace Go.Proofs.Ytjfclfoefoiniaa
open Go.RowKit
set_option linter.unusedVariables false

/-- A fraction told in new memory, Num and Den apart. -/
def RToldA (w : World) (e : Int) (q : Rat) (x : Ending) (w' : World) : Prop :=
  ∃ n v xs u ys code, x = .returned (.tuple #[.agg #[.bool n, v, u], .int .i64 code]) ∧ w'.ownsRow w.heap.size 53 1 v xs.length (xs.map (Value.int .u32)) ∧ w'.ownsRow w.heap.size 53 1 u ys.length (ys.map (Value.int .u32)) ∧ RTells e q n xs ys code ∧ Below w.heap.size w w' ∧ Cut w v u w'
theorem RTells.same {e : Int} {q : Rat} {n m : Bool} {xs ys us vs : List Int} {c d : Int} (h : RTells e q n xs ys c) (g : RTells e q m us vs d) : n = m ∧ xs = us ∧ ys = vs ∧ c = d := by
  by_cases he : e = 0
  · by_cases hl : rlong q
    · obtain ⟨a1, a2, a3, a4⟩ := h.long he hl
      obtain ⟨b1, b2, b3, b4⟩ := g.long he hl
      exact ⟨by rw [a1, b1], by rw [a2, b2], by rw [a3, b3], by rw [a4, b4]⟩
    · obtain ⟨a1, a2, a3⟩ := h.good he hl
      obtain ⟨b1, b2, b3⟩ := g.good he hl
      obtain ⟨_, _, tx, ty, y0, sx, gx⟩ := rchk_ok a2
      obtain ⟨_, _, tu, tv, v0, su, gu⟩ := rchk_ok b2
      have py := val_pos' h.wy ty y0
      have pv := val_pos' g.wy tv v0
      have e1 := fr_inj (x := wval n xs) (d := val ys) (y := wval m us) (e := val vs) (by omega) (by rw [show wval n xs = sg n (val xs) from rfl, gcd_sg]; exact gx) (by omega) (by rw [show wval m us = sg m (val us) from rfl, gcd_sg]; exact gu) (a3.trans b3.symm)
      have e2 : n = m ∧ xs = us := by
        have x0 := val_nonneg h.wx
        have u0 := val_nonneg g.wx
        have e3 := e1.1
        cases n <;> cases m
        · exact ⟨rfl, trimmed_eq h.wx g.wx tx tu e3⟩
        · have e4 : val xs = -(val us) := e3
          have := val_pos' g.wx tu (su.elim (fun e => by cases e) id)
          omega
        · have e4 : -(val xs) = val us := e3
          have := val_pos' h.wx tx (sx.elim (fun e => by cases e) id)
          omega
        · have e4 : -(val xs) = -(val us) := e3
          exact ⟨rfl, trimmed_eq h.wx g.wx tx tu (by omega)⟩
      exact ⟨e2.1, e2.2, trimmed_eq h.wy g.wy ty tv e1.2, by rw [a1, b1]⟩
  · obtain ⟨a1, a2, a3, a4⟩ := h.bad he
    obtain ⟨b1, b2, b3, b4⟩ := g.bad he
    exact ⟨by rw [a1, b1], by rw [a2, b2], by rw [a3, b3], by rw [a4, b4]⟩
theorem RTells.len {e : Int} {q : Rat} {n : Bool} {xs ys : List Int} {c : Int} (h : RTells e q n xs ys c) : xs.length ≤ 2048 ∧ ys.length ≤ 2048 := by
  by_cases he : e = 0
  · by_cases hl : rlong q
    · obtain ⟨_, a2, a3, _⟩ := h.long he hl
      rw [a2, a3]; simp
    · obtain ⟨l1, l2, _⟩ := rchk_ok (h.good he hl).2.1
      exact ⟨l1, l2⟩
  · obtain ⟨_, a2, a3, _⟩ := h.bad he
    rw [a2, a3]; simp
theorem make_parts {n m : Bool} {xs ys : List Int} (hx : 0 ≤ val xs) (hy : 0 < val ys) :
    0 < val ys / gcdI (val xs) (val ys) ∧ gcdI (val xs / gcdI (val xs) (val ys)) (val ys / gcdI (val xs) (val ys)) = 1 ∧ Rat.divInt (sg (n != m) (val xs / gcdI (val xs) (val ys))) (val ys / gcdI (val xs) (val ys)) = Rat.divInt (wval n xs) (wval m ys) := by
  obtain ⟨e1, e2, e3⟩ := fr_make (x := val xs) (d := val ys) (p := val xs / gcdI (val xs) (val ys)) (e := val ys / gcdI (val xs) (val ys)) hy rfl (div_gcd_left rfl) (div_gcd_right rfl)
  refine ⟨e1, e2, ?_⟩
  generalize val xs / gcdI (val xs) (val ys) = p at *
  generalize val ys / gcdI (val xs) (val ys) = e at *
  cases n <;> cases m <;> simp [sg, wval, e3, Rat.divInt_neg', ← Rat.neg_divInt]
/-- A callee's contract, at each world that may come up in a region: with what stays beside it, and where what is told lies. -/
theorem told1_in {U : World} {f : Nat} {args : Array Value} {t : Int} (S : World → Prop) (hS : ∀ w', Below U.heap.size U w' → S w') (ww : World) (hb : Below U.heap.size U ww) (C : Calls Try.prog f args ww (Told1 ww t)) :
    Calls Try.prog f args ww fun e w' => ∃ a2 zs c2, e = .returned (.slice a2 zs.length c2) ∧ Hid (One U w' (.slice a2 zs.length c2) zs t ∧ Lies (.slice a2 zs.length c2) ww.heap.size w'.heap.size) ∧ S w' ∧ Below U.heap.size U w' ∧ Hid (Below ww.heap.size ww w') :=
  Calls.mono C fun e w' h => by
    obtain ⟨v, zs, rfl, o, h1, h2, h3, hb2⟩ := h
    obtain ⟨a2, c2, hs2⟩ := own_slice' o
    subst hs2
    exact ⟨a2, zs, c2, rfl, ⟨⟨owns_base o hb.size, h1, h2, h3⟩, fun g hg => o.lt g hg⟩, hS w' (bt hb hb2), bt hb hb2, hb2⟩
theorem quot_in {U ww : World} {a : Option Addr} {ca : Nat} {xs : List Int} {a1 : Option Addr} {z1 : List Int} {c1 : Nat} {g : Int} (S : World → Prop) (hS : ∀ w', Below U.heap.size U w' → S w') (hb : Below U.heap.size U ww) (hx : Sl ww (.slice a xs.length ca) xs) (lx : xs.length ≤ 8192) (tx : Trimmed xs) (h : One U ww (.slice a1 z1.length c1) z1 g) (h0 : 0 < g) (hl : g < 4294967296 ^ 2048) :
    Calls Try.prog 21 #[.slice a xs.length ca, .slice a1 z1.length c1] ww fun e w' => ∃ a2 zs c2, e = .returned (.slice a2 zs.length c2) ∧ Hid (One U w' (.slice a2 zs.length c2) zs (val xs / g) ∧ Lies (.slice a2 zs.length c2) ww.heap.size w'.heap.size) ∧ S w' ∧ Below U.heap.size U w' ∧ Hid (Below ww.heap.size ww w') := by
  have e := rquot_any _ _ xs z1 ww hx h.sl lx (by have := own_len h hl; omega) tx h.2.2.1 (own_pos h h0)
  rw [h.2.2.2] at e
  exact told1_in S hS ww hb e
theorem cut_two {U u V W : World} {v w : Value} (h0 : U.heap.size ≤ u.heap.size) (h1 : u.heap.size ≤ V.heap.size) (h2 : V.heap.size ≤ W.heap.size) (l1 : Lies v u.heap.size V.heap.size) (l2 : Lies w V.heap.size W.heap.size) : Cut U v w W :=
  ⟨V.heap.size, Nat.le_trans h0 h1, h2, fun g hg => ⟨Nat.le_trans h0 (l1 g hg).1, (l1 g hg).2⟩, l2⟩
/-- What told tells, where numerator and denominator lie apart. -/
theorem rtold_cut {U ww : World} {n : Bool} {a : Option Addr} {ca : Nat} {zs : List Int} {b : Option Addr} {cb : Nat} {ds : List Int} {s t : Int} {q : Rat} (S : World → Prop) (hS : ∀ w', Below U.heap.size U w' → S w') (hb : Below U.heap.size U ww) (h1 : One U ww (.slice a zs.length ca) zs s) (h2 : One U ww (.slice b ds.length cb) ds t) (hc : Cut U (.slice a zs.length ca) (.slice b ds.length cb) ww) (hd : 0 < t) (hg : gcdI s t = 1) (hq : Rat.divInt (sg n s) t = q) :
    Calls Try.prog 20 #[.bool n, .slice a zs.length ca, .slice b ds.length cb] ww fun e w' => ∃ k a8 z8 c8 a9 z9 c9 code, e = .returned (.tuple #[.agg #[.bool k, .slice a8 (List.length z8) c8, .slice a9 (List.length z9) c9], .int .i64 code]) ∧ Hid (w'.ownsRow U.heap.size 53 1 (.slice a8 (List.length z8) c8) z8.length (z8.map (Value.int .u32)) ∧ w'.ownsRow U.heap.size 53 1 (.slice a9 (List.length z9) c9) z9.length (z9.map (Value.int .u32)) ∧ RTells 0 q k z8 z9 code ∧ Cut U (.slice a8 (List.length z8) c8) (.slice a9 (List.length z9) c9) w') ∧ S w' ∧ Below U.heap.size U w' := by
  obtain ⟨o1, w1, t1, v1⟩ := h1
  obtain ⟨o2, w2, t2, v2⟩ := h2
  obtain ⟨k, us, vs, c, e1, e2, e3, r⟩ := rtells_of (n := n) w1 t1 w2 t2 (by rw [v2]; exact hd) (by rw [v1, v2]; exact hg)
  rw [v1, v2, hq] at r
  refine Calls.mono (rtold_any n a zs.length ca b ds.length cb ww) fun e w' h => ?_
  obtain ⟨rfl, hb2⟩ := h
  rw [e1]
  by_cases z : c = 0
  · rw [if_pos z] at e2 e3
    subst e2; subst e3
    refine ⟨k, a, us, ca, b, vs, cb, c, by rw [if_pos z, if_pos z], ⟨owns_later o1 hb2, owns_later o2 hb2, r, hc.up (Nat.le_refl _) hb2.size⟩, hS w' (bt hb hb2), bt hb hb2⟩
  · rw [if_neg z] at e2 e3
    subst e2; subst e3
    exact ⟨k, none, [], 0, none, [], 0, c, by rw [if_neg z, if_neg z]; rfl, ⟨World.ownsRow_nil _ _ _ _, World.ownsRow_nil _ _ _ _, r, ⟨U.heap.size, Nat.le_refl _, (bt hb hb2).size, fun g hg => by simp [Value.ownBlock] at hg, fun g hg => by simp [Value.ownBlock] at hg⟩⟩, hS w' (bt hb hb2), bt hb hb2⟩
theorem RToldA.put {w U w3 : World} {e : Int} {q : Rat} {k : Bool} {v u : Value} {zs ds : List Int} {code : Int} (h : w3.ownsRow U.heap.size 53 1 v zs.length (zs.map (Value.int .u32)) ∧ w3.ownsRow U.heap.size 53 1 u ds.length (ds.map (Value.int .u32)) ∧ RTells e q k zs ds code ∧ Cut U v u w3) (b : Nat) (hb : b < U.heap.size) (hw : w.heap.size ≤ b) (hbw : Below w.heap.size w w3) (x y z : Value) :
    RToldA w e q (.returned (.tuple #[.agg #[.bool k, v, u], .int .i64 code])) (((w3.setCell ⟨b, 0, none⟩ x).setCell ⟨b, 1, none⟩ y).setCell ⟨b, 2, none⟩ z) :=
  ⟨k, v, zs, u, ds, code, rfl, owns_base (own_put3 h.1 b (fun g hg => by have := (World.ownsRow.lt h.1 g hg).1; omega) _ _ _) (by omega), owns_base (own_put3 h.2.1 b (fun g hg => by have := (World.ownsRow.lt h.2.1 g hg).1; omega) _ _ _) (by omega), h.2.2.1, below_put3 hbw b hw _ _ _, h.2.2.2.up (by omega) (by simp)⟩
/-- The error of Make. -/
def mkErr (n : Bool) (xs : List Int) (m : Bool) (ys : List Int) : Int := if wboth n xs m ys = 0 then (if ys.length = 0 then 7 else 0) else wboth n xs m ys
end Go.Proofs.Ytjfclfoefoiniaa

/- The laws of layer 2: lives (two of the chapter's examples hold); the document's own made, Of. -/
namespace Go.Proofs.Ytjfclfoefoiniaa
open Go.RowKit
set_option linter.unusedVariables false

theorem wlim_big : (18446744073709551616 : Int) ≤ wlim := by
  have : (4294967296 : Int) ^ 2 ≤ 4294967296 ^ 2048 := pw_le (by omega)
  unfold wlim
  have e : (4294967296 : Int) ^ 2 = 18446744073709551616 := by decide
  rw [e] at this
  exact this
theorem WTells.num {t : Int} {n : Bool} {zs : List Int} {code : Int} (h : WTells 0 t n zs code) (h0 : -18446744073709551616 < t) (h1 : t < 18446744073709551616) : code = 0 ∧ wval n zs = t := by
  have := wlim_big
  exact h.good rfl (by omega) (by omega)
theorem wval_pos {n : Bool} {zs : List Int} (hw : Wd zs) (h : 0 < wval n zs) : n = false ∧ val zs = wval n zs := by
  have := val_nonneg hw
  cases n with
  | false => exact ⟨rfl, rfl⟩
  | true => have e : wval true zs = -(val zs) := rfl; omega

end Go.Proofs.Ytjfclfoefoiniaa

/- The document's own fractions: Of: a fraction of a sign and two sizes, in its one form. -/
namespace Go.Proofs.Ytjfclfoefoiniaa
open Go.RowKit
set_option linter.unusedVariables false

theorem rt_zero (n : Bool) (ys : List Int) : RTells 0 (Rat.divInt (sg n (val [])) (val ys)) false [] [1] 0 := by
  have e : Rat.divInt (sg n (val [])) (val ys) = Rat.divInt 0 1 := by cases n <;> simp [sg, val, valTo]
  rw [e]
  obtain ⟨e1, e2⟩ := fr_num (x := 0) (d := 1) (by omega) (by decide)
  have hk : rchk false [] [1] = 0 := rchk_good (by simp) (by simp) rfl rfl (by simp) (.inl rfl) (by decide)
  refine ⟨Wd.nil, Wd.one (by omega), fun h => absurd rfl h, fun _ hl => ?_, fun _ _ => ⟨rfl, hk, ?_⟩⟩
  · exfalso
    unfold rlong at hl
    rw [e1, e2] at hl
    have := wlim_big
    simp at hl
    omega
  · unfold rq
    rfl
theorem RTold.later {w W W' : World} {e : Int} {q : Rat} {x : Ending} (h : RTold w e q x W) (hb : Below W.heap.size W W') : RTold w e q x W' := by
  obtain ⟨n, v, xs, u, ys, code, rfl, o1, o2, t, hbw⟩ := h
  exact ⟨n, v, xs, u, ys, code, rfl, owns_later o1 hb, owns_later o2 hb, t, bt hbw hb⟩
theorem rt_rlong {n : Bool} {zs ds : List Int} (wz : Wd zs) (tz : Trimmed zs) (wd : Wd ds) (td : Trimmed ds) (hd : 0 < val ds) (hg : gcdI (val zs) (val ds) = 1) : rlong (Rat.divInt (sg n (val zs)) (val ds)) ↔ 2048 < max zs.length ds.length := by
  have hz0 := val_nonneg wz
  obtain ⟨e1, e2⟩ := fr_num (x := sg n (val zs)) hd (by rw [gcd_sg]; exact hg)
  unfold rlong
  rw [e1, e2, abs_sg n hz0, ← len2048 wz tz, ← len2048 wd td]
  omega
theorem rt_good {n : Bool} {zs ds : List Int} (wz : Wd zs) (tz : Trimmed zs) (wd : Wd ds) (td : Trimmed ds) (hz : 0 < zs.length) (hd : 0 < val ds) (hg : gcdI (val zs) (val ds) = 1) (l1 : zs.length ≤ 2048) (l2 : ds.length ≤ 2048) : RTells 0 (Rat.divInt (sg n (val zs)) (val ds)) n zs ds 0 := by
  have hl := rt_rlong (n := n) wz tz wd td hd hg
  have hd0 : 0 < ds.length := by
    by_cases c : 0 < ds.length
    · exact c
    · have := trimmed_zero' (us := ds) (by omega); omega
  exact ⟨wz, wd, fun h => absurd rfl h, fun _ h' => absurd (hl.1 h') (by omega), fun _ _ => ⟨rfl, rchk_good l1 l2 tz td hd0 (.inr hz) hg, rfl⟩⟩
theorem rt_long {n : Bool} {zs ds : List Int} (wz : Wd zs) (tz : Trimmed zs) (wd : Wd ds) (td : Trimmed ds) (hd : 0 < val ds) (hg : gcdI (val zs) (val ds) = 1) (h : 2048 < zs.length ∨ 2048 < ds.length) : RTells 0 (Rat.divInt (sg n (val zs)) (val ds)) false [] [] 3 := by
  have hl := rt_rlong (n := n) wz tz wd td hd hg
  exact ⟨Wd.nil, Wd.nil, fun h => absurd rfl h, fun _ _ => ⟨rfl, rfl, rfl, rfl⟩, fun _ h' => absurd (hl.2 (by omega)) h'⟩

set_option maxHeartbeats 3200000 in
set_option maxRecDepth 100000 in
theorem of3_any (n : Bool) (a : Option Addr) (ca : Nat) (xs : List Int) (b : Option Addr) (cb : Nat) (ys : List Int) (w : World) (h : Sl w (.slice a xs.length ca) xs) (g : Sl w (.slice b ys.length cb) ys) (lx : xs.length ≤ 8192) (ly : ys.length ≤ 8192) (tx : Trimmed xs) (ty : Trimmed ys) (h0 : 0 < ys.length) :
    Calls Try.prog 23 #[.bool n, .slice a xs.length ca, .slice b ys.length cb] w (RTold w 0 (Rat.divInt (sg n (val xs)) (val ys))) := by
  have wx := h.wd
  have wy := g.wd
  have HB : Hid (Below w.heap.size w (w.alloc (.cells #[.bool false, .slice none 0 0, .slice none 0 0] 27))) := alloc_later _ _
  have HZ : Hid (Box (w.alloc (.cells #[.bool false, .slice none 0 0, .slice none 0 0] 27)) w.heap.size 27 #[.bool false, .slice none 0 0, .slice none 0 0]) := Box.made w _ _
  have HLT : Hid (w.heap.size < (w.alloc (.cells #[.bool false, .slice none 0 0, .slice none 0 0] 27)).heap.size) := HZ.out.lt
  by_cases hx : xs.length = 0
  · obtain rfl : xs = [] := List.eq_nil_of_length_eq_zero hx
    obtain ⟨K, hK⟩ : ∃ K, K = ([] : List Int).length := ⟨_, rfl⟩
    have hK0 : ((K : Int) == 0) = true := by rw [hK]; rfl
    have HT := hid (rt_zero n ys)
    have HO := hid (one3_any (w.alloc (.cells #[.bool false, .slice none 0 0, .slice none 0 0] 27)))
    rw [← hK]
    obtain ⟨q, hq⟩ : ∃ q, q = Rat.divInt (sg n (val [])) (val ys) := ⟨_, rfl⟩
    rw [← hq] at HT ⊢
    clear hx hK h g hq
    go_enter Try.func23, Try.ntmps23
    go_wp2_with fail
    refine Calls.mono HO.out ?_
    generalize (w.alloc (.cells #[.bool false, .slice none 0 0, .slice none 0 0] 27)) = X at *
    rintro e w1 ⟨g1, rfl, o1, hb1⟩
    obtain ⟨y0, y1, y2, f0, f1, f2⟩ := res_box3 HZ.out hb1
    have HR : Hid (w1.ownsRow X.heap.size 53 1 (.slice none 0 0) ([] : List Int).length (([] : List Int).map (Value.int .u32)) ∧ w1.ownsRow X.heap.size 53 1 (.slice (some ⟨g1, 0, none⟩) 1 1) [(1 : Int)].length ([(1 : Int)].map (Value.int .u32)) ∧ RTells 0 q false [] [1] 0) := ⟨World.ownsRow_nil _ _ _ _, o1, HT.out⟩
    have HBW := hid (bt HB.out hb1)
    clear o1 hb1 HO
    go_wp2_with fail
    refine bodyPost_ret (v := .tuple #[.agg #[.bool false, .slice none 0 0, .slice (some ⟨g1, 0, none⟩) 1 1], .int .i64 0]) (by simp [results, Try.results23, go_sem, y0, y1, y2]) rfl ?_
    exact RTold.put HR.out w.heap.size HLT.out (Nat.le_refl _) HBW.out _ _ _
  · have hx' : ((xs.length : Int) == 0) = false := beq_eq_false_iff_ne.2 (by omega)
    have hz := both_good (chk_good lx tx) (chk_good ly ty)
    have HW := hid (gcd_wide wx wy hz)
    have HG := hid (refGcd_sl _ _ xs ys (w.alloc (.cells #[.bool false, .slice none 0 0, .slice none 0 0] 27)) (h.later HB.out) (g.later HB.out) (by omega) (by omega))
    rw [hz] at HG
    have HS := hid (And.intro (h.later HB.out) (g.later HB.out))
    have HPY : Hid (0 < val ys) := by have := val_pos' wy ty h0; show _ < _; omega
    have HPX : Hid (0 < val xs) := by have := val_pos' wx tx (by omega); show _ < _; omega
    have HMP := hid (make_parts (n := n) (m := false) (val_nonneg wx) HPY.out)
    have HGP : Hid (0 < gcdI (val xs) (val ys) ∧ gcdI (val xs) (val ys) ≤ val ys ∧ gcdI (val xs) (val ys) ≤ val xs) := ⟨gcd_pos_right HPY.out, gcd_le_right HPY.out, Int.le_of_dvd HPX.out (Int.gcd_dvd_left ..)⟩
    have hnf : (n != false) = n := by cases n <;> rfl
    rw [hnf] at HMP
    have HTT := hid (And.intro tx ty)
    have HWY := hid (And.intro wx wy)
    obtain ⟨q, hq⟩ : ∃ q, q = Rat.divInt (sg n (val xs)) (val ys) := ⟨_, rfl⟩
    rw [← hq]
    have HQ := hid hq
    clear hx hz h g hq hnf tx ty wx wy
    go_enter Try.func23, Try.ntmps23
    go_wp2_with fail
    refine Calls.mono HG.out ?_
    generalize (w.alloc (.cells #[.bool false, .slice none 0 0, .slice none 0 0] 27)) = X at *
    rintro e w1 ⟨v1, z1, c1, rfl, o1, t1, hb1⟩
    obtain ⟨rfl, hv1⟩ := t1.good rfl HW.out
    obtain ⟨a1, k1, hs1⟩ := own_slice' o1
    subst hs1
    have l1 : z1.length ≤ 8192 := by
      refine Nat.le_trans (len_of_lt t1.wd t1.trim (L := ys.length) ?_) ly
      rw [hv1]
      have := HGP.out
      have := val_lt HWY.out.2
      omega
    have p1 : 0 < z1.length := by
      by_cases c : 0 < z1.length
      · exact c
      · have := trimmed_zero' (us := z1) (by omega)
        have := HGP.out
        omega
    have HS1 := hid (Sl.own o1 t1.wd)
    have HO1 := hid (over3_any _ _ xs z1 w1 (HS.out.1.later hb1) HS1.out lx l1 HTT.out.1 t1.trim p1)
    have HO2 := hid (fun ww (hb : Below w1.heap.size w1 ww) => over3_any _ _ ys z1 ww ((HS.out.2.later hb1).later hb) (HS1.out.later hb) ly l1 HTT.out.2 t1.trim p1)
    rw [hv1] at HO1 HO2
    have HB1 := hid hb1
    clear o1 t1 hv1 hb1 HG
    go_wp2_with fail
    refine Calls.mono HO1.out ?_
    rintro e w2 ⟨v2, z2, rfl, o2, wd2, tr2, hv2, hb2⟩
    obtain ⟨a2, k2, hs2⟩ := own_slice' o2
    subst hs2
    have HC2 := hid (HO2.out w2 hb2)
    have HN2 := hid (And.intro (owns_base o2 HB1.out.size) (And.intro wd2 (And.intro tr2 hv2)))
    have HB2 := hid (bt HB1.out hb2)
    clear o2 wd2 tr2 hv2 hb2 HO1 HO2 HS1
    go_wp2_with fail
    refine Calls.mono HC2.out ?_
    rintro e w3 ⟨v3, z3, rfl, o3, wd3, tr3, hv3, hb3⟩
    obtain ⟨a3, k3, hs3⟩ := own_slice' o3
    subst hs3
    have HN3 := hid (And.intro (owns_later HN2.out.1 hb3) (And.intro (owns_base o3 HB2.out.size) (And.intro wd3 (And.intro tr3 hv3))))
    have HB3 := hid (bt HB2.out hb3)
    have HBR := hid (bt HB3.out (alloc_later w3 (.cells #[.bool n, .slice a2 z2.length k2, .slice a3 z3.length k3] 27)))
    obtain ⟨y0, y1, y2, f0, f1, f2⟩ := res_box3 HZ.out HB3.out
    have hlt : w.heap.size < w3.heap.size := Nat.lt_of_lt_of_le HLT.out HB3.out.size
    have HGZ : Hid (gcdI (val z2) (val z3) = 1 ∧ 0 < val z3 ∧ 0 < z2.length) := by
      refine ⟨by rw [HN2.out.2.2.2, hv3]; exact HMP.out.2.1, by rw [hv3]; exact HMP.out.1, ?_⟩
      by_cases c : 0 < z2.length
      · exact c
      · have e0 := trimmed_zero' (us := z2) (by omega)
        have e1 := HN2.out.2.2.2
        have e2 := HGP.out
        have e3 : 1 ≤ val xs / gcdI (val xs) (val ys) := Int.le_ediv_of_mul_le e2.1 (by omega)
        omega
    have HQQ : Hid (q = Rat.divInt (sg n (val z2)) (val z3)) := by
      show _ = _
      rw [HQ.out, HN2.out.2.2.2, hv3]
      exact HMP.out.2.2.symm
    clear o3 wd3 tr3 hv3 hb3 HC2
    by_cases hl2 : 2048 < z2.length
    · have hl2' : (2048 : Int) < (z2.length : Int) := by omega
      have HR : Hid (w3.ownsRow X.heap.size 53 1 (.slice none 0 0) ([] : List Int).length (([] : List Int).map (Value.int .u32)) ∧ w3.ownsRow X.heap.size 53 1 (.slice none 0 0) ([] : List Int).length (([] : List Int).map (Value.int .u32)) ∧ RTells 0 q false [] [] 3) := ⟨World.ownsRow_nil _ _ _ _, World.ownsRow_nil _ _ _ _, by rw [HQQ.out]; exact rt_long HN2.out.2.1 HN2.out.2.2.1 HN3.out.2.2.1 HN3.out.2.2.2.1 HGZ.out.2.1 HGZ.out.1 (.inl hl2)⟩
      clear hl2 HW HMP HGP HTT HWY HQ HS HPX HPY HN2 HN3 HGZ HQQ HBR l1 p1 lx ly h0
      go_wp2_with fail
      refine bodyPost_ret (v := .tuple #[.agg #[.bool false, .slice none 0 0, .slice none 0 0], .int .i64 3]) (by simp [results, Try.results23, go_sem, y0, y1, y2, hlt]) rfl ?_
      exact (RTold.put HR.out w.heap.size HLT.out (Nat.le_refl _) (bt HB.out HB3.out) _ _ _).later (alloc_later _ _)
    · have hl2' : ¬ (2048 : Int) < (z2.length : Int) := by omega
      by_cases hl3 : 2048 < z3.length
      · have hl3' : (2048 : Int) < (z3.length : Int) := by omega
        have HR : Hid (w3.ownsRow X.heap.size 53 1 (.slice none 0 0) ([] : List Int).length (([] : List Int).map (Value.int .u32)) ∧ w3.ownsRow X.heap.size 53 1 (.slice none 0 0) ([] : List Int).length (([] : List Int).map (Value.int .u32)) ∧ RTells 0 q false [] [] 3) := ⟨World.ownsRow_nil _ _ _ _, World.ownsRow_nil _ _ _ _, by rw [HQQ.out]; exact rt_long HN2.out.2.1 HN2.out.2.2.1 HN3.out.2.2.1 HN3.out.2.2.2.1 HGZ.out.2.1 HGZ.out.1 (.inr hl3)⟩
        clear hl2 hl3 HW HMP HGP HTT HWY HQ HS HPX HPY HN2 HN3 HGZ HQQ HBR l1 p1 lx ly h0
        go_wp2_with fail
        refine bodyPost_ret (v := .tuple #[.agg #[.bool false, .slice none 0 0, .slice none 0 0], .int .i64 3]) (by simp [results, Try.results23, go_sem, y0, y1, y2, hlt]) rfl ?_
        exact (RTold.put HR.out w.heap.size HLT.out (Nat.le_refl _) (bt HB.out HB3.out) _ _ _).later (alloc_later _ _)
      · have hl3' : ¬ (2048 : Int) < (z3.length : Int) := by omega
        have HR : Hid (w3.ownsRow X.heap.size 53 1 (.slice a2 z2.length k2) z2.length (z2.map (Value.int .u32)) ∧ w3.ownsRow X.heap.size 53 1 (.slice a3 z3.length k3) z3.length (z3.map (Value.int .u32)) ∧ RTells 0 q n z2 z3 0) := ⟨HN3.out.1, HN3.out.2.1, by rw [HQQ.out]; exact rt_good HN2.out.2.1 HN2.out.2.2.1 HN3.out.2.2.1 HN3.out.2.2.2.1 HGZ.out.2.2 HGZ.out.2.1 HGZ.out.1 (by omega) (by omega)⟩
        clear hl2 hl3 HW HMP HGP HTT HWY HQ HS HPX HPY HN2 HN3 HGZ HQQ HBR l1 p1 lx ly h0
        go_wp2_with fail
        refine bodyPost_ret (v := .tuple #[.agg #[.bool n, .slice a2 z2.length k2, .slice a3 z3.length k3], .int .i64 0]) (by simp [results, Try.results23, go_sem, y0, y1, y2, hlt]) rfl ?_
        exact (RTold.put HR.out w.heap.size HLT.out (Nat.le_refl _) (bt HB.out HB3.out) _ _ _).later (alloc_later _ _)
end Go.Proofs.Ytjfclfoefoiniaa

/- Fractions: ratio.Make, ratio.Small. -/
namespace Go.Proofs.Ytjfclfoefoiniaa
open Go.RowKit
set_option linter.unusedVariables false

set_option maxHeartbeats 3200000 in
set_option maxRecDepth 100000 in
theorem rmake_e1 (n : Bool) (a : Option Addr) (ca : Nat) (xs : List Int) (m : Bool) (b : Option Addr) (cb : Nat) (ys : List Int) (w : World) (h : Sl w (.slice a xs.length ca) xs) (g : Sl w (.slice b ys.length cb) ys) (lx : xs.length ≤ 281474976710656) (ly : ys.length ≤ 281474976710656) (hx : wchk n xs ≠ 0) (q : Rat) :
    Calls Try.prog 6 #[.agg #[.bool n, .slice a xs.length ca], .agg #[.bool m, .slice b ys.length cb]] w (RToldA w (wchk n xs) q) := by
  have HB : Hid (Below w.heap.size w (((w.alloc (.cells #[.bool n, .slice a xs.length ca] 24)).alloc (.cells #[.bool m, .slice b ys.length cb] 24)).alloc (.cells #[.bool false, .slice none 0 0, .slice none 0 0] 27))) := bt (bt (alloc_later _ _) (alloc_later _ _)) (alloc_later _ _)
  have HZ : Hid (Box (((w.alloc (.cells #[.bool n, .slice a xs.length ca] 24)).alloc (.cells #[.bool m, .slice b ys.length cb] 24)).alloc (.cells #[.bool false, .slice none 0 0, .slice none 0 0] 27)) (w.heap.size + 1 + 1) 27 #[.bool false, .slice none 0 0, .slice none 0 0]) := by
    have e := Box.made ((w.alloc (.cells #[.bool n, .slice a xs.length ca] 24)).alloc (.cells #[.bool m, .slice b ys.length cb] 24)) 27 #[.bool false, .slice none 0 0, .slice none 0 0]
    simp at e
    exact e
  have HN : Hid (Box (((w.alloc (.cells #[.bool n, .slice a xs.length ca] 24)).alloc (.cells #[.bool m, .slice b ys.length cb] 24)).alloc (.cells #[.bool false, .slice none 0 0, .slice none 0 0] 27)) w.heap.size 24 #[.bool n, .slice a xs.length ca]) := Box.later (Box.later (Box.made w _ _) (alloc_later _ _) (by simp)) (alloc_later _ _) (by simp; omega)
  have HM : Hid (Box (((w.alloc (.cells #[.bool n, .slice a xs.length ca] 24)).alloc (.cells #[.bool m, .slice b ys.length cb] 24)).alloc (.cells #[.bool false, .slice none 0 0, .slice none 0 0] 27)) (w.heap.size + 1) 24 #[.bool m, .slice b ys.length cb]) := by
    have e := Box.later (Box.made (w.alloc (.cells #[.bool n, .slice a xs.length ca] 24)) 24 #[.bool m, .slice b ys.length cb]) (alloc_later ((w.alloc (.cells #[.bool n, .slice a xs.length ca] 24)).alloc (.cells #[.bool m, .slice b ys.length cb] 24)) (.cells #[.bool false, .slice none 0 0, .slice none 0 0] 27)) (by simp)
    simp at e
    exact e
  have HS := hid (And.intro (h.later HB.out) (g.later HB.out))
  have HXS : Hid (w.heap.size + 1 + 1 < (((w.alloc (.cells #[.bool n, .slice a xs.length ca] 24)).alloc (.cells #[.bool m, .slice b ys.length cb] 24)).alloc (.cells #[.bool false, .slice none 0 0, .slice none 0 0] 27)).heap.size) := HZ.out.lt
  have HC1 := hid (wcheck_any n _ xs _ HS.out.1 lx)
  obtain ⟨e1, he1⟩ : ∃ e1, wchk n xs = e1 := ⟨_, rfl⟩
  rw [he1] at HC1 hx ⊢
  have hx' : (e1 == 0) = false := beq_eq_false_iff_ne.2 hx
  have HE := hid hx
  clear he1 hx
  clear h g
  go_enter Try.func6, Try.ntmps6
  go_wp2_with fail
  refine Calls.mono HC1.out ?_
  generalize (((w.alloc (.cells #[.bool n, .slice a xs.length ca] 24)).alloc (.cells #[.bool m, .slice b ys.length cb] 24)).alloc (.cells #[.bool false, .slice none 0 0, .slice none 0 0] 27)) = X at *
  rintro e w1 ⟨rfl, hb1⟩
  have HB1 := hid hb1
  clear hb1 HC1
  obtain ⟨y0, y1, y2, f0, f1, f2⟩ := res_box3 HZ.out HB1.out
  have HBN := hid (below_put3 (bt HB.out HB1.out) (w.heap.size + 1 + 1) (by omega) (.bool false) (.slice none 0 0) (.slice none 0 0))
  clear HN HM HZ HS
  go_wp2_with fail
  refine bodyPost_ret (v := .tuple #[.agg #[.bool false, .slice none 0 0, .slice none 0 0], .int .i64 e1]) (by simp [results, Try.results6, go_sem, y0, y1, y2]) rfl ?_
  exact ⟨false, _, [], _, [], _, rfl, World.ownsRow_nil _ _ _ _, World.ownsRow_nil _ _ _ _, RTells.err HE.out, HBN.out, ⟨w.heap.size, Nat.le_refl _, HBN.out.size, fun g hg => by simp [Value.ownBlock] at hg, fun g hg => by simp [Value.ownBlock] at hg⟩⟩

set_option maxHeartbeats 3200000 in
set_option maxRecDepth 100000 in
theorem rmake_e2 (n : Bool) (a : Option Addr) (ca : Nat) (xs : List Int) (m : Bool) (b : Option Addr) (cb : Nat) (ys : List Int) (w : World) (h : Sl w (.slice a xs.length ca) xs) (g : Sl w (.slice b ys.length cb) ys) (lx : xs.length ≤ 281474976710656) (ly : ys.length ≤ 281474976710656) (hx : wchk n xs = 0) (hy : wchk m ys ≠ 0) (q : Rat) :
    Calls Try.prog 6 #[.agg #[.bool n, .slice a xs.length ca], .agg #[.bool m, .slice b ys.length cb]] w (RToldA w (wchk m ys) q) := by
  have HB : Hid (Below w.heap.size w (((w.alloc (.cells #[.bool n, .slice a xs.length ca] 24)).alloc (.cells #[.bool m, .slice b ys.length cb] 24)).alloc (.cells #[.bool false, .slice none 0 0, .slice none 0 0] 27))) := bt (bt (alloc_later _ _) (alloc_later _ _)) (alloc_later _ _)
  have HZ : Hid (Box (((w.alloc (.cells #[.bool n, .slice a xs.length ca] 24)).alloc (.cells #[.bool m, .slice b ys.length cb] 24)).alloc (.cells #[.bool false, .slice none 0 0, .slice none 0 0] 27)) (w.heap.size + 1 + 1) 27 #[.bool false, .slice none 0 0, .slice none 0 0]) := by
    have e := Box.made ((w.alloc (.cells #[.bool n, .slice a xs.length ca] 24)).alloc (.cells #[.bool m, .slice b ys.length cb] 24)) 27 #[.bool false, .slice none 0 0, .slice none 0 0]
    simp at e
    exact e
  have HN : Hid (Box (((w.alloc (.cells #[.bool n, .slice a xs.length ca] 24)).alloc (.cells #[.bool m, .slice b ys.length cb] 24)).alloc (.cells #[.bool false, .slice none 0 0, .slice none 0 0] 27)) w.heap.size 24 #[.bool n, .slice a xs.length ca]) := Box.later (Box.later (Box.made w _ _) (alloc_later _ _) (by simp)) (alloc_later _ _) (by simp; omega)
  have HM : Hid (Box (((w.alloc (.cells #[.bool n, .slice a xs.length ca] 24)).alloc (.cells #[.bool m, .slice b ys.length cb] 24)).alloc (.cells #[.bool false, .slice none 0 0, .slice none 0 0] 27)) (w.heap.size + 1) 24 #[.bool m, .slice b ys.length cb]) := by
    have e := Box.later (Box.made (w.alloc (.cells #[.bool n, .slice a xs.length ca] 24)) 24 #[.bool m, .slice b ys.length cb]) (alloc_later ((w.alloc (.cells #[.bool n, .slice a xs.length ca] 24)).alloc (.cells #[.bool m, .slice b ys.length cb] 24)) (.cells #[.bool false, .slice none 0 0, .slice none 0 0] 27)) (by simp)
    simp at e
    exact e
  have HS := hid (And.intro (h.later HB.out) (g.later HB.out))
  have HXS : Hid (w.heap.size + 1 + 1 < (((w.alloc (.cells #[.bool n, .slice a xs.length ca] 24)).alloc (.cells #[.bool m, .slice b ys.length cb] 24)).alloc (.cells #[.bool false, .slice none 0 0, .slice none 0 0] 27)).heap.size) := HZ.out.lt
  have HC1 := hid (wcheck_any n _ xs _ HS.out.1 lx)
  rw [hx] at HC1
  obtain ⟨e1, he1⟩ : ∃ e1, wchk m ys = e1 := ⟨_, rfl⟩
  have HC2 := hid (fun ww (hb : Below _ (((w.alloc (.cells #[.bool n, .slice a xs.length ca] 24)).alloc (.cells #[.bool m, .slice b ys.length cb] 24)).alloc (.cells #[.bool false, .slice none 0 0, .slice none 0 0] 27)) ww) => wcheck_any m _ ys ww (HS.out.2.later hb) ly)
  rw [he1] at HC2 hy ⊢
  have hy' : (e1 == 0) = false := beq_eq_false_iff_ne.2 hy
  have HE := hid hy
  clear he1 hy hx
  clear h g
  go_enter Try.func6, Try.ntmps6
  go_wp2_with fail
  refine Calls.mono HC1.out ?_
  generalize (((w.alloc (.cells #[.bool n, .slice a xs.length ca] 24)).alloc (.cells #[.bool m, .slice b ys.length cb] 24)).alloc (.cells #[.bool false, .slice none 0 0, .slice none 0 0] 27)) = X at *
  rintro e w1 ⟨rfl, hb1⟩
  have HB1 := hid hb1
  clear hb1 HC1
  have HC := hid (HC2.out w1 HB1.out)
  obtain ⟨q0, q1, _, _⟩ := (HM.out.later HB1.out HM.out.lt).c2
  clear HC2
  go_wp2_with fail
  refine Calls.mono HC.out ?_
  rintro e w2 ⟨rfl, hb2⟩
  have HB2 := hid (bt HB1.out hb2)
  clear hb2 HC q0 q1
  obtain ⟨y0, y1, y2, f0, f1, f2⟩ := res_box3 HZ.out HB2.out
  have HBN := hid (below_put3 (bt HB.out HB2.out) (w.heap.size + 1 + 1) (by omega) (.bool false) (.slice none 0 0) (.slice none 0 0))
  clear HN HM HZ HS
  go_wp2_with fail
  refine bodyPost_ret (v := .tuple #[.agg #[.bool false, .slice none 0 0, .slice none 0 0], .int .i64 e1]) (by simp [results, Try.results6, go_sem, y0, y1, y2]) rfl ?_
  exact ⟨false, _, [], _, [], _, rfl, World.ownsRow_nil _ _ _ _, World.ownsRow_nil _ _ _ _, RTells.err HE.out, HBN.out, ⟨w.heap.size, Nat.le_refl _, HBN.out.size, fun g hg => by simp [Value.ownBlock] at hg, fun g hg => by simp [Value.ownBlock] at hg⟩⟩

set_option maxHeartbeats 3200000 in
set_option maxRecDepth 100000 in
theorem rmake_z (n : Bool) (a : Option Addr) (ca : Nat) (xs : List Int) (m : Bool) (b : Option Addr) (cb : Nat) (ys : List Int) (w : World) (h : Sl w (.slice a xs.length ca) xs) (g : Sl w (.slice b ys.length cb) ys) (lx : xs.length ≤ 281474976710656) (ly : ys.length ≤ 281474976710656) (hx : wchk n xs = 0) (hy : wchk m ys = 0) (h0 : ys.length = 0) (q : Rat) :
    Calls Try.prog 6 #[.agg #[.bool n, .slice a xs.length ca], .agg #[.bool m, .slice b ys.length cb]] w (RToldA w 7 q) := by
  have HB : Hid (Below w.heap.size w (((w.alloc (.cells #[.bool n, .slice a xs.length ca] 24)).alloc (.cells #[.bool m, .slice b ys.length cb] 24)).alloc (.cells #[.bool false, .slice none 0 0, .slice none 0 0] 27))) := bt (bt (alloc_later _ _) (alloc_later _ _)) (alloc_later _ _)
  have HZ : Hid (Box (((w.alloc (.cells #[.bool n, .slice a xs.length ca] 24)).alloc (.cells #[.bool m, .slice b ys.length cb] 24)).alloc (.cells #[.bool false, .slice none 0 0, .slice none 0 0] 27)) (w.heap.size + 1 + 1) 27 #[.bool false, .slice none 0 0, .slice none 0 0]) := by
    have e := Box.made ((w.alloc (.cells #[.bool n, .slice a xs.length ca] 24)).alloc (.cells #[.bool m, .slice b ys.length cb] 24)) 27 #[.bool false, .slice none 0 0, .slice none 0 0]
    simp at e
    exact e
  have HN : Hid (Box (((w.alloc (.cells #[.bool n, .slice a xs.length ca] 24)).alloc (.cells #[.bool m, .slice b ys.length cb] 24)).alloc (.cells #[.bool false, .slice none 0 0, .slice none 0 0] 27)) w.heap.size 24 #[.bool n, .slice a xs.length ca]) := Box.later (Box.later (Box.made w _ _) (alloc_later _ _) (by simp)) (alloc_later _ _) (by simp; omega)
  have HM : Hid (Box (((w.alloc (.cells #[.bool n, .slice a xs.length ca] 24)).alloc (.cells #[.bool m, .slice b ys.length cb] 24)).alloc (.cells #[.bool false, .slice none 0 0, .slice none 0 0] 27)) (w.heap.size + 1) 24 #[.bool m, .slice b ys.length cb]) := by
    have e := Box.later (Box.made (w.alloc (.cells #[.bool n, .slice a xs.length ca] 24)) 24 #[.bool m, .slice b ys.length cb]) (alloc_later ((w.alloc (.cells #[.bool n, .slice a xs.length ca] 24)).alloc (.cells #[.bool m, .slice b ys.length cb] 24)) (.cells #[.bool false, .slice none 0 0, .slice none 0 0] 27)) (by simp)
    simp at e
    exact e
  have HS := hid (And.intro (h.later HB.out) (g.later HB.out))
  have HXS : Hid (w.heap.size + 1 + 1 < (((w.alloc (.cells #[.bool n, .slice a xs.length ca] 24)).alloc (.cells #[.bool m, .slice b ys.length cb] 24)).alloc (.cells #[.bool false, .slice none 0 0, .slice none 0 0] 27)).heap.size) := HZ.out.lt
  have HC1 := hid (wcheck_any n _ xs _ HS.out.1 lx)
  rw [hx] at HC1
  have HC2 := hid (fun ww (hb : Below _ (((w.alloc (.cells #[.bool n, .slice a xs.length ca] 24)).alloc (.cells #[.bool m, .slice b ys.length cb] 24)).alloc (.cells #[.bool false, .slice none 0 0, .slice none 0 0] 27)) ww) => wcheck_any m _ ys ww (HS.out.2.later hb) ly)
  rw [hy] at HC2
  have h0' : ((ys.length : Int) == 0) = true := by rw [h0]; rfl
  have HE : Hid ((7 : Int) ≠ 0) := by show _ ≠ _; omega
  clear hx hy h0
  clear h g
  go_enter Try.func6, Try.ntmps6
  go_wp2_with fail
  refine Calls.mono HC1.out ?_
  generalize (((w.alloc (.cells #[.bool n, .slice a xs.length ca] 24)).alloc (.cells #[.bool m, .slice b ys.length cb] 24)).alloc (.cells #[.bool false, .slice none 0 0, .slice none 0 0] 27)) = X at *
  rintro e w1 ⟨rfl, hb1⟩
  have HB1 := hid hb1
  clear hb1 HC1
  have HC := hid (HC2.out w1 HB1.out)
  obtain ⟨q0, q1, _, _⟩ := (HM.out.later HB1.out HM.out.lt).c2
  clear HC2
  go_wp2_with fail
  refine Calls.mono HC.out ?_
  rintro e w2 ⟨rfl, hb2⟩
  have HB2 := hid (bt HB1.out hb2)
  clear hb2 HC q0 q1
  obtain ⟨q0, q1, _, _⟩ := (HM.out.later HB2.out HM.out.lt).c2
  obtain ⟨y0, y1, y2, f0, f1, f2⟩ := res_box3 HZ.out HB2.out
  have HBN := hid (below_put3 (bt HB.out HB2.out) (w.heap.size + 1 + 1) (by omega) (.bool false) (.slice none 0 0) (.slice none 0 0))
  clear HN HM HZ HS
  go_wp2_with fail
  refine bodyPost_ret (v := .tuple #[.agg #[.bool false, .slice none 0 0, .slice none 0 0], .int .i64 7]) (by simp [results, Try.results6, go_sem, y0, y1, y2]) rfl ?_
  exact ⟨false, _, [], _, [], _, rfl, World.ownsRow_nil _ _ _ _, World.ownsRow_nil _ _ _ _, RTells.err HE.out, HBN.out, ⟨w.heap.size, Nat.le_refl _, HBN.out.size, fun g hg => by simp [Value.ownBlock] at hg, fun g hg => by simp [Value.ownBlock] at hg⟩⟩

set_option maxHeartbeats 6400000 in
set_option maxRecDepth 100000 in
theorem rmake_ok (n : Bool) (a : Option Addr) (ca : Nat) (xs : List Int) (m : Bool) (b : Option Addr) (cb : Nat) (ys : List Int) (w : World) (h : Sl w (.slice a xs.length ca) xs) (g : Sl w (.slice b ys.length cb) ys) (lx : xs.length ≤ 281474976710656) (ly : ys.length ≤ 281474976710656) (hx : wchk n xs = 0) (hy : wchk m ys = 0) (h0 : 0 < ys.length) :
    Calls Try.prog 6 #[.agg #[.bool n, .slice a xs.length ca], .agg #[.bool m, .slice b ys.length cb]] w (RToldA w 0 (Rat.divInt (wval n xs) (wval m ys))) := by
  obtain ⟨kx, tx, _⟩ := wchk_ok hx
  obtain ⟨ky, ty, _⟩ := wchk_ok hy
  have wx := h.wd
  have wy := g.wd
  have HB : Hid (Below w.heap.size w (((w.alloc (.cells #[.bool n, .slice a xs.length ca] 24)).alloc (.cells #[.bool m, .slice b ys.length cb] 24)).alloc (.cells #[.bool false, .slice none 0 0, .slice none 0 0] 27))) := bt (bt (alloc_later _ _) (alloc_later _ _)) (alloc_later _ _)
  have HZ : Hid (Box (((w.alloc (.cells #[.bool n, .slice a xs.length ca] 24)).alloc (.cells #[.bool m, .slice b ys.length cb] 24)).alloc (.cells #[.bool false, .slice none 0 0, .slice none 0 0] 27)) (w.heap.size + 1 + 1) 27 #[.bool false, .slice none 0 0, .slice none 0 0]) := by
    have e := Box.made ((w.alloc (.cells #[.bool n, .slice a xs.length ca] 24)).alloc (.cells #[.bool m, .slice b ys.length cb] 24)) 27 #[.bool false, .slice none 0 0, .slice none 0 0]
    simp at e
    exact e
  have HN : Hid (Box (((w.alloc (.cells #[.bool n, .slice a xs.length ca] 24)).alloc (.cells #[.bool m, .slice b ys.length cb] 24)).alloc (.cells #[.bool false, .slice none 0 0, .slice none 0 0] 27)) w.heap.size 24 #[.bool n, .slice a xs.length ca]) := Box.later (Box.later (Box.made w _ _) (alloc_later _ _) (by simp)) (alloc_later _ _) (by simp; omega)
  have HM : Hid (Box (((w.alloc (.cells #[.bool n, .slice a xs.length ca] 24)).alloc (.cells #[.bool m, .slice b ys.length cb] 24)).alloc (.cells #[.bool false, .slice none 0 0, .slice none 0 0] 27)) (w.heap.size + 1) 24 #[.bool m, .slice b ys.length cb]) := by
    have e := Box.later (Box.made (w.alloc (.cells #[.bool n, .slice a xs.length ca] 24)) 24 #[.bool m, .slice b ys.length cb]) (alloc_later ((w.alloc (.cells #[.bool n, .slice a xs.length ca] 24)).alloc (.cells #[.bool m, .slice b ys.length cb] 24)) (.cells #[.bool false, .slice none 0 0, .slice none 0 0] 27)) (by simp)
    simp at e
    exact e
  have HS := hid (And.intro (h.later HB.out) (g.later HB.out))
  have HXS : Hid (w.heap.size + 1 + 1 < (((w.alloc (.cells #[.bool n, .slice a xs.length ca] 24)).alloc (.cells #[.bool m, .slice b ys.length cb] 24)).alloc (.cells #[.bool false, .slice none 0 0, .slice none 0 0] 27)).heap.size) := HZ.out.lt
  have HC1 := hid (wcheck_any n _ xs _ HS.out.1 lx)
  rw [hx] at HC1
  have HC2 := hid (fun ww (hb : Below _ (((w.alloc (.cells #[.bool n, .slice a xs.length ca] 24)).alloc (.cells #[.bool m, .slice b ys.length cb] 24)).alloc (.cells #[.bool false, .slice none 0 0, .slice none 0 0] 27)) ww) => wcheck_any m _ ys ww (HS.out.2.later hb) ly)
  rw [hy] at HC2
  have h0' : ((ys.length : Int) == 0) = false := beq_eq_false_iff_ne.2 (by omega)
  have HPY : Hid (0 < val ys) := by have := val_pos' wy ty h0; show _ < _; omega
  have HG : Hid (0 < gcdI (val xs) (val ys) ∧ gcdI (val xs) (val ys) ≤ val ys ∧ val ys < 4294967296 ^ 2048) := ⟨gcd_pos_right HPY.out, gcd_le_right HPY.out, below2048 wy ky⟩
  have HMP := hid (make_parts (n := n) (m := m) (val_nonneg wx) HPY.out)
  have HTT := hid (And.intro tx ty)
  obtain ⟨s, hs⟩ : ∃ s, (!(n == m)) = s := ⟨_, rfl⟩
  have HSG := hid (show (n != m) = s from hs)
  clear h g hx hy h0 tx ty
  go_enter Try.func6, Try.ntmps6
  go_wp2_with fail
  refine Calls.mono HC1.out ?_
  generalize (((w.alloc (.cells #[.bool n, .slice a xs.length ca] 24)).alloc (.cells #[.bool m, .slice b ys.length cb] 24)).alloc (.cells #[.bool false, .slice none 0 0, .slice none 0 0] 27)) = X at *
  rintro e w1 ⟨rfl, hb1⟩
  have HB1 := hid hb1
  clear hb1 HC1
  have HC := hid (HC2.out w1 HB1.out)
  obtain ⟨q0, q1, _, _⟩ := (HM.out.later HB1.out HM.out.lt).c2
  clear HC2
  go_wp2_with fail
  refine Calls.mono HC.out ?_
  rintro e w2 ⟨rfl, hb2⟩
  have HB2 := hid (bt HB1.out hb2)
  clear hb2 HC q0 q1
  have HK : Hid (∀ V, Below X.heap.size X V → V.cell? ⟨w.heap.size, 0, none⟩ = some (.bool n) ∧ V.cell? ⟨w.heap.size, 1, none⟩ = some (.slice a xs.length ca) ∧ V.cell? ⟨w.heap.size + 1, 0, none⟩ = some (.bool m) ∧ V.cell? ⟨w.heap.size + 1, 1, none⟩ = some (.slice b ys.length cb)) := fun V hb => by
    obtain ⟨p0, p1, _, _⟩ := (HN.out.later hb HN.out.lt).c2
    obtain ⟨q0, q1, _, _⟩ := (HM.out.later hb HM.out.lt).c2
    exact ⟨p0, p1, q0, q1⟩
  have HCM := hid (told1_at _ HK.out w2 HB2.out (rcommon_any _ _ xs ys w2 (HS.out.1.later HB2.out) (HS.out.2.later HB2.out) (by omega) (by omega) HTT.out.1 HTT.out.2))
  obtain ⟨p0, p1, q0, q1⟩ := HK.out w2 HB2.out
  go_wp2_with fail
  refine Calls.mono HCM.out ?_
  rintro e w3 ⟨a3, z3, c3, rfl, HE3, _, hb3, HS3⟩
  have hb3d := hb3.drew
  have HO3 := hid (HE3.out.later (Below.drew (Below.refl _ w3)))
  clear HCM HE3 HS3 p0 p1 q0 q1
  have hs0 := HK.out _ hb3d
  have HQX := hid (fun ww (hv' : Below X.heap.size X ww) (h : One X ww (.slice a3 z3.length c3) z3 (gcdI (val xs) (val ys))) => quot_in _ HK.out hv' (HS.out.1.later hv') (by omega) HTT.out.1 h HG.out.1 (by have := HG.out; omega))
  have HQY := hid (fun ww (hv' : Below X.heap.size X ww) (h : One X ww (.slice a3 z3.length c3) z3 (gcdI (val xs) (val ys))) => quot_in _ HK.out hv' (HS.out.2.later hv') (by omega) HTT.out.2 h HG.out.1 (by have := HG.out; omega))
  have HTL := hid (fun (ww : World) (hb : Below X.heap.size X ww) (a4 : Option Addr) (z4 : List Int) (c4 : Nat) (a5 : Option Addr) (z5 : List Int) (c5 : Nat) (g1 : One X ww (.slice a4 z4.length c4) z4 (val xs / gcdI (val xs) (val ys))) (g2 : One X ww (.slice a5 z5.length c5) z5 (val ys / gcdI (val xs) (val ys))) (hc : Cut X (.slice a4 z4.length c4) (.slice a5 z5.length c5) ww) => rtold_cut (n := s) (q := Rat.divInt (wval n xs) (wval m ys)) _ HK.out hb g1 g2 hc HMP.out.1 HMP.out.2.1 (by rw [← HSG.out]; exact HMP.out.2.2))
  have hq0 : w.heap.size + 1 + 1 ≠ w.heap.size := by omega
  have hq1 : w.heap.size + 1 + 1 ≠ w.heap.size + 1 := by omega
  clear HTT HG HPY
  go_wp2_with fail
  go_region_held3 (fun V : World => V.cell? ⟨w.heap.size, 0, none⟩ = some (.bool n) ∧ V.cell? ⟨w.heap.size, 1, none⟩ = some (.slice a xs.length ca) ∧ V.cell? ⟨w.heap.size + 1, 0, none⟩ = some (.bool m) ∧ V.cell? ⟨w.heap.size + 1, 1, none⟩ = some (.slice b ys.length cb)) (first | exact hs9 | exact hs5 | exact hs4 | exact hs0 | (simp [hs9, World.cell?_setCell_far, hq0]))
    (first
      | (go_at_call 20; with_reducible refine Calls.mono (HTL.out _ hb5 _ _ _ _ _ _ (HE4.out.1.later HS5.out) HE5.out.1 (cut_two hb3d.size HS4.out.size HS5.out.size HE4.out.2 HE5.out.2)) ?_; rintro e w9 ⟨k9, a8, z8, c8, a9, z9, c9, code, rfl, HE9, hs9, hb9⟩; obtain ⟨y0, y1, y2, f0, f1, f2⟩ := res_box3 HZ.out hb9)
      | (go_at_call 21; with_reducible refine Calls.mono (HQY.out _ hb4 (HO3.out.later HS4.out)) ?_; rintro e w5 ⟨a5, z5, c5, rfl, HE5, hs5, hb5, HS5⟩)
      | (go_at_call 21; with_reducible refine Calls.mono (HQX.out _ hb3d HO3.out) ?_; rintro e w4 ⟨a4, z4, c4, rfl, HE4, hs4, hb4, HS4⟩))
  all_goals
    have HBW := hid (bt HB.out hb9)
    have HR := hid HE9.out
    clear HK HQX HQY HTL HE4 HE5 HE9 HS4 HS5 HO3 hs0 hs4 hs5 hs9 hb3 hb3d hb4 hb5 hb9 HMP HSG
    go_wp2_with fail
    refine bodyPost_ret (v := .tuple #[.agg #[.bool k9, .slice a8 z8.length c8, .slice a9 z9.length c9], .int .i64 code]) (by simp [results, Try.results6, go_sem, y0, y1, y2]) rfl ?_
    exact RToldA.put HR.out (w.heap.size + 1 + 1) HXS.out (by omega) HBW.out _ _ _

theorem rmake_any (n : Bool) (a : Option Addr) (ca : Nat) (xs : List Int) (m : Bool) (b : Option Addr) (cb : Nat) (ys : List Int) (w : World) (h : Sl w (.slice a xs.length ca) xs) (g : Sl w (.slice b ys.length cb) ys) (lx : xs.length ≤ 281474976710656) (ly : ys.length ≤ 281474976710656) :
    Calls Try.prog 6 #[.agg #[.bool n, .slice a xs.length ca], .agg #[.bool m, .slice b ys.length cb]] w (RToldA w (mkErr n xs m ys) (Rat.divInt (wval n xs) (wval m ys))) := by
  unfold mkErr
  by_cases hb : wboth n xs m ys = 0
  · obtain ⟨hx, hy⟩ := wboth_ok hb
    rw [if_pos hb]
    by_cases h0 : ys.length = 0
    · rw [if_pos h0]
      exact rmake_z n a ca xs m b cb ys w h g lx ly hx hy h0 _
    · rw [if_neg h0]
      exact rmake_ok n a ca xs m b cb ys w h g lx ly hx hy (by omega)
  · rw [if_neg hb]
    unfold wboth at hb ⊢
    by_cases hx : wchk n xs = 0
    · rw [if_pos hx] at hb ⊢
      exact rmake_e2 n a ca xs m b cb ys w h g lx ly hx hb _
    · rw [if_neg hx]
      exact rmake_e1 n a ca xs m b cb ys w h g lx ly hx _
end Go.Proofs.Ytjfclfoefoiniaa

/- Fractions: ratio.Small. -/
namespace Go.Proofs.Ytjfclfoefoiniaa
open Go.RowKit
set_option linter.unusedVariables false

theorem small_err {n m : Bool} {zs us : List Int} {y : Int} (l1 : zs.length ≤ 2) (t1 : Trimmed zs) (s1 : n = false ∨ 0 < zs.length) (w2 : Wd us) (l2 : us.length ≤ 2) (t2 : Trimmed us) (s2 : m = false ∨ 0 < us.length) (v2 : wval m us = y) : mkErr n zs m us = if y = 0 then 7 else 0 := by
  unfold mkErr
  rw [wboth_good (wchk_good (by omega) t1 s1) (wchk_good (by omega) t2 s2), if_pos rfl]
  by_cases c : us.length = 0
  · have e0 : val us = 0 := trimmed_zero' c
    have : y = 0 := by rw [← v2]; cases m <;> simp [wval, e0]
    rw [if_pos c, if_pos this]
  · have e0 := val_pos' w2 t2 (by omega)
    have : ¬ y = 0 := by rw [← v2]; cases m <;> simp [wval] <;> omega
    rw [if_neg c, if_neg this]

set_option maxHeartbeats 1600000 in
set_option maxRecDepth 100000 in
theorem rsmall_any (x y : Int) (w : World) (x0 : -9223372036854775808 ≤ x) (x1 : x ≤ 9223372036854775807) (y0 : -9223372036854775808 ≤ y) (y1 : y ≤ 9223372036854775807) :
    Calls Try.prog 8 #[.int .i64 x, .int .i64 y] w (RToldA w (if y = 0 then 7 else 0) (Rat.divInt x y)) := by
  have HB : Hid (Below w.heap.size w (w.alloc (.cells #[.bool false, .slice none 0 0, .slice none 0 0] 27))) := alloc_later _ _
  have HZ : Hid (Box (w.alloc (.cells #[.bool false, .slice none 0 0, .slice none 0 0] 27)) w.heap.size 27 #[.bool false, .slice none 0 0, .slice none 0 0]) := Box.made w _ _
  have HO1 := hid (wof_any x (w.alloc (.cells #[.bool false, .slice none 0 0, .slice none 0 0] 27)) x0 x1)
  obtain ⟨E, hE⟩ : ∃ E : Int, (if y = 0 then (7 : Int) else 0) = E := ⟨_, rfl⟩
  rw [hE]
  have HE := hid hE
  clear hE
  go_enter Try.func8, Try.ntmps8
  go_wp2_with fail
  refine Calls.mono HO1.out ?_
  generalize (w.alloc (.cells #[.bool false, .slice none 0 0, .slice none 0 0] 27)) = X at *
  rintro e w1 ⟨n1, v1, z1, rfl, o1, wd1, t1, l1, s1, hv1, hb1⟩
  obtain ⟨a1, c1, hs1⟩ := own_slice' o1
  subst hs1
  have HO2 := hid (wof_any y w1 y0 y1)
  have HS1 := hid (Sl.own o1 wd1)
  have HV1 := hid (And.intro t1 (And.intro s1 hv1))
  have HB1 := hid hb1
  clear o1 wd1 t1 s1 hv1 hb1 HO1
  go_wp2_with fail
  refine Calls.mono HO2.out ?_
  rintro e w2 ⟨n2, v2, z2, rfl, o2, wd2, t2, l2, s2, hv2, hb2⟩
  obtain ⟨a2, c2, hs2⟩ := own_slice' o2
  subst hs2
  have HM := hid (rmake_any n1 a1 c1 z1 n2 a2 c2 z2 w2 (HS1.out.later hb2) (Sl.own o2 wd2) (by omega) (by omega))
  rw [small_err l1 HV1.out.1 HV1.out.2.1 wd2 l2 t2 s2 hv2, HE.out, HV1.out.2.2, hv2] at HM
  have HB2 := hid (bt HB1.out hb2)
  clear o2 wd2 t2 s2 hv2 hb2 HO2 HS1 HV1
  go_wp2_with fail
  refine Calls.mono HM.out ?_
  rintro e w3 ⟨k3, v3, z3, u3, r3, code, rfl, o3, o4, t3, hb3, hc3⟩
  obtain ⟨a3, c3, hs3⟩ := own_slice' o3
  subst hs3
  obtain ⟨a4, c4, hs4⟩ := own_slice' o4
  subst hs4
  have HR := hid (And.intro o3 (And.intro o4 (And.intro t3 hc3)))
  obtain ⟨y0', y1', y2', f0, f1, f2⟩ := res_box3 HZ.out (bt HB2.out hb3)
  have HBW := hid (bt HB.out (bt HB2.out hb3))
  have HLT : Hid (w.heap.size < w2.heap.size) := Nat.lt_of_lt_of_le HZ.out.lt HB2.out.size
  clear o3 o4 t3 hb3 hc3 HM
  go_wp2_with fail
  refine bodyPost_ret (v := .tuple #[.agg #[.bool k3, .slice a3 z3.length c3, .slice a4 r3.length c4], .int .i64 code]) (by simp [results, Try.results8, go_sem, y0', y1', y2']) rfl ?_
  exact RToldA.put HR.out w.heap.size HLT.out (Nat.le_refl _) HBW.out _ _ _
end Go.Proofs.Ytjfclfoefoiniaa

/- The document's own fractions: Make, size, Small. -/
namespace Go.Proofs.Ytjfclfoefoiniaa
open Go.RowKit
set_option linter.unusedVariables false

theorem div_sg {n m : Bool} {xs ys : List Int} : Rat.divInt (sg (n != m) (val xs)) (val ys) = Rat.divInt (wval n xs) (wval m ys) := by
  cases n <;> cases m <;> simp [sg, wval, Rat.divInt_neg', ← Rat.neg_divInt]

set_option maxHeartbeats 3200000 in
set_option maxRecDepth 100000 in
theorem make3_e1 (n : Bool) (a : Option Addr) (ca : Nat) (xs : List Int) (m : Bool) (b : Option Addr) (cb : Nat) (ys : List Int) (w : World) (h : Sl w (.slice a xs.length ca) xs) (g : Sl w (.slice b ys.length cb) ys) (lx : xs.length ≤ 281474976710656) (ly : ys.length ≤ 281474976710656) (hx : wchk n xs ≠ 0) (q : Rat) :
    Calls Try.prog 7 #[.agg #[.bool n, .slice a xs.length ca], .agg #[.bool m, .slice b ys.length cb]] w (RTold w (wchk n xs) q) := by
  have HB : Hid (Below w.heap.size w (((w.alloc (.cells #[.bool n, .slice a xs.length ca] 24)).alloc (.cells #[.bool m, .slice b ys.length cb] 24)).alloc (.cells #[.bool false, .slice none 0 0, .slice none 0 0] 27))) := bt (bt (alloc_later _ _) (alloc_later _ _)) (alloc_later _ _)
  have HZ : Hid (Box (((w.alloc (.cells #[.bool n, .slice a xs.length ca] 24)).alloc (.cells #[.bool m, .slice b ys.length cb] 24)).alloc (.cells #[.bool false, .slice none 0 0, .slice none 0 0] 27)) (w.heap.size + 1 + 1) 27 #[.bool false, .slice none 0 0, .slice none 0 0]) := by
    have e := Box.made ((w.alloc (.cells #[.bool n, .slice a xs.length ca] 24)).alloc (.cells #[.bool m, .slice b ys.length cb] 24)) 27 #[.bool false, .slice none 0 0, .slice none 0 0]
    simp at e
    exact e
  have HN : Hid (Box (((w.alloc (.cells #[.bool n, .slice a xs.length ca] 24)).alloc (.cells #[.bool m, .slice b ys.length cb] 24)).alloc (.cells #[.bool false, .slice none 0 0, .slice none 0 0] 27)) w.heap.size 24 #[.bool n, .slice a xs.length ca]) := Box.later (Box.later (Box.made w _ _) (alloc_later _ _) (by simp)) (alloc_later _ _) (by simp; omega)
  have HM : Hid (Box (((w.alloc (.cells #[.bool n, .slice a xs.length ca] 24)).alloc (.cells #[.bool m, .slice b ys.length cb] 24)).alloc (.cells #[.bool false, .slice none 0 0, .slice none 0 0] 27)) (w.heap.size + 1) 24 #[.bool m, .slice b ys.length cb]) := by
    have e := Box.later (Box.made (w.alloc (.cells #[.bool n, .slice a xs.length ca] 24)) 24 #[.bool m, .slice b ys.length cb]) (alloc_later ((w.alloc (.cells #[.bool n, .slice a xs.length ca] 24)).alloc (.cells #[.bool m, .slice b ys.length cb] 24)) (.cells #[.bool false, .slice none 0 0, .slice none 0 0] 27)) (by simp)
    simp at e
    exact e
  have HS := hid (And.intro (h.later HB.out) (g.later HB.out))
  have HXS : Hid (w.heap.size + 1 + 1 < (((w.alloc (.cells #[.bool n, .slice a xs.length ca] 24)).alloc (.cells #[.bool m, .slice b ys.length cb] 24)).alloc (.cells #[.bool false, .slice none 0 0, .slice none 0 0] 27)).heap.size) := HZ.out.lt
  have HC1 := hid (whole3_any n _ xs _ HS.out.1 lx)
  obtain ⟨e1, he1⟩ : ∃ e1, wchk n xs = e1 := ⟨_, rfl⟩
  rw [he1] at HC1 hx ⊢
  have hx' : (e1 == 0) = false := beq_eq_false_iff_ne.2 hx
  have HE := hid hx
  clear he1 hx
  clear h g
  go_enter Try.func7, Try.ntmps7
  go_wp2_with fail
  refine Calls.mono HC1.out ?_
  generalize (((w.alloc (.cells #[.bool n, .slice a xs.length ca] 24)).alloc (.cells #[.bool m, .slice b ys.length cb] 24)).alloc (.cells #[.bool false, .slice none 0 0, .slice none 0 0] 27)) = X at *
  rintro e w1 ⟨rfl, hb1⟩
  have HB1 := hid hb1
  clear hb1 HC1
  obtain ⟨y0, y1, y2, f0, f1, f2⟩ := res_box3 HZ.out HB1.out
  have HBN := hid (below_put3 (bt HB.out HB1.out) (w.heap.size + 1 + 1) (by omega) (.bool false) (.slice none 0 0) (.slice none 0 0))
  clear HN HM HZ HS
  go_wp2_with fail
  refine bodyPost_ret (v := .tuple #[.agg #[.bool false, .slice none 0 0, .slice none 0 0], .int .i64 e1]) (by simp [results, Try.results7, go_sem, y0, y1, y2]) rfl ?_
  exact ⟨false, _, [], _, [], _, rfl, World.ownsRow_nil _ _ _ _, World.ownsRow_nil _ _ _ _, RTells.err HE.out, HBN.out⟩

set_option maxHeartbeats 3200000 in
set_option maxRecDepth 100000 in
theorem make3_e2 (n : Bool) (a : Option Addr) (ca : Nat) (xs : List Int) (m : Bool) (b : Option Addr) (cb : Nat) (ys : List Int) (w : World) (h : Sl w (.slice a xs.length ca) xs) (g : Sl w (.slice b ys.length cb) ys) (lx : xs.length ≤ 281474976710656) (ly : ys.length ≤ 281474976710656) (hx : wchk n xs = 0) (hy : wchk m ys ≠ 0) (q : Rat) :
    Calls Try.prog 7 #[.agg #[.bool n, .slice a xs.length ca], .agg #[.bool m, .slice b ys.length cb]] w (RTold w (wchk m ys) q) := by
  have HB : Hid (Below w.heap.size w (((w.alloc (.cells #[.bool n, .slice a xs.length ca] 24)).alloc (.cells #[.bool m, .slice b ys.length cb] 24)).alloc (.cells #[.bool false, .slice none 0 0, .slice none 0 0] 27))) := bt (bt (alloc_later _ _) (alloc_later _ _)) (alloc_later _ _)
  have HZ : Hid (Box (((w.alloc (.cells #[.bool n, .slice a xs.length ca] 24)).alloc (.cells #[.bool m, .slice b ys.length cb] 24)).alloc (.cells #[.bool false, .slice none 0 0, .slice none 0 0] 27)) (w.heap.size + 1 + 1) 27 #[.bool false, .slice none 0 0, .slice none 0 0]) := by
    have e := Box.made ((w.alloc (.cells #[.bool n, .slice a xs.length ca] 24)).alloc (.cells #[.bool m, .slice b ys.length cb] 24)) 27 #[.bool false, .slice none 0 0, .slice none 0 0]
    simp at e
    exact e
  have HN : Hid (Box (((w.alloc (.cells #[.bool n, .slice a xs.length ca] 24)).alloc (.cells #[.bool m, .slice b ys.length cb] 24)).alloc (.cells #[.bool false, .slice none 0 0, .slice none 0 0] 27)) w.heap.size 24 #[.bool n, .slice a xs.length ca]) := Box.later (Box.later (Box.made w _ _) (alloc_later _ _) (by simp)) (alloc_later _ _) (by simp; omega)
  have HM : Hid (Box (((w.alloc (.cells #[.bool n, .slice a xs.length ca] 24)).alloc (.cells #[.bool m, .slice b ys.length cb] 24)).alloc (.cells #[.bool false, .slice none 0 0, .slice none 0 0] 27)) (w.heap.size + 1) 24 #[.bool m, .slice b ys.length cb]) := by
    have e := Box.later (Box.made (w.alloc (.cells #[.bool n, .slice a xs.length ca] 24)) 24 #[.bool m, .slice b ys.length cb]) (alloc_later ((w.alloc (.cells #[.bool n, .slice a xs.length ca] 24)).alloc (.cells #[.bool m, .slice b ys.length cb] 24)) (.cells #[.bool false, .slice none 0 0, .slice none 0 0] 27)) (by simp)
    simp at e
    exact e
  have HS := hid (And.intro (h.later HB.out) (g.later HB.out))
  have HXS : Hid (w.heap.size + 1 + 1 < (((w.alloc (.cells #[.bool n, .slice a xs.length ca] 24)).alloc (.cells #[.bool m, .slice b ys.length cb] 24)).alloc (.cells #[.bool false, .slice none 0 0, .slice none 0 0] 27)).heap.size) := HZ.out.lt
  have HC1 := hid (whole3_any n _ xs _ HS.out.1 lx)
  rw [hx] at HC1
  obtain ⟨e1, he1⟩ : ∃ e1, wchk m ys = e1 := ⟨_, rfl⟩
  have HC2 := hid (fun ww (hb : Below _ (((w.alloc (.cells #[.bool n, .slice a xs.length ca] 24)).alloc (.cells #[.bool m, .slice b ys.length cb] 24)).alloc (.cells #[.bool false, .slice none 0 0, .slice none 0 0] 27)) ww) => whole3_any m _ ys ww (HS.out.2.later hb) ly)
  rw [he1] at HC2 hy ⊢
  have hy' : (e1 == 0) = false := beq_eq_false_iff_ne.2 hy
  have HE := hid hy
  clear he1 hy hx
  clear h g
  go_enter Try.func7, Try.ntmps7
  go_wp2_with fail
  refine Calls.mono HC1.out ?_
  generalize (((w.alloc (.cells #[.bool n, .slice a xs.length ca] 24)).alloc (.cells #[.bool m, .slice b ys.length cb] 24)).alloc (.cells #[.bool false, .slice none 0 0, .slice none 0 0] 27)) = X at *
  rintro e w1 ⟨rfl, hb1⟩
  have HB1 := hid hb1
  clear hb1 HC1
  have HC := hid (HC2.out w1 HB1.out)
  obtain ⟨q0, q1, _, _⟩ := (HM.out.later HB1.out HM.out.lt).c2
  clear HC2
  go_wp2_with fail
  refine Calls.mono HC.out ?_
  rintro e w2 ⟨rfl, hb2⟩
  have HB2 := hid (bt HB1.out hb2)
  clear hb2 HC q0 q1
  obtain ⟨y0, y1, y2, f0, f1, f2⟩ := res_box3 HZ.out HB2.out
  have HBN := hid (below_put3 (bt HB.out HB2.out) (w.heap.size + 1 + 1) (by omega) (.bool false) (.slice none 0 0) (.slice none 0 0))
  clear HN HM HZ HS
  go_wp2_with fail
  refine bodyPost_ret (v := .tuple #[.agg #[.bool false, .slice none 0 0, .slice none 0 0], .int .i64 e1]) (by simp [results, Try.results7, go_sem, y0, y1, y2]) rfl ?_
  exact ⟨false, _, [], _, [], _, rfl, World.ownsRow_nil _ _ _ _, World.ownsRow_nil _ _ _ _, RTells.err HE.out, HBN.out⟩

set_option maxHeartbeats 3200000 in
set_option maxRecDepth 100000 in
theorem make3_z (n : Bool) (a : Option Addr) (ca : Nat) (xs : List Int) (m : Bool) (b : Option Addr) (cb : Nat) (ys : List Int) (w : World) (h : Sl w (.slice a xs.length ca) xs) (g : Sl w (.slice b ys.length cb) ys) (lx : xs.length ≤ 281474976710656) (ly : ys.length ≤ 281474976710656) (hx : wchk n xs = 0) (hy : wchk m ys = 0) (h0 : ys.length = 0) (q : Rat) :
    Calls Try.prog 7 #[.agg #[.bool n, .slice a xs.length ca], .agg #[.bool m, .slice b ys.length cb]] w (RTold w 7 q) := by
  have HB : Hid (Below w.heap.size w (((w.alloc (.cells #[.bool n, .slice a xs.length ca] 24)).alloc (.cells #[.bool m, .slice b ys.length cb] 24)).alloc (.cells #[.bool false, .slice none 0 0, .slice none 0 0] 27))) := bt (bt (alloc_later _ _) (alloc_later _ _)) (alloc_later _ _)
  have HZ : Hid (Box (((w.alloc (.cells #[.bool n, .slice a xs.length ca] 24)).alloc (.cells #[.bool m, .slice b ys.length cb] 24)).alloc (.cells #[.bool false, .slice none 0 0, .slice none 0 0] 27)) (w.heap.size + 1 + 1) 27 #[.bool false, .slice none 0 0, .slice none 0 0]) := by
    have e := Box.made ((w.alloc (.cells #[.bool n, .slice a xs.length ca] 24)).alloc (.cells #[.bool m, .slice b ys.length cb] 24)) 27 #[.bool false, .slice none 0 0, .slice none 0 0]
    simp at e
    exact e
  have HN : Hid (Box (((w.alloc (.cells #[.bool n, .slice a xs.length ca] 24)).alloc (.cells #[.bool m, .slice b ys.length cb] 24)).alloc (.cells #[.bool false, .slice none 0 0, .slice none 0 0] 27)) w.heap.size 24 #[.bool n, .slice a xs.length ca]) := Box.later (Box.later (Box.made w _ _) (alloc_later _ _) (by simp)) (alloc_later _ _) (by simp; omega)
  have HM : Hid (Box (((w.alloc (.cells #[.bool n, .slice a xs.length ca] 24)).alloc (.cells #[.bool m, .slice b ys.length cb] 24)).alloc (.cells #[.bool false, .slice none 0 0, .slice none 0 0] 27)) (w.heap.size + 1) 24 #[.bool m, .slice b ys.length cb]) := by
    have e := Box.later (Box.made (w.alloc (.cells #[.bool n, .slice a xs.length ca] 24)) 24 #[.bool m, .slice b ys.length cb]) (alloc_later ((w.alloc (.cells #[.bool n, .slice a xs.length ca] 24)).alloc (.cells #[.bool m, .slice b ys.length cb] 24)) (.cells #[.bool false, .slice none 0 0, .slice none 0 0] 27)) (by simp)
    simp at e
    exact e
  have HS := hid (And.intro (h.later HB.out) (g.later HB.out))
  have HXS : Hid (w.heap.size + 1 + 1 < (((w.alloc (.cells #[.bool n, .slice a xs.length ca] 24)).alloc (.cells #[.bool m, .slice b ys.length cb] 24)).alloc (.cells #[.bool false, .slice none 0 0, .slice none 0 0] 27)).heap.size) := HZ.out.lt
  have HC1 := hid (whole3_any n _ xs _ HS.out.1 lx)
  rw [hx] at HC1
  have HC2 := hid (fun ww (hb : Below _ (((w.alloc (.cells #[.bool n, .slice a xs.length ca] 24)).alloc (.cells #[.bool m, .slice b ys.length cb] 24)).alloc (.cells #[.bool false, .slice none 0 0, .slice none 0 0] 27)) ww) => whole3_any m _ ys ww (HS.out.2.later hb) ly)
  rw [hy] at HC2
  have h0' : ((ys.length : Int) == 0) = true := by rw [h0]; rfl
  have HE : Hid ((7 : Int) ≠ 0) := by show _ ≠ _; omega
  clear hx hy h0
  clear h g
  go_enter Try.func7, Try.ntmps7
  go_wp2_with fail
  refine Calls.mono HC1.out ?_
  generalize (((w.alloc (.cells #[.bool n, .slice a xs.length ca] 24)).alloc (.cells #[.bool m, .slice b ys.length cb] 24)).alloc (.cells #[.bool false, .slice none 0 0, .slice none 0 0] 27)) = X at *
  rintro e w1 ⟨rfl, hb1⟩
  have HB1 := hid hb1
  clear hb1 HC1
  have HC := hid (HC2.out w1 HB1.out)
  obtain ⟨q0, q1, _, _⟩ := (HM.out.later HB1.out HM.out.lt).c2
  clear HC2
  go_wp2_with fail
  refine Calls.mono HC.out ?_
  rintro e w2 ⟨rfl, hb2⟩
  have HB2 := hid (bt HB1.out hb2)
  clear hb2 HC q0 q1
  obtain ⟨q0, q1, _, _⟩ := (HM.out.later HB2.out HM.out.lt).c2
  obtain ⟨y0, y1, y2, f0, f1, f2⟩ := res_box3 HZ.out HB2.out
  have HBN := hid (below_put3 (bt HB.out HB2.out) (w.heap.size + 1 + 1) (by omega) (.bool false) (.slice none 0 0) (.slice none 0 0))
  clear HN HM HZ HS
  go_wp2_with fail
  refine bodyPost_ret (v := .tuple #[.agg #[.bool false, .slice none 0 0, .slice none 0 0], .int .i64 7]) (by simp [results, Try.results7, go_sem, y0, y1, y2]) rfl ?_
  exact ⟨false, _, [], _, [], _, rfl, World.ownsRow_nil _ _ _ _, World.ownsRow_nil _ _ _ _, RTells.err HE.out, HBN.out⟩

set_option maxHeartbeats 3200000 in
set_option maxRecDepth 100000 in
theorem make3_ok (n : Bool) (a : Option Addr) (ca : Nat) (xs : List Int) (m : Bool) (b : Option Addr) (cb : Nat) (ys : List Int) (w : World) (h : Sl w (.slice a xs.length ca) xs) (g : Sl w (.slice b ys.length cb) ys) (lx : xs.length ≤ 281474976710656) (ly : ys.length ≤ 281474976710656) (hx : wchk n xs = 0) (hy : wchk m ys = 0) (h0 : 0 < ys.length) :
    Calls Try.prog 7 #[.agg #[.bool n, .slice a xs.length ca], .agg #[.bool m, .slice b ys.length cb]] w (RTold w 0 (Rat.divInt (wval n xs) (wval m ys))) := by
  obtain ⟨kx, tx, _⟩ := wchk_ok hx
  obtain ⟨ky, ty, _⟩ := wchk_ok hy
  have HB : Hid (Below w.heap.size w (((w.alloc (.cells #[.bool n, .slice a xs.length ca] 24)).alloc (.cells #[.bool m, .slice b ys.length cb] 24)).alloc (.cells #[.bool false, .slice none 0 0, .slice none 0 0] 27))) := bt (bt (alloc_later _ _) (alloc_later _ _)) (alloc_later _ _)
  have HZ : Hid (Box (((w.alloc (.cells #[.bool n, .slice a xs.length ca] 24)).alloc (.cells #[.bool m, .slice b ys.length cb] 24)).alloc (.cells #[.bool false, .slice none 0 0, .slice none 0 0] 27)) (w.heap.size + 1 + 1) 27 #[.bool false, .slice none 0 0, .slice none 0 0]) := by
    have e := Box.made ((w.alloc (.cells #[.bool n, .slice a xs.length ca] 24)).alloc (.cells #[.bool m, .slice b ys.length cb] 24)) 27 #[.bool false, .slice none 0 0, .slice none 0 0]
    simp at e
    exact e
  have HN : Hid (Box (((w.alloc (.cells #[.bool n, .slice a xs.length ca] 24)).alloc (.cells #[.bool m, .slice b ys.length cb] 24)).alloc (.cells #[.bool false, .slice none 0 0, .slice none 0 0] 27)) w.heap.size 24 #[.bool n, .slice a xs.length ca]) := Box.later (Box.later (Box.made w _ _) (alloc_later _ _) (by simp)) (alloc_later _ _) (by simp; omega)
  have HM : Hid (Box (((w.alloc (.cells #[.bool n, .slice a xs.length ca] 24)).alloc (.cells #[.bool m, .slice b ys.length cb] 24)).alloc (.cells #[.bool false, .slice none 0 0, .slice none 0 0] 27)) (w.heap.size + 1) 24 #[.bool m, .slice b ys.length cb]) := by
    have e := Box.later (Box.made (w.alloc (.cells #[.bool n, .slice a xs.length ca] 24)) 24 #[.bool m, .slice b ys.length cb]) (alloc_later ((w.alloc (.cells #[.bool n, .slice a xs.length ca] 24)).alloc (.cells #[.bool m, .slice b ys.length cb] 24)) (.cells #[.bool false, .slice none 0 0, .slice none 0 0] 27)) (by simp)
    simp at e
    exact e
  have HS := hid (And.intro (h.later HB.out) (g.later HB.out))
  have HXS : Hid (w.heap.size + 1 + 1 < (((w.alloc (.cells #[.bool n, .slice a xs.length ca] 24)).alloc (.cells #[.bool m, .slice b ys.length cb] 24)).alloc (.cells #[.bool false, .slice none 0 0, .slice none 0 0] 27)).heap.size) := HZ.out.lt
  have HC1 := hid (whole3_any n _ xs _ HS.out.1 lx)
  rw [hx] at HC1
  have HC2 := hid (fun ww (hb : Below _ (((w.alloc (.cells #[.bool n, .slice a xs.length ca] 24)).alloc (.cells #[.bool m, .slice b ys.length cb] 24)).alloc (.cells #[.bool false, .slice none 0 0, .slice none 0 0] 27)) ww) => whole3_any m _ ys ww (HS.out.2.later hb) ly)
  rw [hy] at HC2
  obtain ⟨s, hs⟩ : ∃ s, (!(n == m)) = s := ⟨_, rfl⟩
  have HC3 := hid (fun ww (hb : Below _ (((w.alloc (.cells #[.bool n, .slice a xs.length ca] 24)).alloc (.cells #[.bool m, .slice b ys.length cb] 24)).alloc (.cells #[.bool false, .slice none 0 0, .slice none 0 0] 27)) ww) => of3_any s a ca xs b cb ys ww (HS.out.1.later hb) (HS.out.2.later hb) (by omega) (by omega) tx ty h0)
  have hq : Rat.divInt (sg s (val xs)) (val ys) = Rat.divInt (wval n xs) (wval m ys) := by rw [← hs]; exact div_sg
  rw [hq] at HC3
  have h0' : ((ys.length : Int) == 0) = false := beq_eq_false_iff_ne.2 (by omega)
  clear h g hx hy h0 tx ty hq
  go_enter Try.func7, Try.ntmps7
  go_wp2_with fail
  refine Calls.mono HC1.out ?_
  generalize (((w.alloc (.cells #[.bool n, .slice a xs.length ca] 24)).alloc (.cells #[.bool m, .slice b ys.length cb] 24)).alloc (.cells #[.bool false, .slice none 0 0, .slice none 0 0] 27)) = X at *
  rintro e w1 ⟨rfl, hb1⟩
  have HB1 := hid hb1
  have HC := hid (HC2.out w1 hb1)
  obtain ⟨q0, q1, _, _⟩ := (HM.out.later hb1 HM.out.lt).c2
  clear hb1 HC1 HC2
  go_wp2_with fail
  refine Calls.mono HC.out ?_
  rintro e w2 ⟨rfl, hb2⟩
  have HB2 := hid (bt HB1.out hb2)
  clear hb2 HC q0 q1
  have HO := hid (HC3.out w2 HB2.out)
  obtain ⟨p0, p1, _, _⟩ := (HN.out.later HB2.out HN.out.lt).c2
  obtain ⟨q0, q1, _, _⟩ := (HM.out.later HB2.out HM.out.lt).c2
  clear HC3
  go_wp2_with fail
  refine Calls.mono HO.out ?_
  rintro e w3 ⟨k3, v3, z3, u3, r3, code, rfl, o3, o4, t3, hb3⟩
  obtain ⟨a3, c3, hs3⟩ := own_slice' o3
  subst hs3
  obtain ⟨a4, c4, hs4⟩ := own_slice' o4
  subst hs4
  have HR := hid (And.intro o3 (And.intro o4 t3))
  obtain ⟨y0, y1, y2, f0, f1, f2⟩ := res_box3 HZ.out (bt HB2.out hb3)
  have HBW := hid (bt HB.out (bt HB2.out hb3))
  have HLT : Hid (w.heap.size + 1 + 1 < w2.heap.size) := Nat.lt_of_lt_of_le HXS.out HB2.out.size
  clear o3 o4 t3 hb3 HO p0 p1 q0 q1
  go_wp2_with fail
  refine bodyPost_ret (v := .tuple #[.agg #[.bool k3, .slice a3 z3.length c3, .slice a4 r3.length c4], .int .i64 code]) (by simp [results, Try.results7, go_sem, y0, y1, y2]) rfl ?_
  exact RTold.put HR.out (w.heap.size + 1 + 1) HLT.out (by omega) HBW.out _ _ _
theorem make3_any (n : Bool) (a : Option Addr) (ca : Nat) (xs : List Int) (m : Bool) (b : Option Addr) (cb : Nat) (ys : List Int) (w : World) (h : Sl w (.slice a xs.length ca) xs) (g : Sl w (.slice b ys.length cb) ys) (lx : xs.length ≤ 281474976710656) (ly : ys.length ≤ 281474976710656) :
    Calls Try.prog 7 #[.agg #[.bool n, .slice a xs.length ca], .agg #[.bool m, .slice b ys.length cb]] w (RTold w (mkErr n xs m ys) (Rat.divInt (wval n xs) (wval m ys))) := by
  unfold mkErr
  by_cases hb : wboth n xs m ys = 0
  · obtain ⟨hx, hy⟩ := wboth_ok hb
    rw [if_pos hb]
    by_cases h0 : ys.length = 0
    · rw [if_pos h0]
      exact make3_z n a ca xs m b cb ys w h g lx ly hx hy h0 _
    · rw [if_neg h0]
      exact make3_ok n a ca xs m b cb ys w h g lx ly hx hy (by omega)
  · rw [if_neg hb]
    unfold wboth at hb ⊢
    by_cases hx : wchk n xs = 0
    · rw [if_pos hx] at hb ⊢
      exact make3_e2 n a ca xs m b cb ys w h g lx ly hx hb _
    · rw [if_neg hx]
      exact make3_e1 n a ca xs m b cb ys w h g lx ly hx _

set_option maxHeartbeats 1600000 in
set_option maxRecDepth 100000 in
theorem size3_any (x : Int) (w : World) (h0 : -9223372036854775808 ≤ x) (h1 : x ≤ 9223372036854775807) :
    Calls Try.prog 25 #[.int .i64 x] w (Told1 w (x.natAbs : Int)) := by
  obtain ⟨y, hy⟩ : ∃ y : Int, y = (x.natAbs : Int) := ⟨_, rfl⟩
  have y0 : 0 ≤ y ∧ y ≤ 18446744073709551615 := by omega
  have HO := hid (refOf_any y w y0.1 y0.2)
  have HV := hid (And.intro (of_wd y y0.1 y0.2).trimmed (And.intro (Trimmed.trimmed [y % 4294967296, y / 4294967296]) (of_val y y0.1 y0.2)))
  rw [← hy]
  by_cases hx : x < 0
  · have hc : IntKind.u64.wrap x = 18446744073709551616 + x := by rw [IntKind.wrap_u64]; omega
    have hc2 : IntKind.u64.wrap (-(18446744073709551616 + x)) = y := by rw [IntKind.wrap_u64]; omega
    have hc3 : IntKind.u64.wrap (0 - (18446744073709551616 + x)) = y := by rw [IntKind.wrap_u64]; omega
    clear hy
    go_enter Try.func25, Try.ntmps25
    go_wp2_with fail
    refine Calls.mono HO.out ?_
    rintro e w1 ⟨v1, rfl, o1, hb1⟩
    have HR := hid (And.intro (owns_len o1) hb1)
    clear o1 hb1 HO
    go_wp2_with fail
    go_ret
    exact ⟨v1, _, rfl, HR.out.1, HV.out.1, HV.out.2.1, HV.out.2.2, HR.out.2⟩
  · have hc : IntKind.u64.wrap x = y := by rw [IntKind.wrap_u64]; omega
    clear hy
    go_enter Try.func25, Try.ntmps25
    go_wp2_with fail
    refine Calls.mono HO.out ?_
    rintro e w1 ⟨v1, rfl, o1, hb1⟩
    have HR := hid (And.intro (owns_len o1) hb1)
    clear o1 hb1 HO
    go_wp2_with fail
    go_ret
    exact ⟨v1, _, rfl, HR.out.1, HV.out.1, HV.out.2.1, HV.out.2.2, HR.out.2⟩
end Go.Proofs.Ytjfclfoefoiniaa

/- The document's own fractions: Small; two fractions with the same words. -/
namespace Go.Proofs.Ytjfclfoefoiniaa
open Go.RowKit
set_option linter.unusedVariables false

theorem small_sg {x y : Int} {s : Bool} (h : (decide (x < 0) != decide (y < 0)) = s) : Rat.divInt (sg s (x.natAbs : Int)) (y.natAbs : Int) = Rat.divInt x y := by
  subst h
  by_cases hx : x < 0 <;> by_cases hy : y < 0
  · have e1 : (x.natAbs : Int) = -x := by omega
    have e2 : (y.natAbs : Int) = -y := by omega
    rw [e1, e2]; simp [hx, hy, sg, Rat.neg_divInt_neg]
  · have e1 : (x.natAbs : Int) = -x := by omega
    have e2 : (y.natAbs : Int) = y := by omega
    rw [e1, e2]; simp [hx, hy, sg]
  · have e1 : (x.natAbs : Int) = x := by omega
    have e2 : (y.natAbs : Int) = -y := by omega
    rw [e1, e2]; simp [hx, hy, sg, Rat.divInt_neg']
  · have e1 : (x.natAbs : Int) = x := by omega
    have e2 : (y.natAbs : Int) = y := by omega
    rw [e1, e2]; simp [hx, hy, sg]

set_option maxHeartbeats 3200000 in
set_option maxRecDepth 100000 in
theorem small3_any (x y : Int) (w : World) (x0 : -9223372036854775808 ≤ x) (x1 : x ≤ 9223372036854775807) (y0 : -9223372036854775808 ≤ y) (y1 : y ≤ 9223372036854775807) :
    Calls Try.prog 9 #[.int .i64 x, .int .i64 y] w (RTold w (if y = 0 then 7 else 0) (Rat.divInt x y)) := by
  have HB : Hid (Below w.heap.size w (w.alloc (.cells #[.bool false, .slice none 0 0, .slice none 0 0] 27))) := alloc_later _ _
  have HZ : Hid (Box (w.alloc (.cells #[.bool false, .slice none 0 0, .slice none 0 0] 27)) w.heap.size 27 #[.bool false, .slice none 0 0, .slice none 0 0]) := Box.made w _ _
  by_cases hz : y = 0
  · rw [if_pos hz]
    have HE : Hid ((7 : Int) ≠ 0) := by show _ ≠ _; omega
    have hz' : (y == 0) = true := by simp [hz]
    obtain ⟨q, hq⟩ : ∃ q, Rat.divInt x y = q := ⟨_, rfl⟩
    rw [hq]
    clear hz hq
    go_enter Try.func9, Try.ntmps9
    go_wp2_with fail
    refine bodyPost_ret (v := .tuple #[.agg #[.bool false, .slice none 0 0, .slice none 0 0], .int .i64 7]) (by simp [results, Try.results9, go_sem]) rfl ?_
    exact ⟨false, _, [], _, [], _, rfl, World.ownsRow_nil _ _ _ _, World.ownsRow_nil _ _ _ _, RTells.err HE.out, HB.out⟩
  · rw [if_neg hz]
    have hz' : (y == 0) = false := beq_eq_false_iff_ne.2 hz
    have HS1 := hid (size3_any x (w.alloc (.cells #[.bool false, .slice none 0 0, .slice none 0 0] 27)) x0 x1)
    by_cases hx : x < 0 <;> by_cases hy : y < 0
    · have HO := hid (fun (ww : World) a1 c1 z1 a2 c2 z2 h1 h2 l1 l2 t1 t2 p2 => of3_any false a1 c1 z1 a2 c2 z2 ww h1 h2 l1 l2 t1 t2 p2)
      have HSG := hid (small_sg (x := x) (y := y) (s := false) (by simp [hx, hy]))
      go_enter Try.func9, Try.ntmps9
      go_wp2_with fail
      refine Calls.mono HS1.out ?_
      generalize (w.alloc (.cells #[.bool false, .slice none 0 0, .slice none 0 0] 27)) = X at *
      rintro e w1 ⟨v1, z1, rfl, o1, wd1, t1, hv1, hb1⟩
      obtain ⟨a1, k1, hs1⟩ := own_slice' o1
      subst hs1
      have HC2 := hid (size3_any y w1 y0 y1)
      have HE1 := hid (And.intro (Sl.own o1 wd1) (And.intro t1 hv1))
      have l1 : z1.length ≤ 2 := len_of_lt wd1 t1 (by rw [hv1]; omega)
      have HB1 := hid hb1
      clear o1 wd1 t1 hv1 hb1 HS1
      go_wp2_with fail
      refine Calls.mono HC2.out ?_
      rintro e w2 ⟨v2, z2, rfl, o2, wd2, t2, hv2, hb2⟩
      obtain ⟨a2, k2, hs2⟩ := own_slice' o2
      subst hs2
      have l2 : z2.length ≤ 2 := len_of_lt wd2 t2 (by rw [hv2]; omega)
      have p2 : 0 < z2.length := by
        by_cases c : 0 < z2.length
        · exact c
        · have := trimmed_zero' (us := z2) (by omega)
          omega
      have HM := hid (HO.out w2 a1 k1 z1 a2 k2 z2 (HE1.out.1.later hb2) (Sl.own o2 wd2) (by omega) (by omega) HE1.out.2.1 t2 p2)
      rw [HE1.out.2.2, hv2, HSG.out] at HM
      have HB2 := hid (bt HB1.out hb2)
      clear o2 wd2 t2 hv2 hb2 HC2 HE1 HO p2
      go_wp2_with fail
      refine Calls.mono HM.out ?_
      rintro e w3 ⟨k3, v3, z3, u3, r3, code, rfl, o3, o4, t3, hb3⟩
      obtain ⟨a3, c3, hs3⟩ := own_slice' o3
      subst hs3
      obtain ⟨a4, c4, hs4⟩ := own_slice' o4
      subst hs4
      have HR := hid (And.intro o3 (And.intro o4 t3))
      obtain ⟨y0', y1', y2', f0, f1, f2⟩ := res_box3 HZ.out (bt HB2.out hb3)
      have HBW := hid (bt HB.out (bt HB2.out hb3))
      have HLT : Hid (w.heap.size < w2.heap.size) := Nat.lt_of_lt_of_le HZ.out.lt HB2.out.size
      clear o3 o4 t3 hb3 HM
      go_wp2_with fail
      refine bodyPost_ret (v := .tuple #[.agg #[.bool k3, .slice a3 z3.length c3, .slice a4 r3.length c4], .int .i64 code]) (by simp [results, Try.results9, go_sem, y0', y1', y2']) rfl ?_
      exact RTold.put HR.out w.heap.size HLT.out (Nat.le_refl _) HBW.out _ _ _
    · have HO := hid (fun (ww : World) a1 c1 z1 a2 c2 z2 h1 h2 l1 l2 t1 t2 p2 => of3_any true a1 c1 z1 a2 c2 z2 ww h1 h2 l1 l2 t1 t2 p2)
      have HSG := hid (small_sg (x := x) (y := y) (s := true) (by simp [hx, hy]))
      go_enter Try.func9, Try.ntmps9
      go_wp2_with fail
      refine Calls.mono HS1.out ?_
      generalize (w.alloc (.cells #[.bool false, .slice none 0 0, .slice none 0 0] 27)) = X at *
      rintro e w1 ⟨v1, z1, rfl, o1, wd1, t1, hv1, hb1⟩
      obtain ⟨a1, k1, hs1⟩ := own_slice' o1
      subst hs1
      have HC2 := hid (size3_any y w1 y0 y1)
      have HE1 := hid (And.intro (Sl.own o1 wd1) (And.intro t1 hv1))
      have l1 : z1.length ≤ 2 := len_of_lt wd1 t1 (by rw [hv1]; omega)
      have HB1 := hid hb1
      clear o1 wd1 t1 hv1 hb1 HS1
      go_wp2_with fail
      refine Calls.mono HC2.out ?_
      rintro e w2 ⟨v2, z2, rfl, o2, wd2, t2, hv2, hb2⟩
      obtain ⟨a2, k2, hs2⟩ := own_slice' o2
      subst hs2
      have l2 : z2.length ≤ 2 := len_of_lt wd2 t2 (by rw [hv2]; omega)
      have p2 : 0 < z2.length := by
        by_cases c : 0 < z2.length
        · exact c
        · have := trimmed_zero' (us := z2) (by omega)
          omega
      have HM := hid (HO.out w2 a1 k1 z1 a2 k2 z2 (HE1.out.1.later hb2) (Sl.own o2 wd2) (by omega) (by omega) HE1.out.2.1 t2 p2)
      rw [HE1.out.2.2, hv2, HSG.out] at HM
      have HB2 := hid (bt HB1.out hb2)
      clear o2 wd2 t2 hv2 hb2 HC2 HE1 HO p2
      go_wp2_with fail
      refine Calls.mono HM.out ?_
      rintro e w3 ⟨k3, v3, z3, u3, r3, code, rfl, o3, o4, t3, hb3⟩
      obtain ⟨a3, c3, hs3⟩ := own_slice' o3
      subst hs3
      obtain ⟨a4, c4, hs4⟩ := own_slice' o4
      subst hs4
      have HR := hid (And.intro o3 (And.intro o4 t3))
      obtain ⟨y0', y1', y2', f0, f1, f2⟩ := res_box3 HZ.out (bt HB2.out hb3)
      have HBW := hid (bt HB.out (bt HB2.out hb3))
      have HLT : Hid (w.heap.size < w2.heap.size) := Nat.lt_of_lt_of_le HZ.out.lt HB2.out.size
      clear o3 o4 t3 hb3 HM
      go_wp2_with fail
      refine bodyPost_ret (v := .tuple #[.agg #[.bool k3, .slice a3 z3.length c3, .slice a4 r3.length c4], .int .i64 code]) (by simp [results, Try.results9, go_sem, y0', y1', y2']) rfl ?_
      exact RTold.put HR.out w.heap.size HLT.out (Nat.le_refl _) HBW.out _ _ _
    · have HO := hid (fun (ww : World) a1 c1 z1 a2 c2 z2 h1 h2 l1 l2 t1 t2 p2 => of3_any true a1 c1 z1 a2 c2 z2 ww h1 h2 l1 l2 t1 t2 p2)
      have HSG := hid (small_sg (x := x) (y := y) (s := true) (by simp [hx, hy]))
      go_enter Try.func9, Try.ntmps9
      go_wp2_with fail
      refine Calls.mono HS1.out ?_
      generalize (w.alloc (.cells #[.bool false, .slice none 0 0, .slice none 0 0] 27)) = X at *
      rintro e w1 ⟨v1, z1, rfl, o1, wd1, t1, hv1, hb1⟩
      obtain ⟨a1, k1, hs1⟩ := own_slice' o1
      subst hs1
      have HC2 := hid (size3_any y w1 y0 y1)
      have HE1 := hid (And.intro (Sl.own o1 wd1) (And.intro t1 hv1))
      have l1 : z1.length ≤ 2 := len_of_lt wd1 t1 (by rw [hv1]; omega)
      have HB1 := hid hb1
      clear o1 wd1 t1 hv1 hb1 HS1
      go_wp2_with fail
      refine Calls.mono HC2.out ?_
      rintro e w2 ⟨v2, z2, rfl, o2, wd2, t2, hv2, hb2⟩
      obtain ⟨a2, k2, hs2⟩ := own_slice' o2
      subst hs2
      have l2 : z2.length ≤ 2 := len_of_lt wd2 t2 (by rw [hv2]; omega)
      have p2 : 0 < z2.length := by
        by_cases c : 0 < z2.length
        · exact c
        · have := trimmed_zero' (us := z2) (by omega)
          omega
      have HM := hid (HO.out w2 a1 k1 z1 a2 k2 z2 (HE1.out.1.later hb2) (Sl.own o2 wd2) (by omega) (by omega) HE1.out.2.1 t2 p2)
      rw [HE1.out.2.2, hv2, HSG.out] at HM
      have HB2 := hid (bt HB1.out hb2)
      clear o2 wd2 t2 hv2 hb2 HC2 HE1 HO p2
      go_wp2_with fail
      refine Calls.mono HM.out ?_
      rintro e w3 ⟨k3, v3, z3, u3, r3, code, rfl, o3, o4, t3, hb3⟩
      obtain ⟨a3, c3, hs3⟩ := own_slice' o3
      subst hs3
      obtain ⟨a4, c4, hs4⟩ := own_slice' o4
      subst hs4
      have HR := hid (And.intro o3 (And.intro o4 t3))
      obtain ⟨y0', y1', y2', f0, f1, f2⟩ := res_box3 HZ.out (bt HB2.out hb3)
      have HBW := hid (bt HB.out (bt HB2.out hb3))
      have HLT : Hid (w.heap.size < w2.heap.size) := Nat.lt_of_lt_of_le HZ.out.lt HB2.out.size
      clear o3 o4 t3 hb3 HM
      go_wp2_with fail
      refine bodyPost_ret (v := .tuple #[.agg #[.bool k3, .slice a3 z3.length c3, .slice a4 r3.length c4], .int .i64 code]) (by simp [results, Try.results9, go_sem, y0', y1', y2']) rfl ?_
      exact RTold.put HR.out w.heap.size HLT.out (Nat.le_refl _) HBW.out _ _ _
    · have HO := hid (fun (ww : World) a1 c1 z1 a2 c2 z2 h1 h2 l1 l2 t1 t2 p2 => of3_any false a1 c1 z1 a2 c2 z2 ww h1 h2 l1 l2 t1 t2 p2)
      have HSG := hid (small_sg (x := x) (y := y) (s := false) (by simp [hx, hy]))
      go_enter Try.func9, Try.ntmps9
      go_wp2_with fail
      refine Calls.mono HS1.out ?_
      generalize (w.alloc (.cells #[.bool false, .slice none 0 0, .slice none 0 0] 27)) = X at *
      rintro e w1 ⟨v1, z1, rfl, o1, wd1, t1, hv1, hb1⟩
      obtain ⟨a1, k1, hs1⟩ := own_slice' o1
      subst hs1
      have HC2 := hid (size3_any y w1 y0 y1)
      have HE1 := hid (And.intro (Sl.own o1 wd1) (And.intro t1 hv1))
      have l1 : z1.length ≤ 2 := len_of_lt wd1 t1 (by rw [hv1]; omega)
      have HB1 := hid hb1
      clear o1 wd1 t1 hv1 hb1 HS1
      go_wp2_with fail
      refine Calls.mono HC2.out ?_
      rintro e w2 ⟨v2, z2, rfl, o2, wd2, t2, hv2, hb2⟩
      obtain ⟨a2, k2, hs2⟩ := own_slice' o2
      subst hs2
      have l2 : z2.length ≤ 2 := len_of_lt wd2 t2 (by rw [hv2]; omega)
      have p2 : 0 < z2.length := by
        by_cases c : 0 < z2.length
        · exact c
        · have := trimmed_zero' (us := z2) (by omega)
          omega
      have HM := hid (HO.out w2 a1 k1 z1 a2 k2 z2 (HE1.out.1.later hb2) (Sl.own o2 wd2) (by omega) (by omega) HE1.out.2.1 t2 p2)
      rw [HE1.out.2.2, hv2, HSG.out] at HM
      have HB2 := hid (bt HB1.out hb2)
      clear o2 wd2 t2 hv2 hb2 HC2 HE1 HO p2
      go_wp2_with fail
      refine Calls.mono HM.out ?_
      rintro e w3 ⟨k3, v3, z3, u3, r3, code, rfl, o3, o4, t3, hb3⟩
      obtain ⟨a3, c3, hs3⟩ := own_slice' o3
      subst hs3
      obtain ⟨a4, c4, hs4⟩ := own_slice' o4
      subst hs4
      have HR := hid (And.intro o3 (And.intro o4 t3))
      obtain ⟨y0', y1', y2', f0, f1, f2⟩ := res_box3 HZ.out (bt HB2.out hb3)
      have HBW := hid (bt HB.out (bt HB2.out hb3))
      have HLT : Hid (w.heap.size < w2.heap.size) := Nat.lt_of_lt_of_le HZ.out.lt HB2.out.size
      clear o3 o4 t3 hb3 HM
      go_wp2_with fail
      refine bodyPost_ret (v := .tuple #[.agg #[.bool k3, .slice a3 z3.length c3, .slice a4 r3.length c4], .int .i64 code]) (by simp [results, Try.results9, go_sem, y0', y1', y2']) rfl ?_
      exact RTold.put HR.out w.heap.size HLT.out (Nat.le_refl _) HBW.out _ _ _

set_option maxHeartbeats 1600000 in
set_option maxRecDepth 100000 in
theorem sameRatio_eq (n : Bool) (v u v' u' : Value) (xs ys : List Int) (w : World) (h : Sl w v xs) (g : Sl w u ys) (h' : Sl w v' xs) (g' : Sl w u' ys) (lx : xs.length ≤ 281474976710656) (ly : ys.length ≤ 281474976710656) :
    Calls Try.prog 10 #[.agg #[.bool n, v, u], .agg #[.bool n, v', u']] w fun e w' => e = .returned (.bool true) ∧ Below w.heap.size w w' := by
  have HB : Hid (Below w.heap.size w ((w.alloc (.cells #[.bool n, v, u] 27)).alloc (.cells #[.bool n, v', u'] 27))) := bt (alloc_later _ _) (alloc_later _ _)
  have HN : Hid (Box ((w.alloc (.cells #[.bool n, v, u] 27)).alloc (.cells #[.bool n, v', u'] 27)) w.heap.size 27 #[.bool n, v, u]) := Box.later (Box.made w _ _) (alloc_later _ _) (by simp)
  have HM : Hid (Box ((w.alloc (.cells #[.bool n, v, u] 27)).alloc (.cells #[.bool n, v', u'] 27)) (w.heap.size + 1) 27 #[.bool n, v', u']) := by
    have e := Box.made (w.alloc (.cells #[.bool n, v, u] 27)) 27 #[.bool n, v', u']
    simp at e
    exact e
  have H1 := hid (same_sl v v' xs xs _ (h.later HB.out) (h'.later HB.out) lx lx)
  rw [decide_eq_true rfl] at H1
  have H2 := hid (fun ww (hb : Below _ ((w.alloc (.cells #[.bool n, v, u] 27)).alloc (.cells #[.bool n, v', u'] 27)) ww) => same_sl u u' ys ys ww ((g.later HB.out).later hb) ((g'.later HB.out).later hb) ly ly)
  rw [decide_eq_true rfl] at H2
  have hbb : (n == n) = true := by simp
  obtain ⟨a, ca, rfl, hr⟩ := h
  obtain ⟨b, cb, rfl, gr⟩ := g
  obtain ⟨a', ca', rfl, hr'⟩ := h'
  obtain ⟨b', cb', rfl, gr'⟩ := g'
  clear hr gr hr' gr'
  go_enter Try.func10, Try.ntmps10
  go_wp2_with fail
  refine Calls.mono H1.out ?_
  generalize ((w.alloc (.cells #[.bool n, .slice a xs.length ca, .slice b ys.length cb] 27)).alloc (.cells #[.bool n, .slice a' xs.length ca', .slice b' ys.length cb'] 27)) = X at *
  rintro e w1 ⟨rfl, hb1⟩
  obtain ⟨p0, p1, p2, _, _, _⟩ := res_box3 HN.out hb1
  obtain ⟨q0, q1, q2, _, _, _⟩ := res_box3 HM.out hb1
  have HC := hid (H2.out w1 hb1)
  have HB1 := hid (bt HB.out hb1)
  clear hb1 H1 H2
  go_wp2_with fail
  refine Calls.mono HC.out ?_
  rintro e w2 ⟨rfl, hb2⟩
  have HBN := hid (bt HB1.out hb2)
  clear hb2 HC
  go_wp2_with fail
  go_ret
  exact ⟨rfl, HBN.out⟩
end Go.Proofs.Ytjfclfoefoiniaa

/- Lists that lie apart: the kit's ApartWords, for a list of lists with room behind it. -/
namespace Go.Proofs.Ytjfclfoefoiniaa
open Go.RowKit
set_option linter.unusedVariables false

set_option maxHeartbeats 3200000 in
set_option maxRecDepth 100000 in
theorem apart_cap (base bl m cp : Nat) (V : Nat → Value) (X : Nat → List Int) (w : World) (h : Lists w base bl m V X) (hm : m ≤ 1000) (hbs : base ≤ w.heap.size) (hcp : m ≤ cp) :
    Calls Try.prog 28 #[.slice (some ⟨bl, 0, none⟩) m cp] w fun e w' => e = .returned (.bool true) ∧ Below base w w' := by
  obtain ⟨i0, hi, hz0, hz1, hz2⟩ := info_parts Try.infoL
  obtain ⟨hwd, hlen, hown, hap, hrow⟩ := h
  have hbl : bl < w.heap.size := by obtain ⟨cl, h1, _⟩ := hrow; exact block_lt h1
  have HO := hid hown
  have HA := hid hap
  have HR := hid hrow
  have HW := hid hwd
  have HN := hid hlen
  clear hown hap hrow hwd hlen
  go_enter Try.func28, Try.ntmps28
  go_wp2_with (at_make; refine wpList_make_full _ rfl _ _ 50 rfl w.heap.size 22 i0 (.slice none 0 0) 1 Try.underlying50 hi hz0 hz1 _ _ _ _ m rfl rfl (by omega) (by omega) (by rw [hz2]; omega) (by unfold maxLen; omega) (Nat.le_refl _) ?_)
  intro w1 hown1 hgrow1
  have H1 : Hid (I1 w m X 0 w1) := ⟨_, by have := hown1.1; omega, row_whole hown1, fun j hj => by omega, (Below.refl _ _).grown hgrow1 (Nat.le_refl _) (fun k hk => by simp at hk)⟩
  clear hown1 hgrow1
  go_wp2_with fail
  go_loopw [4] (fun t wr => ∃ k : Nat, k ≤ m ∧ t = .int .i64 k ∧ Hid (I1 w m X k wr)) (fun t _ => m - (intOf t).toNat)
  case atStart => exact ⟨0, by omega, rfl, H1⟩
  case round =>
    obtain ⟨k, hk, rfl, HI⟩ := hrel
    by_cases hlt : k < m
    · obtain ⟨us, ul, ug, uu, ub⟩ := HI.out
      have hgw := block_lt ug
      have ubs := ub.size
      have hcl : wr.cell? ⟨bl, k, none⟩ = some (V k) := (ub.cell (p := ⟨bl, k, none⟩) hbl).trans (row_cell HR.out k hlt)
      have hsl : Sl wr (V k) (X k) := (Sl.own (HO.out k hlt) (HW.out k hlt)).later ub
      have hX := HN.out k hlt
      have HS := hid hsl
      obtain ⟨a1, c1, hv, hr⟩ := hsl
      rw [hv] at hcl
      clear uu ub hr
      go_wp2_with fail
      rw [← hv]
      refine (copyWords_sl _ (X k) _ HS.out hX).mono ?_
      rintro e w2 ⟨v, rfl, ho2, hb2⟩
      have HI2 := hid (HI.out.step hlt ho2 hb2)
      have hc2 : w2.cell? ⟨w.heap.size, k, none⟩ = some (us.toArray[k]?.getD undef) := by
        rw [cell_of_row w2 w.heap.size k us.toArray 22 (0, 0) ((hb2.block _ hgw).trans ug)]
        simp [ul, hlt]
      have hf2 : w2.frozen? ⟨w.heap.size, k, none⟩ = false := frozen_of_row w2 w.heap.size k us.toArray 22 ((hb2.block _ hgw).trans ug)
      obtain ⟨a3, c3, hv3, _⟩ := Sl.own ho2 (HW.out k hlt)
      rw [hv3] at HI2 ⊢
      clear ho2 hb2 ug
      go_wp2_with fail
      go_roundw
      case rel => exact ⟨k + 1, by omega, by go_num, HI2⟩
      case measure => simp [intOf]; omega
    · have hkm : k = m := by omega
      subst hkm
      obtain ⟨us, ul, ug, uu, ub⟩ := HI.out
      obtain ⟨w2, hw2⟩ : ∃ w2 : World, w2 = wr := ⟨_, rfl⟩
      subst hw2
      obtain ⟨gw, hgw⟩ : ∃ gw, gw = w.heap.size := ⟨_, rfl⟩
      have H2 : Hid (I2 w base bl gw k V (fun j => us[j]?.getD undef) X 0 w2) := by
        subst hgw
        refine ⟨fun j hj => ?_, fun j hj => ?_, fun j hj g e => ((HO.out j hj).lt g e).2, ?_, ⟨us.toArray, ug, fun j hj => ?_⟩, ub.mono hbs⟩
        · rw [if_neg (by omega)]; exact owns_later (HO.out j hj) ub
        · obtain ⟨u, h1, h2⟩ := uu j hj
          simp only [h1]; exact h2
        · obtain ⟨cl, h1, h2⟩ := HR.out
          exact ⟨cl, (ub.block _ (block_lt h1)).trans h1, h2⟩
        · simp [ul, hj]
      obtain ⟨U, hU⟩ : ∃ U : Nat → Value, U = fun j => us[j]?.getD undef := ⟨_, rfl⟩
      rw [← hU] at H2
      have hgwl : gw < w2.heap.size := by rw [hgw]; exact block_lt ug
      have hb2 : base ≤ w2.heap.size := by omega
      rw [← hgw]
      clear hU ug uu ub HI ul hgw HO HR H1
      go_wp2_with fail
      go_loopw [5] (fun t wr => ∃ i : Nat, i ≤ k ∧ t = .int .i64 i ∧ Hid (I2 w base bl gw k V U X i wr) ∧ w2.heap.size ≤ wr.heap.size) (fun t _ => k - (intOf t).toNat)
      case atStart => exact ⟨0, by omega, rfl, H2, Nat.le_refl _⟩
      case round =>
        obtain ⟨i, hi', rfl, HJ, hws⟩ := hrel
        by_cases hlt : i < k
        · have hcl : wr.cell? ⟨bl, i, none⟩ = some (V i) := row_cell HJ.out.rowL i hlt
          have hcw : wr.cell? ⟨gw, i, none⟩ = some (U i) := row_cell HJ.out.rowW i hlt
          have sv : Sl wr (V i) (X i) := by
            have := HJ.out.lists i hlt
            rw [if_neg (by omega)] at this
            exact Sl.own this (HW.out i hlt)
          have su : Sl wr (U i) (X i) := Sl.own (HJ.out.was i hlt) (HW.out i hlt)
          have hX := HN.out i hlt
          obtain ⟨a1, c1, hv1, hr1⟩ := sv
          obtain ⟨a2, c2, hv2, hr2⟩ := su
          rw [hv1] at hcl
          rw [hv2] at hcw
          have hcld : wr.drew.cell? ⟨bl, i, none⟩ = some (.slice a1 (X i).length c1) := hcl
          have hcwd : wr.drew.cell? ⟨gw, i, none⟩ = some (.slice a2 (X i).length c2) := hcw
          have HC := hid (same_any a1 _ c1 (X i) a2 _ c2 (X i) wr.drew hr1 hr2 (by omega) (by omega))
          clear hr1 hr2
          go_wp2_with fail
          go_region_with (go_at_call 26; refine Calls.mono HC.out ?_; rintro e wa ⟨rfl, hba⟩)
          all_goals
            have hbw : Below wr.heap.size wr wa := ((Below.refl _ wr).drew).trans hba
            have HJ2 := hid (HJ.out.later hbw (by omega))
            have hsz2 := hbw.size
            have hcl2 : wa.cell? ⟨bl, i, none⟩ = some (V i) := row_cell HJ2.out.rowL i hlt
            rw [hv1] at hcl2
            have hown : wa.ownsRow base 53 1 (V i) (X i).length ((X i).map (Value.int .u32)) := by
              have := HJ2.out.lists i hlt
              rwa [if_neg (by omega)] at this
            have HOV := hid (over_sl base _ _ (X i) wa (HW.out i hlt) hown)
            have hdd : decide (X i = X i) = true := by simp
            clear hba hbw hown hcl hcw hcld hcwd HC
            go_wp2_with fail
            rw [← hv1]
            refine Calls.mono HOV.out ?_
            rintro e wb ⟨rfl, hob, hgb⟩
            have HJ3 := hid (HJ2.out.step hlt (by omega) HA.out hob hgb)
            have hs3 := hgb.size
            rw [hv1]
            clear hob hgb
            go_wp2_with fail
            go_roundw
            case rel => exact ⟨i + 1, by omega, by go_num, HJ3, by omega⟩
            case measure => simp [intOf]; omega
        · have hik : i = k := by omega
          subst hik
          obtain ⟨w3, hw3⟩ : ∃ w3 : World, w3 = wr := ⟨_, rfl⟩
          subst hw3
          have hws3 := hws
          have facts : ∀ wr, Below w3.heap.size w3 wr → ∀ c, c < i → ∃ a1 c1 a2 c2, wr.cell? ⟨bl, c, none⟩ = some (.slice a1 (X c).length c1) ∧ wr.cell? ⟨gw, c, none⟩ = some (.slice a2 (X c).length c2) ∧
              ((X c).length = 0 ∨ ∃ b1 o1 b2 o2, a1 = some ⟨b1, o1, none⟩ ∧ a2 = some ⟨b2, o2, none⟩ ∧ (∀ j, j < (X c).length → wr.cell? ⟨b1, o1 + j, none⟩ = some (.int .u32 (4294967295 - (X c)[j]?.getD 0))) ∧
                (∀ j, j < (X c).length → wr.cell? ⟨b2, o2 + j, none⟩ = some (.int .u32 ((X c)[j]?.getD 0)))) := by
            intro wr hb c hc
            have HJ' := HJ.out.later hb (by omega)
            have hcl : wr.cell? ⟨bl, c, none⟩ = some (V c) := row_cell HJ'.rowL c hc
            have hcw : wr.cell? ⟨gw, c, none⟩ = some (U c) := row_cell HJ'.rowW c hc
            have hl := HJ'.lists c hc
            rw [if_pos hc] at hl
            obtain ⟨a1, c1, hv1, r1⟩ := Reads.own hl (HW.out c hc).compl
            obtain ⟨a2, c2, hv2, r2⟩ := Reads.own (HJ'.was c hc) (HW.out c hc)
            refine ⟨a1, c1, a2, c2, by rw [hcl, hv1], by rw [hcw, hv2], ?_⟩
            by_cases h0 : (X c).length = 0
            · exact .inl h0
            · right
              rcases r1.2.2.1 with e | ⟨b1, o1, e1, _, g1⟩
              · omega
              · rcases r2.2.2.1 with e | ⟨b2, o2, e2, _, g2⟩
                · omega
                · exact ⟨b1, o1, b2, o2, e1, e2, fun j hj => by rw [g1 j hj, compl_get _ j hj], g2⟩
          have HB := hid HJ.out.below
          have HF := hid facts
          clear facts HJ H2 hi'
          go_wp2_with fail
          go_loopw [6] (fun t wr => ∃ c : Nat, c ≤ i ∧ t = .int .i64 c ∧ Below w3.heap.size w3 wr) (fun t _ => i - (intOf t).toNat)
          case atStart => exact ⟨0, by omega, rfl, Below.refl _ _⟩
          case round =>
            obtain ⟨c, hc, rfl, hb3⟩ := hrel
            by_cases hlt : c < i
            · obtain ⟨w4, hw4⟩ : ∃ w4 : World, w4 = wr := ⟨_, rfl⟩
              subst hw4
              have hX := HN.out c hlt
              have hwc := HW.out c hlt
              obtain ⟨n, hn⟩ : ∃ n, n = (X c).length := ⟨_, rfl⟩
              rw [← hn] at hX
              have HNN := hid hn
              clear hn
              go_wp2_with fail
              go_loopw [7] (fun t wr => ∃ k : Nat, k ≤ n ∧ t = .int .i64 k ∧ Below w3.heap.size w3 wr) (fun t _ => n - (intOf t).toNat)
              case atStart => exact ⟨0, by omega, rfl, hb3⟩
              case round =>
                obtain ⟨k, hk, rfl, hb4⟩ := hrel
                obtain ⟨a1, c1, a2, c2, f1, f2, f3⟩ := HF.out wr hb4 c hlt
                rw [← HNN.out] at f1 f2 f3
                by_cases hkn : k < n
                · rcases f3 with f3 | ⟨b1, o1, b2, o2, e1, e2, g1, g2⟩
                  · omega
                  · have x1 := g1 k hkn
                    have x2 := g2 k hkn
                    rw [e1] at f1
                    rw [e2] at f2
                    have hbd := hwc.at k
                    obtain ⟨z, hz⟩ : ∃ z, z = (X c)[k]?.getD 0 := ⟨_, rfl⟩
                    rw [← hz] at x1 x2 hbd
                    have hnot := not_u32 z hbd.1 hbd.2
                    have f1d : wr.drew.cell? ⟨bl, c, none⟩ = some (.slice (some ⟨b1, o1, none⟩) n c1) := f1
                    have f2d : wr.drew.cell? ⟨gw, c, none⟩ = some (.slice (some ⟨b2, o2, none⟩) n c2) := f2
                    have x1d : wr.drew.cell? ⟨b1, o1 + k, none⟩ = some (.int .u32 (4294967295 - z)) := x1
                    have x2d : wr.drew.cell? ⟨b2, o2 + k, none⟩ = some (.int .u32 z) := x2
                    have hne : (4294967295 - z != 4294967295 - z) = false := by simp
                    clear hz e1 e2 g1 g2
                    go_wp2
                    go_region
                    all_goals go_wp2
                    all_goals
                      go_roundw
                      case rel => exact ⟨k + 1, by omega, by go_num, hb4.drew⟩
                      case measure => simp [intOf]; omega
                · clear f3
                  go_wp2
                  go_roundw
                  case rel => exact ⟨c + 1, by omega, by go_num, hb4⟩
                  case measure => simp [intOf]; omega
            · go_wp2
              go_ret
              exact ⟨rfl, HB.out.trans (hb3.mono (by omega))⟩
end Go.Proofs.Ytjfclfoefoiniaa

/- The kit's ApartRatios of three fractions. -/
namespace Go.Proofs.Ytjfclfoefoiniaa
open Go.RowKit
set_option linter.unusedVariables false

/-- append to a row of the call's own, as one step of a region. -/
theorem step_append_own {P : Program} {ops : Array Oper} {o : Oper} {a : Act} {w : World} {K : Act → World → Prop} {Q : Exit → Act → World → Prop} {E : Prop}
    (hg : o.guard = none) (s x : Operand) (t : TypeId) (hop : o.op = Op.call { callee := Callee.builtin Builtin.append, args := #[s, x], argTypes := #[t, t] })
    (base : Nat) (e : TypeId) (i : TypeInfo) (z : Value) (size bytes : Nat) (h1 : P.underlying t = some (.slice e)) (h2 : P.info? e = some i) (h3 : i.zero = some z) (h4 : i.size = size) (h5 : i.bytes = bytes) (h6 : z.cells.size = size) (h7 : 0 < size)
    (v : Value) (n : Nat) (xs : List Value) (hs : a.eval s = v) (hown : w.ownsRow base e size v n xs)
    (ad : Addr) (m c : Nat) (news : List Value) (hx : a.eval x = .slice (some ad) m c) (hn : news.length = m * size) (hc : ∀ j u, news[j]? = some u → w.cell? (ad.add j) = some u) (h1c : ∀ u ∈ news, u.oneCell' = true)
    (b1 : n + m ≤ maxLen) (b2 : (n + m) * bytes ≤ 140737488355328) (hbase : base ≤ w.heap.size)
    (hK : ∀ v' w', w'.ownsRow base e size v' (n + m) (xs ++ news) → w.grownBy w' v.ownBlock → K (a.put o.dst v') w') :
    if Region.wanted o (yielded ops a.tmps) = true then Oper.wp P o a w K Q else E := by
  have hw : Region.wanted o (yielded ops a.tmps) = true := by simp [Region.wanted, hg]
  rw [if_pos hw]
  obtain ⟨v', w', hrun, r1, r2, _⟩ := run_append_own (P := P) w base t o.type e i z size bytes h1 h2 h3 h4 h5 h6 h7 v n xs hown ad m c news hn hc h1c b1 b2 hbase
  unfold Oper.wp
  simp [execOp, hop, resolve, invoke, builtin, hs, hx, hrun, Result.andThen]
  exact hK v' w' r1 r2
theorem two_cells (w : World) (u0 u1 : Value) (t : Nat) : ∀ j u, [u0, u1][j]? = some u → ((w.alloc (.cells #[u0, u1] t)).drew).cell? ((⟨w.heap.size, 0, none⟩ : Addr).add j) = some u := by
  intro j u h
  have hb := Box.made w t #[u0, u1]
  match j, h with
  | 0, h => obtain rfl : u0 = u := by simpa using h
            exact hb.cell 0
  | 1, h => obtain rfl : u1 = u := by simpa using h
            exact hb.cell 1
  | n + 2, h => simp at h

theorem own_row {w : World} {base e n g cap : Nat} {xs : List Value} (h : w.ownsRow base e 1 (.slice (some ⟨g, 0, none⟩) n cap) n xs) : ∃ cl : Array Value, w.heap[g]? = some (.cells cl e (0, 0)) ∧ ∀ j, j < n → cl[j]? = xs[j]? := by
  rcases h.2 with ⟨h1, _⟩ | ⟨g', cap', cur, hv, _, hg, _, _, _, ht⟩
  · cases h1
  · cases hv
    refine ⟨cur, hg, fun j hj => ?_⟩
    rw [← ht, List.getElem?_take, if_pos (by omega), Array.getElem?_toList]

set_option maxHeartbeats 1600000 in
set_option maxRecDepth 100000 in
theorem apartRatios3 (base : Nat) (b0 b1 b2 : Bool) (a0 a1 a2 a3 a4 a5 : Option Addr) (k0 k1 k2 k3 k4 k5 c0 c1 c2 c3 c4 c5 : Nat) (g : Nat) (X : Nat → List Int) (w : World) (hbx : Box w g 27 #[.bool b0, .slice a0 k0 c0, .slice a1 k1 c1, .bool b1, .slice a2 k2 c2, .slice a3 k3 c3, .bool b2, .slice a4 k4 c4, .slice a5 k5 c5]) (hbs : base ≤ w.heap.size)
    (hwd : ∀ j, j < 6 → Wd (X j)) (hlen : ∀ j, j < 6 → (X j).length ≤ 1099511627776) (hown : ∀ j, j < 6 → w.ownsRow base 53 1 (([.slice a0 k0 c0, .slice a1 k1 c1, .slice a2 k2 c2, .slice a3 k3 c3, .slice a4 k4 c4, .slice a5 k5 c5] : List Value)[j]?.getD undef) (X j).length ((X j).map (Value.int .u32)))
    (hap : ∀ i j, i < 6 → j < 6 → i ≠ j → (([.slice a0 k0 c0, .slice a1 k1 c1, .slice a2 k2 c2, .slice a3 k3 c3, .slice a4 k4 c4, .slice a5 k5 c5] : List Value)[i]?.getD undef).ownBlock = none ∨ (([.slice a0 k0 c0, .slice a1 k1 c1, .slice a2 k2 c2, .slice a3 k3 c3, .slice a4 k4 c4, .slice a5 k5 c5] : List Value)[i]?.getD undef).ownBlock ≠ (([.slice a0 k0 c0, .slice a1 k1 c1, .slice a2 k2 c2, .slice a3 k3 c3, .slice a4 k4 c4, .slice a5 k5 c5] : List Value)[j]?.getD undef).ownBlock) :
    Calls Try.prog 12 #[.slice (some ⟨g, 0, none⟩) 3 3] w fun e w' => e = .returned (.bool true) ∧ Below base w w' := by
  obtain ⟨i0, hi, hz0, hz1, hz2⟩ := info_parts Try.infoL
  have HBX := hid hbx
  have HF := hid (And.intro hwd (And.intro hlen (And.intro hown hap)))
  have HK : Hid (∀ V, Below w.heap.size w V → V.cell? ⟨g, 1, none⟩ = some (.slice a0 k0 c0) ∧ V.cell? ⟨g, 2, none⟩ = some (.slice a1 k1 c1) ∧ V.cell? ⟨g, 4, none⟩ = some (.slice a2 k2 c2) ∧ V.cell? ⟨g, 5, none⟩ = some (.slice a3 k3 c3) ∧ V.cell? ⟨g, 7, none⟩ = some (.slice a4 k4 c4) ∧ V.cell? ⟨g, 8, none⟩ = some (.slice a5 k5 c5)) := fun V hb => by
    have h := HBX.out.later hb HBX.out.lt
    exact ⟨h.cell 1, h.cell 2, h.cell 4, h.cell 5, h.cell 7, h.cell 8⟩
  clear hbx hwd hlen hown hap
  go_enter Try.func12, Try.ntmps12
  go_wp2_with fail
  refine wp_loop_rounds 4 ?_
  have HO : Hid (w.ownsRow w.heap.size 22 1 (.slice none 0 0) 0 []) := World.ownsRow_nil _ _ _ _
  have hb : Below w.heap.size w w := Below.refl _ _
  rw [rounds_succ]
  have hs0 := HK.out w hb
  obtain ⟨e0, e1, e2, e3, e4, e5⟩ := hs0
  have hs0 := HK.out _ hb.drew
  have HOA : Hid ((w.alloc (.cells #[.slice a0 k0 c0, .slice a1 k1 c1] 22)).drew.ownsRow w.heap.size 22 1 (.slice none 0 0) 0 []) := owns_later HO.out (bt (alloc_later w (.cells #[.slice a0 k0 c0, .slice a1 k1 c1] 22)) (Below.drew (Below.refl _ _)))
  have hbA : Below w.heap.size w (w.alloc (.cells #[.slice a0 k0 c0, .slice a1 k1 c1] 22)).drew := (bt hb (alloc_later w (.cells #[.slice a0 k0 c0, .slice a1 k1 c1] 22))).drew
  have hsA := HK.out _ hbA
  have hsz := hb.size
  go_wp2_with fail
  go_region_held3 (fun V : World => V.cell? ⟨g, 1, none⟩ = some (.slice a0 k0 c0) ∧ V.cell? ⟨g, 2, none⟩ = some (.slice a1 k1 c1) ∧ V.cell? ⟨g, 4, none⟩ = some (.slice a2 k2 c2) ∧ V.cell? ⟨g, 5, none⟩ = some (.slice a3 k3 c3) ∧ V.cell? ⟨g, 7, none⟩ = some (.slice a4 k4 c4) ∧ V.cell? ⟨g, 8, none⟩ = some (.slice a5 k5 c5)) (first | exact hs0 | exact hsA | exact hs1 | go_keep)
    (first | (refine step_append_own rfl (.tmp 11) (.tmp 22) 50 rfl w.heap.size 22 i0 (.slice none 0 0) 1 24 Try.underlying50 hi hz0 hz1 hz2 rfl (by decide) (.slice none 0 0) 0 [] rfl HOA.out ⟨w.heap.size, 0, none⟩ 2 2 [.slice a0 k0 c0, .slice a1 k1 c1] rfl rfl (two_cells w _ _ _) (by simp [Value.oneCell']) (by unfold maxLen; omega) (by omega) hbA.size ?_; intro v1 w1 o1 gr1; have hs1 := HK.out w1 (hbA.grown gr1 hbA.size (fun k hk => (HOA.out.lt k hk).1))))
  have hb1 : Below w.heap.size w w1 := hbA.grown gr1 hbA.size (fun k hk => (HOA.out.lt k hk).1)
  obtain ⟨q1, d1, hv1⟩ := own_slice o1
  subst hv1
  replace HO := hid o1
  replace hb := hb1
  clear o1 gr1 hb1 HOA hbA hsA hs0 hs1 e0 e1 e2 e3 e4 e5 hsz
  go_wp2_with fail
  rw [rounds_succ]
  have hs0 := HK.out w1 hb
  obtain ⟨e0, e1, e2, e3, e4, e5⟩ := hs0
  have hs0 := HK.out _ hb.drew
  have HOA : Hid ((w1.alloc (.cells #[.slice a2 k2 c2, .slice a3 k3 c3] 22)).drew.ownsRow w.heap.size 22 1 (.slice q1 2 d1) 2 ([] ++ [.slice a0 k0 c0, .slice a1 k1 c1])) := owns_later HO.out (bt (alloc_later w1 (.cells #[.slice a2 k2 c2, .slice a3 k3 c3] 22)) (Below.drew (Below.refl _ _)))
  have hbA : Below w.heap.size w (w1.alloc (.cells #[.slice a2 k2 c2, .slice a3 k3 c3] 22)).drew := (bt hb (alloc_later w1 (.cells #[.slice a2 k2 c2, .slice a3 k3 c3] 22))).drew
  have hsA := HK.out _ hbA
  have hsz := hb.size
  go_wp2_with fail
  go_region_held3 (fun V : World => V.cell? ⟨g, 1, none⟩ = some (.slice a0 k0 c0) ∧ V.cell? ⟨g, 2, none⟩ = some (.slice a1 k1 c1) ∧ V.cell? ⟨g, 4, none⟩ = some (.slice a2 k2 c2) ∧ V.cell? ⟨g, 5, none⟩ = some (.slice a3 k3 c3) ∧ V.cell? ⟨g, 7, none⟩ = some (.slice a4 k4 c4) ∧ V.cell? ⟨g, 8, none⟩ = some (.slice a5 k5 c5)) (first | exact hs0 | exact hsA | exact hs2 | go_keep)
    (first | (refine step_append_own rfl (.tmp 11) (.tmp 22) 50 rfl w.heap.size 22 i0 (.slice none 0 0) 1 24 Try.underlying50 hi hz0 hz1 hz2 rfl (by decide) (.slice q1 2 d1) 2 ([] ++ [.slice a0 k0 c0, .slice a1 k1 c1]) rfl HOA.out ⟨w1.heap.size, 0, none⟩ 2 2 [.slice a2 k2 c2, .slice a3 k3 c3] rfl rfl (two_cells w1 _ _ _) (by simp [Value.oneCell']) (by unfold maxLen; omega) (by omega) hbA.size ?_; intro v2 w2 o2 gr2; have hs2 := HK.out w2 (hbA.grown gr2 hbA.size (fun k hk => (HOA.out.lt k hk).1))))
  have hb2 : Below w.heap.size w w2 := hbA.grown gr2 hbA.size (fun k hk => (HOA.out.lt k hk).1)
  obtain ⟨q2, d2, hv2⟩ := own_slice o2
  subst hv2
  replace HO := hid o2
  replace hb := hb2
  clear o2 gr2 hb2 HOA hbA hsA hs0 hs2 e0 e1 e2 e3 e4 e5 hsz
  go_wp2_with fail
  rw [rounds_succ]
  have hs0 := HK.out w2 hb
  obtain ⟨e0, e1, e2, e3, e4, e5⟩ := hs0
  have hs0 := HK.out _ hb.drew
  have HOA : Hid ((w2.alloc (.cells #[.slice a4 k4 c4, .slice a5 k5 c5] 22)).drew.ownsRow w.heap.size 22 1 (.slice q2 4 d2) 4 (([] ++ [.slice a0 k0 c0, .slice a1 k1 c1]) ++ [.slice a2 k2 c2, .slice a3 k3 c3])) := owns_later HO.out (bt (alloc_later w2 (.cells #[.slice a4 k4 c4, .slice a5 k5 c5] 22)) (Below.drew (Below.refl _ _)))
  have hbA : Below w.heap.size w (w2.alloc (.cells #[.slice a4 k4 c4, .slice a5 k5 c5] 22)).drew := (bt hb (alloc_later w2 (.cells #[.slice a4 k4 c4, .slice a5 k5 c5] 22))).drew
  have hsA := HK.out _ hbA
  have hsz := hb.size
  go_wp2_with fail
  go_region_held3 (fun V : World => V.cell? ⟨g, 1, none⟩ = some (.slice a0 k0 c0) ∧ V.cell? ⟨g, 2, none⟩ = some (.slice a1 k1 c1) ∧ V.cell? ⟨g, 4, none⟩ = some (.slice a2 k2 c2) ∧ V.cell? ⟨g, 5, none⟩ = some (.slice a3 k3 c3) ∧ V.cell? ⟨g, 7, none⟩ = some (.slice a4 k4 c4) ∧ V.cell? ⟨g, 8, none⟩ = some (.slice a5 k5 c5)) (first | exact hs0 | exact hsA | exact hs3 | go_keep)
    (first | (refine step_append_own rfl (.tmp 11) (.tmp 22) 50 rfl w.heap.size 22 i0 (.slice none 0 0) 1 24 Try.underlying50 hi hz0 hz1 hz2 rfl (by decide) (.slice q2 4 d2) 4 (([] ++ [.slice a0 k0 c0, .slice a1 k1 c1]) ++ [.slice a2 k2 c2, .slice a3 k3 c3]) rfl HOA.out ⟨w2.heap.size, 0, none⟩ 2 2 [.slice a4 k4 c4, .slice a5 k5 c5] rfl rfl (two_cells w2 _ _ _) (by simp [Value.oneCell']) (by unfold maxLen; omega) (by omega) hbA.size ?_; intro v3 w3 o3 gr3; have hs3 := HK.out w3 (hbA.grown gr3 hbA.size (fun k hk => (HOA.out.lt k hk).1))))
  have hb3 : Below w.heap.size w w3 := hbA.grown gr3 hbA.size (fun k hk => (HOA.out.lt k hk).1)
  obtain ⟨q3, d3, hv3⟩ := own_slice o3
  subst hv3
  replace HO := hid o3
  replace hb := hb3
  clear o3 gr3 hb3 HOA hbA hsA hs0 hs3 e0 e1 e2 e3 e4 e5 hsz
  go_wp2_with fail
  rw [rounds_succ]
  obtain ⟨gl, cap, hv, hcap, _⟩ := own_shape HO.out (by omega)
  obtain ⟨rfl, rfl⟩ : q3 = some ⟨gl, 0, none⟩ ∧ d3 = cap := by simpa using hv
  clear hv
  have HLs : Hid (Lists w3 base gl 6 (fun j => ([.slice a0 k0 c0, .slice a1 k1 c1, .slice a2 k2 c2, .slice a3 k3 c3, .slice a4 k4 c4, .slice a5 k5 c5] : List Value)[j]?.getD undef) X) := by
    obtain ⟨cl, hg, hcl⟩ := own_row HO.out
    refine ⟨HF.out.1, HF.out.2.1, fun j hj => owns_later (HF.out.2.2.1 j hj) hb, HF.out.2.2.2, ⟨cl, hg, fun j hj => ?_⟩⟩
    rw [hcl j hj]
    match j, hj with
    | 0, _ => rfl
    | 1, _ => rfl
    | 2, _ => rfl
    | 3, _ => rfl
    | 4, _ => rfl
    | 5, _ => rfl
  have HAP := hid (apart_cap base gl 6 d3 _ X w3 HLs.out (by omega) (by have := hb.size; omega) hcap)
  have HBB := hid (hb.mono hbs)
  clear HLs HO hb hcap
  clear HK HF HBX
  go_wp2_with fail
  refine Calls.mono HAP.out ?_
  rintro e wE ⟨rfl, hbE⟩
  have HBE := hid (HBB.out.trans hbE)
  clear hbE HAP
  go_wp2_with fail
  go_ret
  exact ⟨rfl, HBE.out⟩
end Go.Proofs.Ytjfclfoefoiniaa

/- Whole numbers that are lent to a call: slackwaterkit.LentWhole, KeptWhole; the law's own comparison. -/
namespace Go.Proofs.Ytjfclfoefoiniaa
open Go.RowKit
set_option linter.unusedVariables false

theorem own_room {w : World} {base e n : Nat} {v : Value} {xs : List Value} (h : w.ownsRow base e 1 v n xs) (hn : 0 < n) : ∃ g cap, v = .slice (some ⟨g, 0, none⟩) n cap ∧ n ≤ cap ∧ cap ≤ 9223372036854775807 := by
  obtain ⟨g, cap, rfl, h1, h2⟩ := own_shape' h hn
  exact ⟨g, cap, rfl, h1, by unfold maxLen at h2; omega⟩

set_option maxHeartbeats 3200000 in
set_option maxRecDepth 100000 in
theorem lentWhole_any (n : Bool) (v : Value) (xs : List Int) (w : World) (h : Sl w v xs) (hl : xs.length ≤ 549755813888) :
    Calls Try.prog 5 #[.agg #[.bool n, v]] w fun e w' => ∃ g cap, e = .returned (.agg #[.bool n, .slice (some ⟨g, 0, none⟩) xs.length cap]) ∧ w'.ownsRow w.heap.size 53 1 (.slice (some ⟨g, 0, none⟩) (xs.length + 3) cap) (xs.length + 3) ((xs ++ marks 3).map (Value.int .u32)) ∧ Below w.heap.size w w' := by
  have HS := hid h
  obtain ⟨a, c, rfl, hr⟩ := h
  clear hr
  have HB : Hid (Below w.heap.size w ((w.alloc (.cells #[.bool n, .slice a xs.length c] 24)).alloc (.cells #[.bool false, .slice none 0 0] 24))) := bt (alloc_later _ _) (alloc_later _ _)
  have HA : Hid (Box ((w.alloc (.cells #[.bool n, .slice a xs.length c] 24)).alloc (.cells #[.bool false, .slice none 0 0] 24)) w.heap.size 24 #[.bool n, .slice a xs.length c]) := Box.later (Box.made w _ _) (alloc_later _ _) (by simp)
  have HZ : Hid (Box ((w.alloc (.cells #[.bool n, .slice a xs.length c] 24)).alloc (.cells #[.bool false, .slice none 0 0] 24)) (w.heap.size + 1) 24 #[.bool false, .slice none 0 0]) := by
    have e := Box.made (w.alloc (.cells #[.bool n, .slice a xs.length c] 24)) 24 #[.bool false, .slice none 0 0]
    simp at e
    exact e
  go_enter Try.func5, Try.ntmps5
  go_wp2_with fail
  generalize ((w.alloc (.cells #[.bool n, .slice a xs.length c] 24)).alloc (.cells #[.bool false, .slice none 0 0] 24)) = X at *
  have HK : Hid (∀ V, Below X.heap.size X V → V.cell? ⟨w.heap.size, 0, none⟩ = some (.bool n) ∧ V.cell? ⟨w.heap.size, 1, none⟩ = some (.slice a xs.length c)) := fun V hb => by
    obtain ⟨p0, p1, _, _⟩ := (HA.out.later hb HA.out.lt).c2
    exact ⟨p0, p1⟩
  have hs0 := HK.out _ (Below.drew (Below.refl _ X))
  have HL : Hid (Calls Try.prog 17 #[.slice a xs.length c] X.drew fun e w1 => ∃ g cap, e = .returned (.slice (some ⟨g, 0, none⟩) (xs.length + 3) cap) ∧ xs.length + 3 ≤ cap ∧ cap ≤ 9223372036854775807 ∧ (xs.length : Int) ≤ (cap : Int) ∧ Hid (w1.ownsRow X.heap.size 53 1 (.slice (some ⟨g, 0, none⟩) (xs.length + 3) cap) (xs.length + 3) ((xs ++ marks 3).map (Value.int .u32)) ∧ Below X.heap.size X w1) ∧ (w1.cell? ⟨w.heap.size, 0, none⟩ = some (.bool n) ∧ w1.cell? ⟨w.heap.size, 1, none⟩ = some (.slice a xs.length c)) ∧ w1.cell? ⟨w.heap.size + 1, 0, none⟩ = some (.bool false) ∧ w1.cell? ⟨w.heap.size + 1, 1, none⟩ = some (.slice none 0 0) ∧ w1.frozen? ⟨w.heap.size + 1, 0, none⟩ = false ∧ w1.frozen? ⟨w.heap.size + 1, 1, none⟩ = false) := by
    refine Calls.mono (lentWords_sl _ xs _ ((HS.out.later HB.out).later (Below.drew (Below.refl _ X))) hl) ?_
    rintro e w1 ⟨v1, rfl, o1, hb1⟩
    obtain ⟨g, cap, hv, h1, h2⟩ := own_room o1 (by omega)
    subst hv
    have hbX : Below X.heap.size X w1 := bt (Below.drew (Below.refl _ X)) hb1
    exact ⟨g, cap, rfl, h1, h2, by omega, ⟨o1, hbX⟩, HK.out w1 hbX, (HZ.out.later hbX HZ.out.lt).c2⟩
  have hx0 : (0 : Int) ≤ (xs.length : Int) := by omega
  have hlx : xs.length ≤ 9223372036854775807 := by omega
  clear HS HA
  go_region_held3 (fun V : World => V.cell? ⟨w.heap.size, 0, none⟩ = some (.bool n) ∧ V.cell? ⟨w.heap.size, 1, none⟩ = some (.slice a xs.length c)) (first | exact hs1 | exact hs0 | (simp [hs1, World.cell?_setCell_far]))
    (first
      | (go_at_call 17; with_reducible refine Calls.mono HL.out ?_; rintro e w1 ⟨g, cap, rfl, hc1, hc2, hc3, HE, hs1, r0, r1, f0, f1⟩))
  all_goals
    have HZ2 := hid (HZ.out.later HE.out.2 HZ.out.lt)
    have HO := hid (own_put2 (owns_base HE.out.1 HB.out.size) (w.heap.size + 1) (own_ne_box HE.out.1 HZ2.out (by decide)) (.bool n) (.slice (some ⟨g, 0, none⟩) xs.length cap))
    have HBN := hid (below_put2 (bt HB.out HE.out.2) (w.heap.size + 1) (by omega) (.bool n) (.slice (some ⟨g, 0, none⟩) xs.length cap))
    clear HK HL HE HZ HB HZ2 hs0 hs1
    go_wp2_with fail
    refine bodyPost_ret (v := .agg #[.bool n, .slice (some ⟨g, 0, none⟩) xs.length cap]) (by simp [results, Try.results5, go_sem, r0, r1]) rfl ?_
    exact ⟨g, cap, rfl, HO.out, HBN.out⟩

set_option maxHeartbeats 3200000 in
set_option maxRecDepth 100000 in
theorem keptWhole_any (n : Bool) (v : Value) (xs : List Int) (g cap base : Nat) (w : World) (h : Sl w v xs) (hl : xs.length ≤ 274877906944) (ho : w.ownsRow base 53 1 (.slice (some ⟨g, 0, none⟩) (xs.length + 3) cap) (xs.length + 3) ((xs ++ marks 3).map (Value.int .u32))) :
    Calls Try.prog 11 #[.agg #[.bool n, .slice (some ⟨g, 0, none⟩) xs.length cap], .agg #[.bool n, v]] w fun e w' => e = .returned (.bool true) ∧ Below w.heap.size w w' := by
  have HS := hid h
  obtain ⟨a, c, rfl, hr⟩ := h
  clear hr
  have hcap : xs.length + 3 ≤ cap ∧ cap ≤ 9223372036854775807 := by
    obtain ⟨g', cap', hv, h1, h2⟩ := own_room ho (by omega)
    simp only [Value.slice.injEq, Option.some.injEq, Addr.mk.injEq, and_true, true_and] at hv
    obtain ⟨rfl, rfl⟩ := hv
    exact ⟨h1, h2⟩
  have wf : Wd (xs ++ marks 3) := HS.out.wd.append (Wd.marks 3)
  have lf : (xs ++ marks 3).length = xs.length + 3 := by rw [List.length_append, marks_len 3 (by omega)]
  have HO := hid (Sl.own ho wf)
  have HB : Hid (Below w.heap.size w ((w.alloc (.cells #[.bool n, .slice (some ⟨g, 0, none⟩) xs.length cap] 24)).alloc (.cells #[.bool n, .slice a xs.length c] 24))) := bt (alloc_later _ _) (alloc_later _ _)
  have HA : Hid (Box ((w.alloc (.cells #[.bool n, .slice (some ⟨g, 0, none⟩) xs.length cap] 24)).alloc (.cells #[.bool n, .slice a xs.length c] 24)) w.heap.size 24 #[.bool n, .slice (some ⟨g, 0, none⟩) xs.length cap]) := Box.later (Box.made w _ _) (alloc_later _ _) (by simp)
  have HZ : Hid (Box ((w.alloc (.cells #[.bool n, .slice (some ⟨g, 0, none⟩) xs.length cap] 24)).alloc (.cells #[.bool n, .slice a xs.length c] 24)) (w.heap.size + 1) 24 #[.bool n, .slice a xs.length c]) := by
    have e := Box.made (w.alloc (.cells #[.bool n, .slice (some ⟨g, 0, none⟩) xs.length cap] 24)) 24 #[.bool n, .slice a xs.length c]
    simp at e
    exact e
  have HK0 := hid (fun ww (hb : Below w.heap.size w ww) => keptWords_sl _ _ (xs ++ marks 3) xs ww (HO.out.later hb) (HS.out.later hb) (by omega) hl)
  rw [decide_eq_true rfl] at HK0
  have hcc := hcap.1
  have hcm := hcap.2
  have hnn : (n == n) = true := by simp
  have hll : ((xs.length : Int) == (xs.length : Int)) = true := by simp
  have hx0 : (0 : Int) ≤ (xs.length : Int) + 3 := by omega
  have hxc : (xs.length : Int) + 3 ≤ (cap : Int) := by omega
  have hwr : IntKind.i64.wrap ((xs.length : Int) + 3) = (xs.length : Int) + 3 := by rw [IntKind.wrap_i64]; omega
  have htn : ((xs.length : Int) + 3).toNat = xs.length + 3 := by omega
  clear ho hcap wf lf HS HO
  go_enter Try.func11, Try.ntmps11
  go_wp2_with fail
  generalize ((w.alloc (.cells #[.bool n, .slice (some ⟨g, 0, none⟩) xs.length cap] 24)).alloc (.cells #[.bool n, .slice a xs.length c] 24)) = X at *
  have HK : Hid (∀ V, Below X.heap.size X V → V.cell? ⟨w.heap.size, 0, none⟩ = some (.bool n) ∧ V.cell? ⟨w.heap.size, 1, none⟩ = some (.slice (some ⟨g, 0, none⟩) xs.length cap) ∧ V.cell? ⟨w.heap.size + 1, 0, none⟩ = some (.bool n) ∧ V.cell? ⟨w.heap.size + 1, 1, none⟩ = some (.slice a xs.length c)) := fun V hb => by
    obtain ⟨p0, p1, _, _⟩ := (HA.out.later hb HA.out.lt).c2
    obtain ⟨q0, q1, _, _⟩ := (HZ.out.later hb HZ.out.lt).c2
    exact ⟨p0, p1, q0, q1⟩
  have hs0 := HK.out _ (Below.drew (Below.refl _ X))
  have HL : Hid (Calls Try.prog 27 #[.slice (some ⟨g, 0, none⟩) (xs.length + 3) cap, .slice a xs.length c] X.drew fun e w1 => e = .returned (.bool true) ∧ Hid (Below X.heap.size X w1) ∧ (w1.cell? ⟨w.heap.size, 0, none⟩ = some (.bool n) ∧ w1.cell? ⟨w.heap.size, 1, none⟩ = some (.slice (some ⟨g, 0, none⟩) xs.length cap) ∧ w1.cell? ⟨w.heap.size + 1, 0, none⟩ = some (.bool n) ∧ w1.cell? ⟨w.heap.size + 1, 1, none⟩ = some (.slice a xs.length c))) := by
    refine Calls.mono (HK0.out X.drew (HB.out.drew)) ?_
    rintro e w1 ⟨rfl, hb1⟩
    have hbX : Below X.heap.size X w1 := bt (Below.drew (Below.refl _ X)) hb1
    exact ⟨rfl, hbX, HK.out w1 hbX⟩
  clear HA HZ HK0
  go_region_held3 (fun V : World => V.cell? ⟨w.heap.size, 0, none⟩ = some (.bool n) ∧ V.cell? ⟨w.heap.size, 1, none⟩ = some (.slice (some ⟨g, 0, none⟩) xs.length cap) ∧ V.cell? ⟨w.heap.size + 1, 0, none⟩ = some (.bool n) ∧ V.cell? ⟨w.heap.size + 1, 1, none⟩ = some (.slice a xs.length c)) (first | exact hs1 | exact hs0)
    (first
      | (go_at_call 27; with_reducible refine Calls.mono HL.out ?_; rintro e w1 ⟨rfl, HE, hs1⟩))
  all_goals
    have HBN := hid (bt HB.out HE.out)
    clear HK HL HE HB hs0 hs1
    go_wp2_with fail
    go_ret
    exact ⟨rfl, HBN.out⟩

end Go.Proofs.Ytjfclfoefoiniaa

/- The law RatioMakes answers true, and writes nothing that was there: whatever two whole numbers and two small ones come in. -/
namespace Go.Proofs.Ytjfclfoefoiniaa
open Go.RowKit
set_option linter.unusedVariables false

/-- Boxes that hold whole numbers; rows of the call's own. -/
def Boxes (W : World) (l : List (Nat × Array Value)) : Prop := ∀ p ∈ l, Box W p.1 24 p.2
theorem Boxes.later {W W' : World} {l : List (Nat × Array Value)} (h : Boxes W l) (hb : Below W.heap.size W W') : Boxes W' l := fun p hp => (h p hp).later hb (h p hp).lt
theorem Boxes.put {W : World} {l : List (Nat × Array Value)} (h : Boxes W l) (n : Bool) (v : Value) : Boxes (W.alloc (.cells #[.bool n, v] 24)) ((W.heap.size, #[.bool n, v]) :: l) := fun p hp => by
  cases hp with
  | head => exact Box.made W _ _
  | tail _ hp => exact (h p hp).later (alloc_later _ _) (h p hp).lt
theorem Boxes.get {W : World} {l : List (Nat × Array Value)} (h : Boxes W l) {g : Nat} {n : Bool} {v : Value} (hm : (g, #[.bool n, v]) ∈ l) : W.cell? ⟨g, 0, none⟩ = some (.bool n) ∧ W.cell? ⟨g, 1, none⟩ = some v := by
  obtain ⟨h0, h1, _, _⟩ := (h _ hm).c2
  exact ⟨h0, h1⟩
theorem Boxes.cons {W : World} {l : List (Nat × Array Value)} (h : Boxes W l) {g : Nat} {vs : Array Value} (b : Box W g 24 vs) : Boxes W ((g, vs) :: l) := fun p hp => by
  cases hp with
  | head => exact b
  | tail _ hp => exact h p hp
def Rows' (W : World) (l : List (Nat × Value × List Int)) : Prop := ∀ p ∈ l, W.ownsRow p.1 53 1 p.2.1 p.2.2.length (p.2.2.map (Value.int .u32))
theorem Rows'.later {W W' : World} {l : List (Nat × Value × List Int)} (h : Rows' W l) (hb : Below W.heap.size W W') : Rows' W' l := fun p hp => owns_later (h p hp) hb
theorem Rows'.put {W : World} {l : List (Nat × Value × List Int)} (h : Rows' W l) {base : Nat} {v : Value} {zs : List Int} (o : W.ownsRow base 53 1 v zs.length (zs.map (Value.int .u32))) : Rows' W ((base, v, zs) :: l) := fun p hp => by
  cases hp with
  | head => exact o
  | tail _ hp => exact h p hp
theorem Rows'.get {W : World} {l : List (Nat × Value × List Int)} (h : Rows' W l) {base : Nat} {v : Value} {zs : List Int} (hm : (base, v, zs) ∈ l) : W.ownsRow base 53 1 v zs.length (zs.map (Value.int .u32)) := h _ hm
theorem Rows'.sl {W : World} {l : List (Nat × Value × List Int)} (h : Rows' W l) {base : Nat} {v : Value} {zs : List Int} (wd : Wd zs) (hm : (base, v, zs) ∈ l) : Sl W v zs := Sl.own (h _ hm) wd
theorem below_al {a w : World} (h : Below a.heap.size a w) (o : Obj) : Below a.heap.size a (w.alloc o) := h.alloc h.size o
theorem zb1 {w V : World} (hb : Below (w.alloc (.cells #[.bool false, .slice none 0 0] 24)).heap.size (w.alloc (.cells #[.bool false, .slice none 0 0] 24)) V) : Box V w.heap.size 24 #[.bool false, .slice none 0 0] := (Box.made w 24 _).later hb (by simp)
theorem zb2 {w V : World} (hb : Below ((w.alloc (.cells #[.bool false, .slice none 0 0] 24)).alloc (.cells #[.bool false, .slice none 0 0] 24)).heap.size ((w.alloc (.cells #[.bool false, .slice none 0 0] 24)).alloc (.cells #[.bool false, .slice none 0 0] 24)) V) : Box V w.heap.size 24 #[.bool false, .slice none 0 0] ∧ Box V (w.heap.size + 1) 24 #[.bool false, .slice none 0 0] := by
  refine ⟨((Box.made w 24 _).later (alloc_later _ _) (by simp)).later hb (by simp; omega), ?_⟩
  have e := (Box.made (w.alloc (.cells #[.bool false, .slice none 0 0] 24)) 24 #[.bool false, .slice none 0 0]).later hb (by simp)
  simp at e
  exact e
theorem ne_new {w : World} {g t : Nat} {vs : Array Value} (h : Box w g t vs) : g < w.heap.size ∧ ¬ w.heap.size = g := by
  have := h.lt
  omega
theorem unal1 {w V : World} {o : Obj} (hb : Below (w.alloc o).heap.size (w.alloc o) V) : Below w.heap.size w V := bt (alloc_later _ _) hb
theorem unal2 {w V : World} {o p : Obj} (hb : Below ((w.alloc o).alloc p).heap.size ((w.alloc o).alloc p) V) : Below w.heap.size w V := bt (bt (alloc_later _ _) (alloc_later _ _)) hb
theorem nes {p q : Nat} (h : p + 1 < q) : ¬ p = q ∧ ¬ q = p ∧ ¬ p + 1 = q ∧ ¬ q = p + 1 ∧ ¬ p = q + 1 ∧ ¬ q + 1 = p := by omega
theorem undrew {w V : World} (hb : Below w.drew.heap.size w.drew V) : Below w.heap.size w V := bt (Below.drew (Below.refl _ w)) hb
/-- Two boxes made, two rows of the call's own. -/
def Fin (W F : World) (n m : Bool) (xs ys : List Int) (pa pb ga ca gb cb : Nat) : Prop := Box F pa 24 #[.bool n, (.slice (some ⟨ga, 0, none⟩) xs.length ca)] ∧ Box F pb 24 #[.bool m, (.slice (some ⟨gb, 0, none⟩) ys.length cb)] ∧ (F.ownsRow W.heap.size 53 1 (.slice (some ⟨ga, 0, none⟩) (xs.length + 3) ca) (xs.length + 3) ((xs ++ marks 3).map (Value.int .u32))) ∧ (F.ownsRow W.heap.size 53 1 (.slice (some ⟨gb, 0, none⟩) (ys.length + 3) cb) (ys.length + 3) ((ys ++ marks 3).map (Value.int .u32))) ∧ Below W.heap.size W F
theorem fin_oo {W w4 : World} {n m : Bool} {xs ys : List Int} {ga ca gb cb : Nat} (oa : w4.ownsRow W.heap.size 53 1 (.slice (some ⟨ga, 0, none⟩) (xs.length + 3) ca) (xs.length + 3) ((xs ++ marks 3).map (Value.int .u32))) (ob : w4.ownsRow W.heap.size 53 1 (.slice (some ⟨gb, 0, none⟩) (ys.length + 3) cb) (ys.length + 3) ((ys ++ marks 3).map (Value.int .u32))) (hb : Below W.heap.size W w4) {pa pb : Nat} (ha : Box w4 pa 24 #[.bool false, .slice none 0 0]) (hz : Box w4 pb 24 #[.bool false, .slice none 0 0]) (hne : pa ≠ pb) (la : W.heap.size ≤ pa) (lb : W.heap.size ≤ pb) :
    Fin W ((((w4.setCell ⟨pa, 0, none⟩ (.bool n)).setCell ⟨pa, 1, none⟩ (.slice (some ⟨ga, 0, none⟩) xs.length ca)).setCell ⟨pb, 0, none⟩ (.bool m)).setCell ⟨pb, 1, none⟩ (.slice (some ⟨gb, 0, none⟩) ys.length cb)) n m xs ys pa pb ga ca gb cb := by
  have h1 := ha.put2 (.bool n) (.slice (some ⟨ga, 0, none⟩) xs.length ca)
  have h2 := hz.far2 (Ne.symm hne) (.bool n) (.slice (some ⟨ga, 0, none⟩) xs.length ca)
  have o1 := own_put2 oa pa (own_ne_box oa ha (by decide)) (.bool n) (.slice (some ⟨ga, 0, none⟩) xs.length ca)
  have o2 := own_put2 ob pa (own_ne_box ob ha (by decide)) (.bool n) (.slice (some ⟨ga, 0, none⟩) xs.length ca)
  exact ⟨h1.far2 hne _ _, h2.put2 _ _, own_put2 o1 pb (own_ne_box o1 h2 (by decide)) _ _, own_put2 o2 pb (own_ne_box o2 h2 (by decide)) _ _, below_put2 (below_put2 hb _ la _ _) _ lb _ _⟩
theorem fin_on {W w4 : World} {n m : Bool} {xs ys : List Int} {ga ca gb cb : Nat} (oa : w4.ownsRow W.heap.size 53 1 (.slice (some ⟨ga, 0, none⟩) (xs.length + 3) ca) (xs.length + 3) ((xs ++ marks 3).map (Value.int .u32))) (ob : w4.ownsRow W.heap.size 53 1 (.slice (some ⟨gb, 0, none⟩) (ys.length + 3) cb) (ys.length + 3) ((ys ++ marks 3).map (Value.int .u32))) (hb : Below W.heap.size W w4) {pa : Nat} (ha : Box w4 pa 24 #[.bool false, .slice none 0 0]) (la : W.heap.size ≤ pa) :
    Fin W (((w4.setCell ⟨pa, 0, none⟩ (.bool n)).setCell ⟨pa, 1, none⟩ (.slice (some ⟨ga, 0, none⟩) xs.length ca)).alloc (.cells #[.bool m, (.slice (some ⟨gb, 0, none⟩) ys.length cb)] 24)) n m xs ys pa w4.heap.size ga ca gb cb := by
  have h1 := ha.put2 (.bool n) (.slice (some ⟨ga, 0, none⟩) xs.length ca)
  have o1 := own_put2 oa pa (own_ne_box oa ha (by decide)) (.bool n) (.slice (some ⟨ga, 0, none⟩) xs.length ca)
  have o2 := own_put2 ob pa (own_ne_box ob ha (by decide)) (.bool n) (.slice (some ⟨ga, 0, none⟩) xs.length ca)
  have h2 := Box.made ((w4.setCell ⟨pa, 0, none⟩ (.bool n)).setCell ⟨pa, 1, none⟩ (.slice (some ⟨ga, 0, none⟩) xs.length ca)) 24 #[.bool m, (.slice (some ⟨gb, 0, none⟩) ys.length cb)]
  have e : ((w4.setCell ⟨pa, 0, none⟩ (.bool n)).setCell ⟨pa, 1, none⟩ (.slice (some ⟨ga, 0, none⟩) xs.length ca)).heap.size = w4.heap.size := by simp
  rw [e] at h2
  exact ⟨h1.later (alloc_later _ _) h1.lt, h2, owns_later o1 (alloc_later _ _), owns_later o2 (alloc_later _ _), bt (below_put2 hb _ la _ _) (alloc_later _ _)⟩
theorem fin_no {W w4 : World} {n m : Bool} {xs ys : List Int} {ga ca gb cb : Nat} (oa : w4.ownsRow W.heap.size 53 1 (.slice (some ⟨ga, 0, none⟩) (xs.length + 3) ca) (xs.length + 3) ((xs ++ marks 3).map (Value.int .u32))) (ob : w4.ownsRow W.heap.size 53 1 (.slice (some ⟨gb, 0, none⟩) (ys.length + 3) cb) (ys.length + 3) ((ys ++ marks 3).map (Value.int .u32))) (hb : Below W.heap.size W w4) {pb : Nat} (hz : Box w4 pb 24 #[.bool false, .slice none 0 0]) (lb : W.heap.size ≤ pb) :
    Fin W (((w4.setCell ⟨pb, 0, none⟩ (.bool m)).setCell ⟨pb, 1, none⟩ (.slice (some ⟨gb, 0, none⟩) ys.length cb)).alloc (.cells #[.bool n, (.slice (some ⟨ga, 0, none⟩) xs.length ca)] 24)) n m xs ys w4.heap.size pb ga ca gb cb := by
  have h1 := hz.put2 (.bool m) (.slice (some ⟨gb, 0, none⟩) ys.length cb)
  have o1 := own_put2 oa pb (own_ne_box oa hz (by decide)) (.bool m) (.slice (some ⟨gb, 0, none⟩) ys.length cb)
  have o2 := own_put2 ob pb (own_ne_box ob hz (by decide)) (.bool m) (.slice (some ⟨gb, 0, none⟩) ys.length cb)
  have h2 := Box.made ((w4.setCell ⟨pb, 0, none⟩ (.bool m)).setCell ⟨pb, 1, none⟩ (.slice (some ⟨gb, 0, none⟩) ys.length cb)) 24 #[.bool n, (.slice (some ⟨ga, 0, none⟩) xs.length ca)]
  have e : ((w4.setCell ⟨pb, 0, none⟩ (.bool m)).setCell ⟨pb, 1, none⟩ (.slice (some ⟨gb, 0, none⟩) ys.length cb)).heap.size = w4.heap.size := by simp
  rw [e] at h2
  exact ⟨h2, h1.later (alloc_later _ _) h1.lt, owns_later o1 (alloc_later _ _), owns_later o2 (alloc_later _ _), bt (below_put2 hb _ lb _ _) (alloc_later _ _)⟩
theorem fin_nn {W w4 : World} {n m : Bool} {xs ys : List Int} {ga ca gb cb : Nat} (oa : w4.ownsRow W.heap.size 53 1 (.slice (some ⟨ga, 0, none⟩) (xs.length + 3) ca) (xs.length + 3) ((xs ++ marks 3).map (Value.int .u32))) (ob : w4.ownsRow W.heap.size 53 1 (.slice (some ⟨gb, 0, none⟩) (ys.length + 3) cb) (ys.length + 3) ((ys ++ marks 3).map (Value.int .u32))) (hb : Below W.heap.size W w4) : Fin W ((w4.alloc (.cells #[.bool n, (.slice (some ⟨ga, 0, none⟩) xs.length ca)] 24)).alloc (.cells #[.bool m, (.slice (some ⟨gb, 0, none⟩) ys.length cb)] 24)) n m xs ys w4.heap.size (w4.heap.size + 1) ga ca gb cb := by
  have h1 := (Box.made w4 24 #[.bool n, (.slice (some ⟨ga, 0, none⟩) xs.length ca)])
  have h2 := Box.made (w4.alloc (.cells #[.bool n, (.slice (some ⟨ga, 0, none⟩) xs.length ca)] 24)) 24 #[.bool m, (.slice (some ⟨gb, 0, none⟩) ys.length cb)]
  have e : (w4.alloc (.cells #[.bool n, (.slice (some ⟨ga, 0, none⟩) xs.length ca)] 24)).heap.size = w4.heap.size + 1 := by simp
  rw [e] at h2
  have l2 := bt (alloc_later w4 (.cells #[.bool n, (.slice (some ⟨ga, 0, none⟩) xs.length ca)] 24)) (alloc_later (w4.alloc (.cells #[.bool n, (.slice (some ⟨ga, 0, none⟩) xs.length ca)] 24)) (.cells #[.bool m, (.slice (some ⟨gb, 0, none⟩) ys.length cb)] 24))
  exact ⟨h1.later (alloc_later _ _) h1.lt, h2, owns_later oa l2, owns_later ob l2, bt hb l2⟩
theorem fin_nn' {W w4 : World} {n m : Bool} {xs ys : List Int} {ga ca gb cb : Nat} (oa : w4.ownsRow W.heap.size 53 1 (.slice (some ⟨ga, 0, none⟩) (xs.length + 3) ca) (xs.length + 3) ((xs ++ marks 3).map (Value.int .u32))) (ob : w4.ownsRow W.heap.size 53 1 (.slice (some ⟨gb, 0, none⟩) (ys.length + 3) cb) (ys.length + 3) ((ys ++ marks 3).map (Value.int .u32))) (hb : Below W.heap.size W w4) : Fin W ((w4.alloc (.cells #[.bool m, (.slice (some ⟨gb, 0, none⟩) ys.length cb)] 24)).alloc (.cells #[.bool n, (.slice (some ⟨ga, 0, none⟩) xs.length ca)] 24)) n m xs ys (w4.heap.size + 1) w4.heap.size ga ca gb cb := by
  have h1 := (Box.made w4 24 #[.bool m, (.slice (some ⟨gb, 0, none⟩) ys.length cb)])
  have h2 := Box.made (w4.alloc (.cells #[.bool m, (.slice (some ⟨gb, 0, none⟩) ys.length cb)] 24)) 24 #[.bool n, (.slice (some ⟨ga, 0, none⟩) xs.length ca)]
  have e : (w4.alloc (.cells #[.bool m, (.slice (some ⟨gb, 0, none⟩) ys.length cb)] 24)).heap.size = w4.heap.size + 1 := by simp
  rw [e] at h2
  have l2 := bt (alloc_later w4 (.cells #[.bool m, (.slice (some ⟨gb, 0, none⟩) ys.length cb)] 24)) (alloc_later (w4.alloc (.cells #[.bool m, (.slice (some ⟨gb, 0, none⟩) ys.length cb)] 24)) (.cells #[.bool n, (.slice (some ⟨ga, 0, none⟩) xs.length ca)] 24))
  exact ⟨h2, h1.later (alloc_later _ _) h1.lt, owns_later oa l2, owns_later ob l2, bt hb l2⟩
theorem lent_front {W : World} {base g cap : Nat} {xs : List Int} (ho : W.ownsRow base 53 1 (.slice (some ⟨g, 0, none⟩) (xs.length + 3) cap) (xs.length + 3) ((xs ++ marks 3).map (Value.int .u32))) : W.ownsRow base 53 1 (.slice (some ⟨g, 0, none⟩) xs.length cap) xs.length (xs.map (Value.int .u32)) := by
  rw [List.map_append] at ho
  exact owns_front (k := 3) ho (by simp)


/-- Boxes that hold fractions. -/
def Boxes3 (W : World) (l : List (Nat × Array Value)) : Prop := ∀ p ∈ l, Box W p.1 27 p.2
theorem Boxes3.later {W W' : World} {l : List (Nat × Array Value)} (h : Boxes3 W l) (hb : Below W.heap.size W W') : Boxes3 W' l := fun p hp => (h p hp).later hb (h p hp).lt
theorem Boxes3.put {W : World} {l : List (Nat × Array Value)} (h : Boxes3 W l) (n : Bool) (v u : Value) : Boxes3 (W.alloc (.cells #[.bool n, v, u] 27)) ((W.heap.size, #[.bool n, v, u]) :: l) := fun p hp => by
  cases hp with
  | head => exact Box.made W _ _
  | tail _ hp => exact (h p hp).later (alloc_later _ _) (h p hp).lt
theorem Boxes3.get {W : World} {l : List (Nat × Array Value)} (h : Boxes3 W l) {g : Nat} {n : Bool} {v u : Value} (hm : (g, #[.bool n, v, u]) ∈ l) : W.cell? ⟨g, 0, none⟩ = some (.bool n) ∧ W.cell? ⟨g, 1, none⟩ = some v ∧ W.cell? ⟨g, 2, none⟩ = some u := ⟨(h _ hm).cell 0, (h _ hm).cell 1, (h _ hm).cell 2⟩

/-- 6 lists of the call's own, made one behind the other, in a list of lists. -/
theorem six_apart {w : World} {b b1 b2 b3 b4 b5 b6 n1 n2 n3 n4 n5 n6 : Nat} {v1 v2 v3 v4 v5 v6 : Value} {x1 x2 x3 x4 x5 x6 : List Int} (c1 c2 c3 c4 c5 c6 c7 : Nat) (hm : c1 ≤ c2 ∧ c2 ≤ c3 ∧ c3 ≤ c4 ∧ c4 ≤ c5 ∧ c5 ≤ c6 ∧ c6 ≤ c7)
    (o1 : w.ownsRow b1 53 1 v1 n1 (x1.map (Value.int .u32))) (d1 : Wd x1) (l1 : x1.length ≤ 2000000) (e1 : b ≤ b1)
    (o2 : w.ownsRow b2 53 1 v2 n2 (x2.map (Value.int .u32))) (d2 : Wd x2) (l2 : x2.length ≤ 2000000) (e2 : b ≤ b2)
    (o3 : w.ownsRow b3 53 1 v3 n3 (x3.map (Value.int .u32))) (d3 : Wd x3) (l3 : x3.length ≤ 2000000) (e3 : b ≤ b3)
    (o4 : w.ownsRow b4 53 1 v4 n4 (x4.map (Value.int .u32))) (d4 : Wd x4) (l4 : x4.length ≤ 2000000) (e4 : b ≤ b4)
    (o5 : w.ownsRow b5 53 1 v5 n5 (x5.map (Value.int .u32))) (d5 : Wd x5) (l5 : x5.length ≤ 2000000) (e5 : b ≤ b5)
    (o6 : w.ownsRow b6 53 1 v6 n6 (x6.map (Value.int .u32))) (d6 : Wd x6) (l6 : x6.length ≤ 2000000) (e6 : b ≤ b6)
    (i1 : Within v1 c3 c4) (i2 : Within v2 c4 c5) (i3 : Within v3 c5 c6) (i4 : Within v4 c6 c7) (i5 : Within v5 c1 c2) (i6 : Within v6 c2 c3) :
    (∀ j, j < 6 → Wd (([x1, x2, x3, x4, x5, x6] : List (List Int))[j]?.getD [])) ∧ (∀ j, j < 6 → (([x1, x2, x3, x4, x5, x6] : List (List Int))[j]?.getD []).length ≤ 1099511627776) ∧ (∀ j, j < 6 → w.ownsRow b 53 1 (([v1, v2, v3, v4, v5, v6] : List Value)[j]?.getD undef) (([x1, x2, x3, x4, x5, x6] : List (List Int))[j]?.getD []).length ((([x1, x2, x3, x4, x5, x6] : List (List Int))[j]?.getD []).map (Value.int .u32))) ∧ ∀ i j, i < 6 → j < 6 → i ≠ j → (([v1, v2, v3, v4, v5, v6] : List Value)[i]?.getD undef).ownBlock = none ∨ (([v1, v2, v3, v4, v5, v6] : List Value)[i]?.getD undef).ownBlock ≠ (([v1, v2, v3, v4, v5, v6] : List Value)[j]?.getD undef).ownBlock := by
  have k1 : x1.length = n1 := by have := o1.1; simpa using this
  have k2 : x2.length = n2 := by have := o2.1; simpa using this
  have k3 : x3.length = n3 := by have := o3.1; simpa using this
  have k4 : x4.length = n4 := by have := o4.1; simpa using this
  have k5 : x5.length = n5 := by have := o5.1; simpa using this
  have k6 : x6.length = n6 := by have := o6.1; simpa using this
  subst k1; subst k2; subst k3; subst k4; subst k5; subst k6
  obtain ⟨m1, m2, m3, m4, m5, m6⟩ := hm
  refine ⟨fun j hj => ?_, fun j hj => ?_, fun j hj => ?_, apart_perm (V := fun j => ([v1, v2, v3, v4, v5, v6] : List Value)[j]?.getD undef) (fun j => [c1, c2, c3, c4, c5, c6, c7][j]?.getD 0) (fun j => ([2, 3, 4, 5, 0, 1] : List Nat)[j]?.getD 0) (fun j hj => ?_) (by decide) (by decide) (fun j hj => ?_)⟩
  · match j, hj with
    | 0, _ => exact d1
    | 1, _ => exact d2
    | 2, _ => exact d3
    | 3, _ => exact d4
    | 4, _ => exact d5
    | 5, _ => exact d6
  · match j, hj with
    | 0, _ => show x1.length ≤ _; omega
    | 1, _ => show x2.length ≤ _; omega
    | 2, _ => show x3.length ≤ _; omega
    | 3, _ => show x4.length ≤ _; omega
    | 4, _ => show x5.length ≤ _; omega
    | 5, _ => show x6.length ≤ _; omega
  · match j, hj with
    | 0, _ => exact owns_base o1 e1
    | 1, _ => exact owns_base o2 e2
    | 2, _ => exact owns_base o3 e3
    | 3, _ => exact owns_base o4 e4
    | 4, _ => exact owns_base o5 e5
    | 5, _ => exact owns_base o6 e6
  · match j, hj with
    | 0, _ => exact m1
    | 1, _ => exact m2
    | 2, _ => exact m3
    | 3, _ => exact m4
    | 4, _ => exact m5
    | 5, _ => exact m6
  · match j, hj with
    | 0, _ => exact i1
    | 1, _ => exact i2
    | 2, _ => exact i3
    | 3, _ => exact i4
    | 4, _ => exact i5
    | 5, _ => exact i6

set_option maxHeartbeats 25600000 in
set_option maxRecDepth 100000 in
theorem ratioMakes_walk (n : Bool) (a : Option Addr) (k c : Nat) (xs : List Int) (m : Bool) (b : Option Addr) (l d : Nat) (ys : List Int) (nn dd : Int) (w : World) (h : Reads w w.heap.size a k c xs) (g : Reads w w.heap.size b l d ys) (hk : k ≤ 1048576) (hl : l ≤ 1048576) (n0 : -9223372036854775808 ≤ nn) (n1 : nn ≤ 9223372036854775807) (d0 : -9223372036854775808 ≤ dd) (d1 : dd ≤ 9223372036854775807) :
    Calls Try.prog 3 #[.agg #[.bool n, .slice a k c], .agg #[.bool m, .slice b l d], .int .i64 nn, .int .i64 dd] w fun e w' => e = .returned (.bool true) ∧ Below w.heap.size w w' := by
  have hlx := h.1
  subst hlx
  have hly := g.1
  subst hly
  have hs : Sl w (.slice a xs.length c) xs := ⟨a, c, rfl, h⟩
  have gs : Sl w (.slice b ys.length d) ys := ⟨b, d, rfl, g⟩
  have wx := h.2.1
  have wy := g.2.1
  clear h g
  have HB : Hid (Below w.heap.size w ((w.alloc (.cells #[.bool n, .slice a xs.length c] 24)).alloc (.cells #[.bool m, .slice b ys.length d] 24))) := bt (alloc_later _ _) (alloc_later _ _)
  have HX : Hid (Boxes ((w.alloc (.cells #[.bool n, .slice a xs.length c] 24)).alloc (.cells #[.bool m, .slice b ys.length d] 24)) [((w.alloc (.cells #[.bool n, .slice a xs.length c] 24)).heap.size, #[.bool m, .slice b ys.length d]), (w.heap.size, #[.bool n, .slice a xs.length c])]) := Boxes.put (Boxes.put (l := []) (fun p hp => by cases hp) n _) m _
  have hws : (w.alloc (.cells #[.bool n, .slice a xs.length c] 24)).heap.size = w.heap.size + 1 := by simp
  rw [hws] at HX
  clear hws
  have HS := hid (And.intro (hs.later HB.out) (gs.later HB.out))
  clear hs gs
  go_enter Try.func3, Try.ntmps3
  go_upto_region 1 with fail
  generalize ((w.alloc (.cells #[.bool n, .slice a xs.length c] 24)).alloc (.cells #[.bool m, .slice b ys.length d] 24)) = w2 at *
  have hs2 := HB.out.size
  have HK : Hid (∀ V, Below w2.heap.size w2 V → V.cell? ⟨w.heap.size, 0, none⟩ = some (.bool n) ∧ V.cell? ⟨w.heap.size, 1, none⟩ = some (.slice a xs.length c) ∧ V.cell? ⟨w.heap.size + 1, 0, none⟩ = some (.bool m) ∧ V.cell? ⟨w.heap.size + 1, 1, none⟩ = some (.slice b ys.length d)) := fun V hb => by
    obtain ⟨p0, p1⟩ := (HX.out.later hb).get (.tail _ (.head _))
    obtain ⟨q0, q1⟩ := (HX.out.later hb).get (.head _)
    exact ⟨p0, p1, q0, q1⟩
  have HCx : Hid (∀ V, Below w2.heap.size w2 V → Calls Try.prog 5 #[.agg #[.bool n, .slice a xs.length c]] V fun e V' => ∃ g1 c1, e = .returned (.agg #[.bool n, (.slice (some ⟨g1, 0, none⟩) xs.length c1)]) ∧ Hid (V'.ownsRow w2.heap.size 53 1 (.slice (some ⟨g1, 0, none⟩) (xs.length + 3) c1) (xs.length + 3) ((xs ++ marks 3).map (Value.int .u32)) ∧ Below V.heap.size V V' ∧ Below w2.heap.size w2 V' ∧ V.heap.size ≤ g1 ∧ g1 < V'.heap.size) ∧ V'.cell? ⟨w.heap.size, 0, none⟩ = some (.bool n) ∧ V'.cell? ⟨w.heap.size, 1, none⟩ = some (.slice a xs.length c) ∧ V'.cell? ⟨w.heap.size + 1, 0, none⟩ = some (.bool m) ∧ V'.cell? ⟨w.heap.size + 1, 1, none⟩ = some (.slice b ys.length d)) := fun V hb => by
    refine Calls.mono (lentWhole_any n _ xs V (HS.out.1.later hb) (by omega)) ?_
    rintro e V' ⟨g, c, rfl, o, hb'⟩
    exact ⟨g, c, rfl, ⟨owns_base o hb.size, hb', bt hb hb', (o.lt g rfl).1, (o.lt g rfl).2⟩, HK.out V' (bt hb hb')⟩
  have HCy : Hid (∀ V, Below w2.heap.size w2 V → Calls Try.prog 5 #[.agg #[.bool m, .slice b ys.length d]] V fun e V' => ∃ g1 c1, e = .returned (.agg #[.bool m, (.slice (some ⟨g1, 0, none⟩) ys.length c1)]) ∧ Hid (V'.ownsRow w2.heap.size 53 1 (.slice (some ⟨g1, 0, none⟩) (ys.length + 3) c1) (ys.length + 3) ((ys ++ marks 3).map (Value.int .u32)) ∧ Below V.heap.size V V' ∧ Below w2.heap.size w2 V' ∧ V.heap.size ≤ g1 ∧ g1 < V'.heap.size) ∧ V'.cell? ⟨w.heap.size, 0, none⟩ = some (.bool n) ∧ V'.cell? ⟨w.heap.size, 1, none⟩ = some (.slice a xs.length c) ∧ V'.cell? ⟨w.heap.size + 1, 0, none⟩ = some (.bool m) ∧ V'.cell? ⟨w.heap.size + 1, 1, none⟩ = some (.slice b ys.length d)) := fun V hb => by
    refine Calls.mono (lentWhole_any m _ ys V (HS.out.2.later hb) (by omega)) ?_
    rintro e V' ⟨g, c, rfl, o, hb'⟩
    exact ⟨g, c, rfl, ⟨owns_base o hb.size, hb', bt hb hb', (o.lt g rfl).1, (o.lt g rfl).2⟩, HK.out V' (bt hb hb')⟩
  have HBR := hid (Below.refl w2.heap.size w2)
  obtain ⟨p00, p01⟩ := HX.out.get (.tail _ (.head _))
  obtain ⟨p10, p11⟩ := HX.out.get (.head _)
  have HW2 := hid (show w.heap.size + 1 < w2.heap.size from (HX.out _ (.head _)).lt)
  obtain ⟨m1, m2, m3, m4, m5, m6⟩ := nes HW2.out
  go_cut [9, 10] from 19 (fun s5 s6 wx => ∃ pa pb ga ca gb cb, s5 = .pointer (some ⟨pa, 0, none⟩) ∧ s6 = .pointer (some ⟨pb, 0, none⟩) ∧ Hid (Fin w2 wx n m xs ys pa pb ga ca gb cb ∧ w2.heap.size ≤ ga ∧ ga < gb ∧ gb < wx.heap.size))
  case first =>
    have hs0 := HK.out _ HBR.out.drew
    go_region_held3 (fun V : World => V.cell? ⟨w.heap.size, 0, none⟩ = some (.bool n) ∧ V.cell? ⟨w.heap.size, 1, none⟩ = some (.slice a xs.length c) ∧ V.cell? ⟨w.heap.size + 1, 0, none⟩ = some (.bool m) ∧ V.cell? ⟨w.heap.size + 1, 1, none⟩ = some (.slice b ys.length d)) (first | exact hs4 | exact hs3 | exact hs0 | with_reducible exact HK.out _ (below_al HE4.out.2.2.1 _) | with_reducible exact HK.out _ (below_al (below_al HE4.out.2.2.1 _) _) | with_reducible exact HK.out _ (below_al HE3.out.2.2.1 _) | with_reducible exact HK.out _ (below_al (below_al HE3.out.2.2.1 _) _) | with_reducible exact HK.out _ (below_al HBR.out _).drew | with_reducible exact HK.out _ (below_al (below_al HBR.out _) _).drew | with_reducible exact HK.out _ (below_put2 HE4.out.2.2.1 _ (by omega) _ _) | with_reducible exact HK.out _ (below_al (below_put2 HE4.out.2.2.1 _ (by omega) _ _) _) | with_reducible exact HK.out _ (below_put2 (below_put2 HE4.out.2.2.1 _ (by omega) _ _) _ (by omega) _ _) | go_keep)
      (first
        | (go_at_call 5; with_reducible refine Calls.mono (HCx.out _ (by first | exact HBR.out.drew | exact (below_al HBR.out _).drew | exact (below_al (below_al HBR.out _) _).drew)) ?_; rintro e w3 ⟨ga, ca, rfl, HE3, hs3⟩; obtain ⟨l1, l2, l3, l4, l5, l6⟩ := nes (Nat.lt_of_lt_of_le HW2.out HE3.out.2.2.1.size); first | (have HZ := hid (zb2 (undrew HE3.out.2.1)); have HZ1 := hid HZ.out.1; have HZ2 := hid HZ.out.2; clear HZ; obtain ⟨y0, y1, y2, y3⟩ := HZ1.out.c2; obtain ⟨u0, u1, u2, u3⟩ := HZ2.out.c2; obtain ⟨n1, n2⟩ := ne_new HZ1.out; obtain ⟨n3, n4⟩ := ne_new HZ2.out) | (have HZ1 := hid (zb1 (undrew HE3.out.2.1)); obtain ⟨y0, y1, y2, y3⟩ := HZ1.out.c2; obtain ⟨n1, n2⟩ := ne_new HZ1.out) | skip)
        | (go_at_call 5; with_reducible refine Calls.mono (HCy.out _ (by first | exact HE3.out.2.2.1 | exact below_al HE3.out.2.2.1 _ | exact below_al (below_al HE3.out.2.2.1 _) _)) ?_; rintro e w4 ⟨gb, cb, rfl, HE4, hs4⟩; (first | (have HL4 := hid (unal2 (w := w3) HE4.out.2.1)) | (have HL4 := hid (unal1 (w := w3) HE4.out.2.1)) | (have HL4 := hid HE4.out.2.1)); (first | (have HY1 := hid (HZ1.out.later HL4.out HZ1.out.lt); clear y0 y1 y2 y3; have n0 : ¬ w2.heap.size = w3.heap.size := Nat.ne_of_lt n1; obtain ⟨y0, y1, y2, y3⟩ := HY1.out.c2; obtain ⟨k1, k2⟩ := ne_new HY1.out) | skip); (first | (have HY2 := hid (HZ2.out.later HL4.out HZ2.out.lt); clear u0 u1 u2 u3; obtain ⟨u0, u1, u2, u3⟩ := HY2.out.c2; obtain ⟨k3, k4⟩ := ne_new HY2.out) | skip); (first | (have HZ := hid (zb2 HE4.out.2.1); have HZ3 := hid HZ.out.1; have HZ4 := hid HZ.out.2; clear HZ; obtain ⟨v0, v1, v2, v3⟩ := HZ3.out.c2; obtain ⟨t0, t1, t2, t3⟩ := HZ4.out.c2; obtain ⟨n5, n6⟩ := ne_new HZ3.out; obtain ⟨n7, n8⟩ := ne_new HZ4.out) | (have HZ3 := hid (zb1 HE4.out.2.1); obtain ⟨v0, v1, v2, v3⟩ := HZ3.out.c2; obtain ⟨n5, n6⟩ := ne_new HZ3.out) | skip)))
    all_goals
      have HOa := hid (owns_later HE3.out.1 HL4.out)
      have hz23 := HE3.out.2.2.1.size
      have HG : Hid (w2.heap.size ≤ ga ∧ ga < gb ∧ ∀ s, w4.heap.size ≤ s → gb < s) := by
        have e1 := HE3.out.2.2.2.1
        have e2 := HE3.out.2.2.2.2
        have e3 := HE4.out.2.2.2.1
        have e4 := HE4.out.2.2.2.2
        simp only [World.size_alloc, World.size_drew] at e1 e3
        exact ⟨by omega, by omega, fun s hs => by omega⟩
      go_wp2_with fail
      go_meet
    all_goals (first | with_reducible exact ⟨_, _, ga, ca, gb, cb, rfl, rfl, hid (And.intro (fin_oo HOa.out HE4.out.1 HE4.out.2.2.1 HY1.out HY2.out (by omega) (by omega) (by omega)) (And.intro HG.out.1 (And.intro HG.out.2.1 (HG.out.2.2 _ (by simp <;> omega)))))⟩ | with_reducible exact ⟨_, _, ga, ca, gb, cb, rfl, rfl, hid (And.intro (fin_oo HOa.out HE4.out.1 HE4.out.2.2.1 HY2.out HY1.out (by omega) (by omega) (by omega)) (And.intro HG.out.1 (And.intro HG.out.2.1 (HG.out.2.2 _ (by simp <;> omega)))))⟩ | with_reducible exact ⟨_, _, ga, ca, gb, cb, rfl, rfl, hid (And.intro (fin_oo HOa.out HE4.out.1 HE4.out.2.2.1 HY1.out HZ3.out (by omega) (by omega) (by omega)) (And.intro HG.out.1 (And.intro HG.out.2.1 (HG.out.2.2 _ (by simp <;> omega)))))⟩ | with_reducible exact ⟨_, _, ga, ca, gb, cb, rfl, rfl, hid (And.intro (fin_oo HOa.out HE4.out.1 HE4.out.2.2.1 HZ3.out HY1.out (by omega) (by omega) (by omega)) (And.intro HG.out.1 (And.intro HG.out.2.1 (HG.out.2.2 _ (by simp <;> omega)))))⟩ | with_reducible exact ⟨_, _, ga, ca, gb, cb, rfl, rfl, hid (And.intro (fin_oo HOa.out HE4.out.1 HE4.out.2.2.1 HZ3.out HZ4.out (by omega) (by omega) (by omega)) (And.intro HG.out.1 (And.intro HG.out.2.1 (HG.out.2.2 _ (by simp <;> omega)))))⟩ | with_reducible exact ⟨_, _, ga, ca, gb, cb, rfl, rfl, hid (And.intro (fin_oo HOa.out HE4.out.1 HE4.out.2.2.1 HZ4.out HZ3.out (by omega) (by omega) (by omega)) (And.intro HG.out.1 (And.intro HG.out.2.1 (HG.out.2.2 _ (by simp <;> omega)))))⟩ | with_reducible exact ⟨_, _, ga, ca, gb, cb, rfl, rfl, hid (And.intro (fin_on HOa.out HE4.out.1 HE4.out.2.2.1 HY1.out (by omega)) (And.intro HG.out.1 (And.intro HG.out.2.1 (HG.out.2.2 _ (by simp <;> omega)))))⟩ | with_reducible exact ⟨_, _, ga, ca, gb, cb, rfl, rfl, hid (And.intro (fin_on HOa.out HE4.out.1 HE4.out.2.2.1 HZ3.out (by omega)) (And.intro HG.out.1 (And.intro HG.out.2.1 (HG.out.2.2 _ (by simp <;> omega)))))⟩ | with_reducible exact ⟨_, _, ga, ca, gb, cb, rfl, rfl, hid (And.intro (fin_no HOa.out HE4.out.1 HE4.out.2.2.1 HY1.out (by omega)) (And.intro HG.out.1 (And.intro HG.out.2.1 (HG.out.2.2 _ (by simp <;> omega)))))⟩ | with_reducible exact ⟨_, _, ga, ca, gb, cb, rfl, rfl, hid (And.intro (fin_no HOa.out HE4.out.1 HE4.out.2.2.1 HZ3.out (by omega)) (And.intro HG.out.1 (And.intro HG.out.2.1 (HG.out.2.2 _ (by simp <;> omega)))))⟩ | with_reducible exact ⟨_, _, ga, ca, gb, cb, rfl, rfl, hid (And.intro (fin_nn HOa.out HE4.out.1 HE4.out.2.2.1 ) (And.intro HG.out.1 (And.intro HG.out.2.1 (HG.out.2.2 _ (by simp <;> omega)))))⟩ | with_reducible exact ⟨_, _, ga, ca, gb, cb, rfl, rfl, hid (And.intro (fin_nn' HOa.out HE4.out.1 HE4.out.2.2.1 ) (And.intro HG.out.1 (And.intro HG.out.2.1 (HG.out.2.2 _ (by simp <;> omega)))))⟩)
  case rest =>
    obtain ⟨pa, pb, ga, ca, gb, cb, rfl, rfl, HF⟩ := hcut
    have hsC := HF.out.1.2.2.2.2.size
    have HG := hid HF.out.2
    have HLA := hid HF.out.1.2.2.1
    have HLB := hid HF.out.1.2.2.2.1
    replace HX := hid (((HX.out.later HF.out.1.2.2.2.2).cons HF.out.1.1).cons HF.out.1.2.1)
    replace HS := hid (And.intro (HS.out.1.later HF.out.1.2.2.2.2) (HS.out.2.later HF.out.1.2.2.2.2))
    replace HB := hid (bt HB.out HF.out.1.2.2.2.2)
    have HO : Hid (Rows' wc []) := fun p hp => by cases hp
    have HR3 : Hid (Boxes3 wc []) := fun p hp => by cases hp
    clear HF HK HCx HCy HBR m1 m2 m3 m4 m5 m6 p00 p01 p10 p11
    have HC := hid (rmake_any n _ _ xs m _ _ ys _ (Sl.own (lent_front HLA.out) wx) (Sl.own (lent_front HLB.out) wy) (by omega) (by omega))
    obtain ⟨p00, p01⟩ := HX.out.get (.tail _ (.head _))
    obtain ⟨p10, p11⟩ := HX.out.get (.head _)
    go_wp2_with fail
    refine Calls.mono HC.out ?_
    rintro e w11 ⟨N1, U1, Z1, T1, D1, C1, rfl, o1, q1, t1, hb, hcut⟩
    clear p00 p01 p10 p11
    clear HC
    have hsw11 := hb.size
    obtain ⟨A1, K1, hs⟩ := own_slice' o1
    subst hs
    obtain ⟨B1, L1, hs⟩ := own_slice' q1
    subst hs
    obtain ⟨cc1, hc1, hd1, li, lj⟩ := hcut
    have HI1 := hid li
    have HJ1 := hid lj
    have HT1 := hid t1
    clear t1 li lj
    replace HX := hid (HX.out.later hb)
    replace HO := hid (HO.out.later hb)
    replace HR3 := hid (HR3.out.later hb)
    replace HS := hid (And.intro (HS.out.1.later hb) (HS.out.2.later hb))
    replace HLA := hid (owns_later HLA.out hb)
    replace HLB := hid (owns_later HLB.out hb)
    replace HB := hid (bt HB.out hb)
    clear hb
    replace HO := hid (HO.out.put o1)
    clear o1
    replace HO := hid (HO.out.put q1)
    clear q1
    replace HR3 := hid (HR3.out.put N1 (.slice A1 Z1.length K1) (.slice B1 D1.length L1))
    replace HX := hid (HX.out.later (alloc_later w11 (.cells #[.bool N1, .slice A1 Z1.length K1, .slice B1 D1.length L1] 27)))
    replace HO := hid (HO.out.later (alloc_later w11 (.cells #[.bool N1, .slice A1 Z1.length K1, .slice B1 D1.length L1] 27)))
    replace HS := hid (And.intro (HS.out.1.later (alloc_later w11 (.cells #[.bool N1, .slice A1 Z1.length K1, .slice B1 D1.length L1] 27))) (HS.out.2.later (alloc_later w11 (.cells #[.bool N1, .slice A1 Z1.length K1, .slice B1 D1.length L1] 27))))
    replace HLA := hid (owns_later HLA.out (alloc_later w11 (.cells #[.bool N1, .slice A1 Z1.length K1, .slice B1 D1.length L1] 27)))
    replace HLB := hid (owns_later HLB.out (alloc_later w11 (.cells #[.bool N1, .slice A1 Z1.length K1, .slice B1 D1.length L1] 27)))
    replace HB := hid (bt HB.out (alloc_later w11 (.cells #[.bool N1, .slice A1 Z1.length K1, .slice B1 D1.length L1] 27)))
    have hzV11 := (alloc_later w11 (.cells #[.bool N1, .slice A1 Z1.length K1, .slice B1 D1.length L1] 27)).size
    have HC := hid (make3_any n _ _ xs m _ _ ys _ HS.out.1 HS.out.2 (by omega) (by omega))
    obtain ⟨p00, p01⟩ := HX.out.get (.tail _ (.tail _ (.tail _ (.head _))))
    obtain ⟨p10, p11⟩ := HX.out.get (.tail _ (.tail _ (.head _)))
    go_wp2_with fail
    refine Calls.mono HC.out ?_
    generalize (w11.alloc (.cells #[.bool N1, .slice A1 Z1.length K1, .slice B1 D1.length L1] 27)) = V11 at *
    rintro e w12 ⟨M1, U, Y1, T, G1, F1, rfl, o1, q1, t1, hb⟩
    clear p00 p01 p10 p11
    clear HC
    have hsw12 := hb.size
    obtain ⟨rfl, rfl, rfl, rfl⟩ := HT1.out.same t1
    obtain ⟨P1, Q1, hs⟩ := own_slice' o1
    subst hs
    obtain ⟨R1, S1, hs⟩ := own_slice' q1
    subst hs
    clear t1
    replace HX := hid (HX.out.later hb)
    replace HO := hid (HO.out.later hb)
    replace HR3 := hid (HR3.out.later hb)
    replace HS := hid (And.intro (HS.out.1.later hb) (HS.out.2.later hb))
    replace HLA := hid (owns_later HLA.out hb)
    replace HLB := hid (owns_later HLB.out hb)
    replace HB := hid (bt HB.out hb)
    clear hb
    replace HO := hid (HO.out.put o1)
    clear o1
    replace HO := hid (HO.out.put q1)
    clear q1
    replace HR3 := hid (HR3.out.put N1 (.slice P1 Z1.length Q1) (.slice R1 D1.length S1))
    replace HX := hid (HX.out.later (alloc_later w12 (.cells #[.bool N1, .slice P1 Z1.length Q1, .slice R1 D1.length S1] 27)))
    replace HO := hid (HO.out.later (alloc_later w12 (.cells #[.bool N1, .slice P1 Z1.length Q1, .slice R1 D1.length S1] 27)))
    replace HS := hid (And.intro (HS.out.1.later (alloc_later w12 (.cells #[.bool N1, .slice P1 Z1.length Q1, .slice R1 D1.length S1] 27))) (HS.out.2.later (alloc_later w12 (.cells #[.bool N1, .slice P1 Z1.length Q1, .slice R1 D1.length S1] 27))))
    replace HLA := hid (owns_later HLA.out (alloc_later w12 (.cells #[.bool N1, .slice P1 Z1.length Q1, .slice R1 D1.length S1] 27)))
    replace HLB := hid (owns_later HLB.out (alloc_later w12 (.cells #[.bool N1, .slice P1 Z1.length Q1, .slice R1 D1.length S1] 27)))
    replace HB := hid (bt HB.out (alloc_later w12 (.cells #[.bool N1, .slice P1 Z1.length Q1, .slice R1 D1.length S1] 27)))
    have hzV12 := (alloc_later w12 (.cells #[.bool N1, .slice P1 Z1.length Q1, .slice R1 D1.length S1] 27)).size
    have HC := hid (rsmall_any nn dd (w12.alloc (.cells #[.bool N1, .slice P1 Z1.length Q1, .slice R1 D1.length S1] 27)) n0 n1 d0 d1)
    go_wp2_with fail
    refine Calls.mono HC.out ?_
    generalize (w12.alloc (.cells #[.bool N1, .slice P1 Z1.length Q1, .slice R1 D1.length S1] 27)) = V12 at *
    rintro e w13 ⟨N2, U2, Z2, T2, D2, C2, rfl, o2, q2, t2, hb, hcut⟩
    clear HC
    have hsw13 := hb.size
    obtain ⟨A2, K2, hs⟩ := own_slice' o2
    subst hs
    obtain ⟨B2, L2, hs⟩ := own_slice' q2
    subst hs
    obtain ⟨cc2, hc2, hd2, li, lj⟩ := hcut
    have HI2 := hid li
    have HJ2 := hid lj
    have HT2 := hid t2
    clear t2 li lj
    replace HX := hid (HX.out.later hb)
    replace HO := hid (HO.out.later hb)
    replace HR3 := hid (HR3.out.later hb)
    replace HS := hid (And.intro (HS.out.1.later hb) (HS.out.2.later hb))
    replace HLA := hid (owns_later HLA.out hb)
    replace HLB := hid (owns_later HLB.out hb)
    replace HB := hid (bt HB.out hb)
    clear hb
    replace HO := hid (HO.out.put o2)
    clear o2
    replace HO := hid (HO.out.put q2)
    clear q2
    replace HR3 := hid (HR3.out.put N2 (.slice A2 Z2.length K2) (.slice B2 D2.length L2))
    replace HX := hid (HX.out.later (alloc_later w13 (.cells #[.bool N2, .slice A2 Z2.length K2, .slice B2 D2.length L2] 27)))
    replace HO := hid (HO.out.later (alloc_later w13 (.cells #[.bool N2, .slice A2 Z2.length K2, .slice B2 D2.length L2] 27)))
    replace HS := hid (And.intro (HS.out.1.later (alloc_later w13 (.cells #[.bool N2, .slice A2 Z2.length K2, .slice B2 D2.length L2] 27))) (HS.out.2.later (alloc_later w13 (.cells #[.bool N2, .slice A2 Z2.length K2, .slice B2 D2.length L2] 27))))
    replace HLA := hid (owns_later HLA.out (alloc_later w13 (.cells #[.bool N2, .slice A2 Z2.length K2, .slice B2 D2.length L2] 27)))
    replace HLB := hid (owns_later HLB.out (alloc_later w13 (.cells #[.bool N2, .slice A2 Z2.length K2, .slice B2 D2.length L2] 27)))
    replace HB := hid (bt HB.out (alloc_later w13 (.cells #[.bool N2, .slice A2 Z2.length K2, .slice B2 D2.length L2] 27)))
    have hzV13 := (alloc_later w13 (.cells #[.bool N2, .slice A2 Z2.length K2, .slice B2 D2.length L2] 27)).size
    have HC := hid (small3_any nn dd (w13.alloc (.cells #[.bool N2, .slice A2 Z2.length K2, .slice B2 D2.length L2] 27)) n0 n1 d0 d1)
    go_wp2_with fail
    refine Calls.mono HC.out ?_
    generalize (w13.alloc (.cells #[.bool N2, .slice A2 Z2.length K2, .slice B2 D2.length L2] 27)) = V13 at *
    rintro e w14 ⟨M2, U, Y2, T, G2, F2, rfl, o2, q2, t2, hb⟩
    clear HC
    have hsw14 := hb.size
    obtain ⟨rfl, rfl, rfl, rfl⟩ := HT2.out.same t2
    obtain ⟨P2, Q2, hs⟩ := own_slice' o2
    subst hs
    obtain ⟨R2, S2, hs⟩ := own_slice' q2
    subst hs
    clear t2
    replace HX := hid (HX.out.later hb)
    replace HO := hid (HO.out.later hb)
    replace HR3 := hid (HR3.out.later hb)
    replace HS := hid (And.intro (HS.out.1.later hb) (HS.out.2.later hb))
    replace HLA := hid (owns_later HLA.out hb)
    replace HLB := hid (owns_later HLB.out hb)
    replace HB := hid (bt HB.out hb)
    clear hb
    replace HO := hid (HO.out.put o2)
    clear o2
    replace HO := hid (HO.out.put q2)
    clear q2
    replace HR3 := hid (HR3.out.put N2 (.slice P2 Z2.length Q2) (.slice R2 D2.length S2))
    replace HX := hid (HX.out.later (alloc_later w14 (.cells #[.bool N2, .slice P2 Z2.length Q2, .slice R2 D2.length S2] 27)))
    replace HO := hid (HO.out.later (alloc_later w14 (.cells #[.bool N2, .slice P2 Z2.length Q2, .slice R2 D2.length S2] 27)))
    replace HS := hid (And.intro (HS.out.1.later (alloc_later w14 (.cells #[.bool N2, .slice P2 Z2.length Q2, .slice R2 D2.length S2] 27))) (HS.out.2.later (alloc_later w14 (.cells #[.bool N2, .slice P2 Z2.length Q2, .slice R2 D2.length S2] 27))))
    replace HLA := hid (owns_later HLA.out (alloc_later w14 (.cells #[.bool N2, .slice P2 Z2.length Q2, .slice R2 D2.length S2] 27)))
    replace HLB := hid (owns_later HLB.out (alloc_later w14 (.cells #[.bool N2, .slice P2 Z2.length Q2, .slice R2 D2.length S2] 27)))
    replace HB := hid (bt HB.out (alloc_later w14 (.cells #[.bool N2, .slice P2 Z2.length Q2, .slice R2 D2.length S2] 27)))
    have hzV14 := (alloc_later w14 (.cells #[.bool N2, .slice P2 Z2.length Q2, .slice R2 D2.length S2] 27)).size
    have wz1 := HT1.out.wx
    have wd1 := HT1.out.wy
    obtain ⟨lz1, ld1⟩ := HT1.out.len
    have wz2 := HT2.out.wx
    have wd2 := HT2.out.wy
    obtain ⟨lz2, ld2⟩ := HT2.out.len
    have HC := hid (sameRatio_eq N1 _ _ _ _ Z1 D1 _ (HO.out.sl wz1 (.tail _ (.tail _ (.tail _ (.tail _ (.tail _ (.tail _ (.tail _ (.head _))))))))) (HO.out.sl wd1 (.tail _ (.tail _ (.tail _ (.tail _ (.tail _ (.tail _ (.head _)))))))) (HO.out.sl wz1 (.tail _ (.tail _ (.tail _ (.tail _ (.tail _ (.head _))))))) (HO.out.sl wd1 (.tail _ (.tail _ (.tail _ (.tail _ (.head _)))))) (by omega) (by omega))
    obtain ⟨p00, p01, p02⟩ := HR3.out.get (.tail _ (.tail _ (.tail _ (.head _))))
    obtain ⟨p10, p11, p12⟩ := HR3.out.get (.tail _ (.tail _ (.head _)))
    go_wp2_with fail
    refine Calls.mono HC.out ?_
    generalize (w14.alloc (.cells #[.bool N2, .slice P2 Z2.length Q2, .slice R2 D2.length S2] 27)) = V14 at *
    rintro e w15 ⟨rfl, hb⟩
    clear p00 p01 p02 p10 p11 p12
    clear HC
    have hsw15 := hb.size
    replace HX := hid (HX.out.later hb)
    replace HO := hid (HO.out.later hb)
    replace HR3 := hid (HR3.out.later hb)
    replace HS := hid (And.intro (HS.out.1.later hb) (HS.out.2.later hb))
    replace HLA := hid (owns_later HLA.out hb)
    replace HLB := hid (owns_later HLB.out hb)
    replace HB := hid (bt HB.out hb)
    clear hb
    have HC := hid (sameRatio_eq N2 _ _ _ _ Z2 D2 _ (HO.out.sl wz2 (.tail _ (.tail _ (.tail _ (.head _))))) (HO.out.sl wd2 (.tail _ (.tail _ (.head _)))) (HO.out.sl wz2 (.tail _ (.head _))) (HO.out.sl wd2 (.head _)) (by omega) (by omega))
    obtain ⟨p00, p01, p02⟩ := HR3.out.get (.tail _ (.head _))
    obtain ⟨p10, p11, p12⟩ := HR3.out.get (.head _)
    go_wp2_with fail
    refine Calls.mono HC.out ?_
    rintro e w16 ⟨rfl, hb⟩
    clear p00 p01 p02 p10 p11 p12
    clear HC
    have hsw16 := hb.size
    replace HX := hid (HX.out.later hb)
    replace HO := hid (HO.out.later hb)
    replace HR3 := hid (HR3.out.later hb)
    replace HS := hid (And.intro (HS.out.1.later hb) (HS.out.2.later hb))
    replace HLA := hid (owns_later HLA.out hb)
    replace HLB := hid (owns_later HLB.out hb)
    replace HB := hid (bt HB.out hb)
    clear hb
    have HC := hid (keptWhole_any n _ xs ga ca _ _ HS.out.1 (by omega) HLA.out)
    obtain ⟨p00, p01⟩ := HX.out.get (.tail _ (.head _))
    obtain ⟨p10, p11⟩ := HX.out.get (.tail _ (.tail _ (.tail _ (.head _))))
    go_wp2_with fail
    refine Calls.mono HC.out ?_
    rintro e w17 ⟨rfl, hb⟩
    clear p00 p01 p10 p11
    clear HC
    have hsw17 := hb.size
    replace HX := hid (HX.out.later hb)
    replace HO := hid (HO.out.later hb)
    replace HR3 := hid (HR3.out.later hb)
    replace HS := hid (And.intro (HS.out.1.later hb) (HS.out.2.later hb))
    replace HLA := hid (owns_later HLA.out hb)
    replace HLB := hid (owns_later HLB.out hb)
    replace HB := hid (bt HB.out hb)
    clear hb
    have HC := hid (keptWhole_any m _ ys gb cb _ _ HS.out.2 (by omega) HLB.out)
    obtain ⟨p00, p01⟩ := HX.out.get (.head _)
    obtain ⟨p10, p11⟩ := HX.out.get (.tail _ (.tail _ (.head _)))
    go_wp2_with fail
    refine Calls.mono HC.out ?_
    rintro e w18 ⟨rfl, hb⟩
    clear p00 p01 p10 p11
    clear HC
    have hsw18 := hb.size
    replace HX := hid (HX.out.later hb)
    replace HO := hid (HO.out.later hb)
    replace HR3 := hid (HR3.out.later hb)
    replace HS := hid (And.intro (HS.out.1.later hb) (HS.out.2.later hb))
    replace HLA := hid (owns_later HLA.out hb)
    replace HLB := hid (owns_later HLB.out hb)
    replace HB := hid (bt HB.out hb)
    clear hb
    have hszB := HB.out.size
    have HIA : Hid (Within (.slice (some ⟨ga, 0, none⟩) xs.length ca) w2.heap.size (ga + 1)) := fun g hg => by have h1 := HG.out; simp [Value.ownBlock] at hg; omega
    have HIB : Hid (Within (.slice (some ⟨gb, 0, none⟩) ys.length cb) (ga + 1) wc.heap.size) := fun g hg => by have h1 := HG.out; simp [Value.ownBlock] at hg; omega
    have hg1 := HG.out.1
    have hg2 := HG.out.2.1
    have hg3 := HG.out.2.2
    have HL := hid (six_apart (b := w.heap.size) w2.heap.size (ga + 1) wc.heap.size cc1 V12.heap.size cc2 w13.heap.size (by omega) (HO.out.get (.tail _ (.tail _ (.tail _ (.tail _ (.tail _ (.tail _ (.tail _ (.head _))))))))) wz1 (by omega) (by omega) (HO.out.get (.tail _ (.tail _ (.tail _ (.tail _ (.tail _ (.tail _ (.head _)))))))) wd1 (by omega) (by omega) (HO.out.get (.tail _ (.tail _ (.tail _ (.head _))))) wz2 (by omega) (by omega) (HO.out.get (.tail _ (.tail _ (.head _)))) wd2 (by omega) (by omega) (lent_front HLA.out) wx (by omega) (by omega) (lent_front HLB.out) wy (by omega) (by omega) HI1.out (Within.up HJ1.out (by omega)) HI2.out HJ2.out HIA.out HIB.out)
    have HAP := hid (apartRatios3 w.heap.size N1 N2 false A1 B1 A2 B2 (some ⟨ga, 0, none⟩) (some ⟨gb, 0, none⟩) Z1.length D1.length Z2.length D2.length xs.length ys.length K1 L1 K2 L2 ca cb w18.heap.size (fun j => ([Z1, D1, Z2, D2, xs, ys] : List (List Int))[j]?.getD []) (w18.alloc (.cells #[.bool N1, .slice A1 Z1.length K1, .slice B1 D1.length L1, .bool N2, .slice A2 Z2.length K2, .slice B2 D2.length L2, .bool false, .slice (some ⟨ga, 0, none⟩) xs.length ca, .slice (some ⟨gb, 0, none⟩) ys.length cb] 27)) (Box.made w18 _ _) (by simp; omega) HL.out.1 HL.out.2.1 (fun j hj => owns_later (HL.out.2.2.1 j hj) (alloc_later _ _)) HL.out.2.2.2)
    obtain ⟨p00, p01, p02⟩ := HR3.out.get (.tail _ (.tail _ (.tail _ (.head _))))
    obtain ⟨p10, p11, p12⟩ := HR3.out.get (.tail _ (.head _))
    obtain ⟨p20, p21⟩ := HX.out.get (.tail _ (.head _))
    obtain ⟨p30, p31⟩ := HX.out.get (.head _)
    have HBB := hid HB.out
    clear HL HIA HIB HI1 HI2 HJ1 HJ2 HT1 HT2 HO HLA HLB HS HB hg1 hg2 hg3
    go_wp2_with fail
    refine Calls.mono HAP.out ?_
    rintro e wE ⟨rfl, hbE⟩
    have HBE := hid (bt_alloc HBB.out hbE)
    clear hbE HAP
    go_wp2_with fail
    go_ret
    exact ⟨rfl, HBE.out⟩
end Go.Proofs.Ytjfclfoefoiniaa

