/- nat.replace: a number in own memory becomes its rest by another one. -/
import Derived.Test.YtbcangblmadnpacLeaps
namespace Go.Proofs.Ytbcangblmadnpac
open Go.RowKit
set_option linter.unusedVariables false

/-- Words set to nought, one behind the other. -/
theorem clear_cells {base g n cap : Nat} : ∀ (k o : Nat) (w : World) (zs : List Int), OwnC w base g n cap zs →
    ∃ us, OwnC (w.setCells g o (List.replicate k (.int .u32 0))) base g n cap us ∧ (∀ j, o ≤ j → j < o + k → us[j]?.getD 0 = 0) ∧ (∀ j, j < o → us[j]?.getD 0 = zs[j]?.getD 0) ∧ w.grownBy (w.setCells g o (List.replicate k (.int .u32 0))) (some g)
  | 0, o, w, zs, h => ⟨zs, h, fun j h1 h2 => by omega, fun _ _ => rfl, World.grownBy.refl _ _⟩
  | k + 1, o, w, zs, h => by
    obtain ⟨h1, hg⟩ := OwnC.set h o 0
    obtain ⟨us, h2, h3, h4, h5⟩ := clear_cells k (o + 1) _ _ h1
    refine ⟨us, h2, fun j a b => ?_, fun j a => ?_, grown_trans hg h5⟩
    · by_cases e : j = o
      · rw [h4 j (by omega), e, List.getElem?_set, if_pos rfl]
        split <;> rfl
      · exact h3 j (by omega) (by omega)
    · rw [h4 j (by omega), List.getElem?_set, if_neg (by omega)]

/-- A copy into an own row. -/
theorem copy_into {w : World} {ops : Array Oper} {rest : List Oper} {o : Oper} {a : Act} {Q : Exit → Act → World → Prop} (hgd : o.guard = none) (d s : Operand) (ho : o.op = .call { callee := .builtin .copy, args := #[d, s], argTypes := #[22, 22] })
    (base g n cap : Nat) (zs : List Int) (sp : Option Addr) (m scap B : Nat) (rs : List Int) (hd : a.eval d = .slice (some ⟨g, 0, none⟩) n cap) (hs : a.eval s = .slice sp m scap) (hO : OwnC w base g n cap zs) (wz : Wd zs) (hR : Reads w B sp m scap rs) (hm : m ≤ n)
    (h : ∀ w' us, Hid (OwnC w' base g n cap us) → Hid (∀ j, us[j]?.getD 0 = if j < m then rs[j]?.getD 0 else zs[j]?.getD 0) → Wd us → w.grownBy w' (some g) → wpList Try.prog ops Q rest (a.put o.dst (goInt m)) w') :
    wpList Try.prog ops Q (o :: rest) a w := by
  obtain ⟨i0, hi, hz0, hz1, hz2⟩ := info_parts Try.infoW
  have hlr := hR.1
  have hlz := hO.len
  by_cases h0 : m = 0
  · subst h0
    refine wpList_copy_nothing hgd d s _ _ ho 35 Try.underlying22 (by rw [hi]; simp [hz1]) _ sp n cap 0 scap hd hs (Nat.zero_min _) ?_
    exact h w zs hO (fun j => by rw [if_neg (by omega)]) wz (World.grownBy.refl _ _)
  · obtain ⟨ad, rfl, hcs⟩ := copy_cells hR m (Nat.le_refl _) (by omega)
    rw [List.take_of_length_le (by omega)] at hcs
    rcases hO.2 with ⟨h', _⟩ | ⟨g', cap', cur, h', hb, hg, hnc, hcm, hsz, ht⟩
    · simp at h'
    · simp only [Value.slice.injEq, Option.some.injEq, Addr.mk.injEq, and_true, true_and] at h'
      obtain ⟨rfl, rfl⟩ := h'
      have hlen : (rs.map (Value.int .u32)).length = m := by simp [hlr]
      have hzl : (zs.map (Value.int .u32)).length = n := by simp [hlz]
      rw [Nat.mul_one] at ht hsz
      refine wpList_copy_own hgd d s _ _ ho 35 Try.underlying22 (by rw [hi]; simp [hz1]) g 0 n cap ad m scap hd hs cur 35 hg (rs.map (Value.int .u32)) (by rw [hlen]; exact (Nat.min_eq_left hm).symm) hcs (by rw [hlen, hsz]; omega) (ints_oneCell _ _) ?_
      rw [hlen]
      refine h _ (rs ++ zs.drop m) ?_ (fun j => ?_) (hR.2.1.append (wz.drop m)) ?_
      · refine ⟨by simp; omega, .inr ⟨g, cap, _, rfl, hb, setRow_heap w g cur _ _ _ hg, hnc, hcm, by simp [hsz, hlr]; omega, ?_⟩⟩
        rw [Nat.mul_one]
        simp only [List.take_zero, List.nil_append, Nat.zero_add]
        rw [List.map_append, List.map_drop, ← ht]
        have e1 : n = (rs.map (Value.int .u32)).length + (n - m) := by rw [hlen]; omega
        conv => lhs; rw [e1]
        rw [List.take_length_add_append, ← List.drop_take]
      · rw [List.getElem?_append, hlr]
        by_cases c : j < m
        · rw [if_pos c, if_pos c]
        · rw [if_neg c, if_neg c, List.getElem?_drop, show m + (j - m) = j by omega]
      · exact ⟨rfl, rfl, rfl, by simp [World.setRow], fun k hk hne => setRow_other w g k _ (fun e => hne (by rw [e]))⟩

theorem OwnC.reads {w : World} {base g n cap : Nat} {ys : List Int} (h : OwnC w base g n cap ys) (hw : Wd ys) : Reads w w.heap.size (some ⟨g, 0, none⟩) n cap ys := by
  obtain ⟨a, c, hv, hr⟩ := Reads.own h hw
  simp only [Value.slice.injEq] at hv
  obtain ⟨rfl, _, rfl⟩ := hv
  exact hr
theorem OwnC.sl {w : World} {base g n cap : Nat} {ys : List Int} (h : OwnC w base g n cap ys) (hw : Wd ys) : Sl w (.slice (some ⟨g, 0, none⟩) n cap) ys := by
  have e := h.len
  subst e
  exact ⟨_, _, rfl, h.reads hw⟩

set_option maxHeartbeats 1600000 in
set_option maxRecDepth 100000 in
theorem replace_any (base gx gy n capx capy : Nat) (xs ys : List Int) (w : World) (hx : OwnC w base gx n capx xs) (hy : OwnC w base gy n capy ys) (hne : gx ≠ gy) (wx : Wd xs) (wy : Wd ys) (hn : n ≤ 8192) (tx : Trimmed xs) (h0 : 0 < sz ys) :
    Calls Try.prog 51 #[.slice (some ⟨gx, 0, none⟩) n capx, .slice (some ⟨gy, 0, none⟩) n capy] w fun e w' => ∃ (us : List Int) (q : Int), e = .returned (.tuple #[]) ∧ OwnC w' base gx n capx us ∧ OwnC w' base gy n capy ys ∧ Wd us ∧
      val xs = q * val ys + val us ∧ val us < val ys ∧ Below base w w' := by
  have bx := hx.base
  have by' := hy.base
  have cx := hx.cap
  have cy := hy.cap
  have lx := hx.len
  have ly := hy.len
  have sy := sz_le ys
  unfold maxLen at cx cy
  have HSZ := hid (size_any _ _ _ ys _ w (hy.reads wy) (by omega))
  have hyt : OwnC w base gy (sz ys) capy (trimmed ys) := hy.take (sz ys) (by omega)
  have HDV := hid (divide_any _ _ xs (trimmed ys) w (hx.sl wx) (hyt.sl wy.trimmed) (by omega) (by rw [length_trimmed]; omega) tx (Trimmed.trimmed _) (by rw [length_trimmed]; exact h0))
  have HOX := hid hx
  have HOY := hid hy
  have hszn : sz ys ≤ n := by omega
  have hsc : sz ys ≤ capy := by omega
  have n0 : 0 < n := by omega
  have hvl : val ys < 4294967296 ^ n := by have := val_lt wy; rw [ly] at this; exact this
  have HVL := hid hvl
  have HVT := hid (val_trimmed ys)
  clear hx hy hyt lx ly sy hvl
  obtain ⟨S, hS⟩ : ∃ S, sz ys = S := ⟨_, rfl⟩
  rw [hS] at HSZ HDV hszn hsc h0
  clear hS
  go_enter Try.func51, Try.ntmps51
  go_wp2_with fail
  refine Calls.mono HSZ.out ?_
  rintro e w' ⟨rfl, rfl⟩
  go_wp2_with fail
  refine Calls.mono HDV.out ?_
  rintro e w1 ⟨v1, u1, q, r, c, rfl, oq, orr, _, _, _, _, wq, wR, tq, tr, hv, hlt, hb1⟩
  rw [HVT.out] at hv hlt
  obtain ⟨a1, c1, rfl, hrr⟩ := Reads.own orr wR
  have lr : r.length ≤ n := len_of_lt wR tr (by have := HVL.out; omega)
  have ox1 : OwnC w1 base gx n capx xs := owns_later HOX.out hb1
  have oy1 : OwnC w1 base gy n capy ys := owns_later HOY.out hb1
  have hs1 := hb1.size
  obtain ⟨us, ou, hu0, _, hgu⟩ := clear_cells n 0 w1 xs ox1
  have hcl : ∀ ty, (Builtin.clear_ #[22] ty #[.slice (some ⟨gx, 0, none⟩) n capx]).run Try.prog w1 = .ok (.tuple #[]) (w1.setCells gx 0 (List.replicate n (.int .u32 0))) := fun ty =>
    Go.Lib.run_clear_slice w1 22 35 ty (.int .u32 0) Try.underlying22 (fun w => Try.zeroValue35 w) rfl rfl gx 0 n capx n0 (fun j hj => by rw [Nat.zero_add, ox1.cell j hj]; rfl) (fun j hj => by rw [Nat.zero_add]; exact ox1.free j)
  have oy2 := World.ownsRow.kept oy1 hgu (by right; intro e; simp [Value.ownBlock] at e; omega)
  have hb2 : Below base w1 (w1.setCells gx 0 (List.replicate n (.int .u32 0))) := (Below.refl _ _).grown hgu (by omega) (fun k hk => by simp at hk; omega)
  have hrr2 : Reads (w1.setCells gx 0 (List.replicate n (.int .u32 0))) w1.heap.size a1 r.length c1 r := by
    obtain ⟨r1, r2, r3, r4⟩ := hrr
    refine ⟨r1, r2, r3.imp id ?_, r4⟩
    rintro ⟨b, o, rfl, hb, hc⟩
    refine ⟨b, o, rfl, hb, fun j hj => ?_⟩
    have hbb := orr.lt b rfl
    exact hgu.cell (hc j hj) (by intro e; simp at e; omega)
  have hul := ou.len
  have hus : ∀ j : Nat, us[j]?.getD 0 = 0 := fun j => by
    by_cases cj : j < n
    · exact hu0 j (Nat.zero_le _) (by omega)
    · rw [List.getElem?_eq_none (by omega)]; rfl
  have wu : Wd us := fun z hz => by
    obtain ⟨j, hj, rfl⟩ := List.mem_iff_getElem.1 hz
    have := hus j
    rw [List.getElem?_eq_getElem hj] at this
    simp at this
    omega
  have hbB : Below base w (w1.setCells gx 0 (List.replicate n (.int .u32 0))) := (hb1.mono (by omega)).trans hb2
  have HUS := hid hus
  have HOU := hid ou
  have HOY2 := hid oy2
  have HRR := hid hrr2
  have HBB := hid hbB
  have HV := hid (And.intro hv hlt)
  have hs2 := hgu.size
  generalize w1.setCells gx 0 (List.replicate n (.int .u32 0)) = w2 at *
  clear oq orr hv hlt hb1 hrr ox1 oy1 ou hu0 hgu oy2 hb2 hrr2 hul hus hbB HOX HOY HSZ HDV
  go_wp2_with (refine copy_into rfl (.tmp 16) (.tmp 17) rfl base gx n capx us a1 r.length c1 _ r rfl rfl HOU.out wu HRR.out lr ?_)
  intro w3 ts HO3 HE3 wt hg3
  have HF : Hid (OwnC w3 base gy n capy ys) := World.ownsRow.kept HOY2.out hg3 (by right; intro e; simp [Value.ownBlock] at e; omega)
  have hb3 : Below base w w3 := HBB.out.trans ((Below.refl _ _).grown hg3 (by omega) (fun k hk => by simp at hk; omega))
  have HVV : Hid (val ts = val r) := val_eq_of (fun j => by
    rw [HE3.out j]
    split
    · rfl
    · rw [HUS.out j, List.getElem?_eq_none (by omega)]; rfl)
  clear hg3
  go_wp2_with fail
  go_end0
  exact ⟨ts, val q, rfl, HO3.out, HF.out, wt, by rw [HVV.out]; exact HV.out.1, by rw [HVV.out]; exact HV.out.2, hb3⟩
end Go.Proofs.Ytbcangblmadnpac
