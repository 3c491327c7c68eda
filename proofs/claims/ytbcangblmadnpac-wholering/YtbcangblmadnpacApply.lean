/- (nat.leap).apply: two numbers in own memory become two sums of multiples of them. -/
import Derived.Test.YtbcangblmadnpacLeap
import Derived.Test.YtbcangblmadnpacHigh
import Derived.Test.YtbcangblmadnpacBox
import Derived.BigQuiet
namespace Go.Proofs.Ytbcangblmadnpac
open Go.RowKit
set_option linter.unusedVariables false

theorem OwnC.drewN {w : World} {base g n cap : Nat} {ys : List Int} (h : OwnC w base g n cap ys) (m : Nat) : OwnC (w.drewN m) base g n cap ys := h

theorem OwnC.base {w : World} {base g n cap : Nat} {ys : List Int} (h : OwnC w base g n cap ys) : base ≤ g ∧ g < w.heap.size := World.ownsRow.lt h g rfl

theorem apply_step (xs ys us : List Int) (k : Nat) (a b c p1 p2 T : Int) (hk : k < us.length) (h1 : a * xs[k]?.getD 0 = p1) (h2 : b * ys[k]?.getD 0 = p2) (hT : c + (p1 + p2) = T)
    (h : valTo us k + c * 4294967296 ^ k = a * valTo xs k + b * valTo ys k) :
    valTo (us.set k (T % 4294967296)) (k + 1) + T / 4294967296 * 4294967296 ^ (k + 1) = a * valTo xs (k + 1) + b * valTo ys (k + 1) := by
  rw [valTo_set us k _ hk, valTo_succ xs, valTo_succ ys, pw_succ, Int.mul_add, Int.mul_add, ← Int.mul_assoc a, ← Int.mul_assoc b, h1, h2]
  have e := carry_step (4294967296 ^ k) (T % 4294967296) (T / 4294967296) T (by omega)
  have e2 : T * 4294967296 ^ k = c * 4294967296 ^ k + (p1 * 4294967296 ^ k + p2 * 4294967296 ^ k) := by
    rw [← hT, Int.add_mul, Int.add_mul]
  omega

/-- Two factors of unlike signs, below 2^31 in size. -/
def Coef (a b : Int) : Prop := (0 ≤ a ∧ a ≤ 2147483647 ∧ -2147483647 ≤ b ∧ b ≤ 0) ∨ (-2147483647 ≤ a ∧ a ≤ 0 ∧ 0 ≤ b ∧ b ≤ 2147483647)
theorem coef_pos (a v : Int) (h0 : 0 ≤ a) (h1 : a ≤ 2147483647) (v0 : 0 ≤ v) (v1 : v ≤ 4294967295) : 0 ≤ a * v ∧ a * v ≤ 9223372030412324865 := by
  have e1 := Int.mul_nonneg h0 v0
  have e2 : a * v ≤ 2147483647 * v := Int.mul_le_mul_of_nonneg_right h1 v0
  omega
theorem coef_neg (a v : Int) (h0 : -2147483647 ≤ a) (h1 : a ≤ 0) (v0 : 0 ≤ v) (v1 : v ≤ 4294967295) : -9223372030412324865 ≤ a * v ∧ a * v ≤ 0 := by
  have := coef_pos (-a) v (by omega) (by omega) v0 v1
  rw [Int.neg_mul] at this
  omega
theorem Coef.bounds {a b : Int} (h : Coef a b) {v w p1 p2 : Int} (v0 : 0 ≤ v ∧ v ≤ 4294967295) (w0 : 0 ≤ w ∧ w ≤ 4294967295) (h1 : a * v = p1) (h2 : b * w = p2) :
    (-9223372030412324865 ≤ p1 ∧ p1 ≤ 9223372030412324865) ∧ (-9223372030412324865 ≤ p2 ∧ p2 ≤ 9223372030412324865) ∧ (-9223372030412324865 ≤ p1 + p2 ∧ p1 + p2 ≤ 9223372030412324865) := by
  rcases h with ⟨a0, a1, b0, b1⟩ | ⟨a0, a1, b0, b1⟩
  · have e1 := coef_pos a v a0 a1 v0.1 v0.2
    have e2 := coef_neg b w b0 b1 w0.1 w0.2
    omega
  · have e1 := coef_neg a v a0 a1 v0.1 v0.2
    have e2 := coef_pos b w b0 b1 w0.1 w0.2
    omega
theorem Coef.wide {a b : Int} (h : Coef a b) : (-2147483647 ≤ a ∧ a ≤ 2147483647) ∧ (-2147483647 ≤ b ∧ b ≤ 2147483647) := by
  rcases h with h | h <;> omega

/-- What is left of a number when nothing is carried out. -/
theorem apply_end {us : List Int} (hw : Wd us) (n : Nat) (c V : Int) (hl : us.length = n) (h0 : 0 ≤ V) (h1 : V < 4294967296 ^ n) (h : valTo us n + c * 4294967296 ^ n = V) : val us = V := by
  have b := valTo_bounds hw n
  have hp := pw_pos n
  have hc : c = 0 := by
    have e1 : c * 4294967296 ^ n < 1 * 4294967296 ^ n := by omega
    have e2 : (-1) * 4294967296 ^ n < c * 4294967296 ^ n := by omega
    have e3 := Int.lt_of_mul_lt_mul_right e1 (by omega)
    have e4 := Int.lt_of_mul_lt_mul_right e2 (by omega)
    omega
  rw [hc] at h
  rw [← valTo_stable us n (by omega)]
  omega

set_option maxHeartbeats 3200000 in
set_option maxRecDepth 100000 in
theorem apply_any (base gx gy n capx capy : Nat) (xs ys : List Int) (s a b c d : Int) (w : World) (hx : OwnC w base gx n capx xs) (hy : OwnC w base gy n capy ys) (hne : gx ≠ gy) (wx : Wd xs) (wy : Wd ys) (hn : n ≤ 8192)
    (h1 : Coef a b) (h2 : Coef c d) (x0 : 0 ≤ a * val xs + b * val ys) (x1 : a * val xs + b * val ys < 4294967296 ^ n) (y0 : 0 ≤ c * val xs + d * val ys) (y1 : c * val xs + d * val ys < 4294967296 ^ n) :
    Calls Try.prog 50 #[.agg #[.int .i64 s, .int .i64 a, .int .i64 b, .int .i64 c, .int .i64 d], .slice (some ⟨gx, 0, none⟩) n capx, .slice (some ⟨gy, 0, none⟩) n capy] w fun e w' => ∃ us vs, e = .returned (.tuple #[]) ∧ OwnC w' base gx n capx us ∧ OwnC w' base gy n capy vs ∧ Wd us ∧ Wd vs ∧
      val us = a * val xs + b * val ys ∧ val vs = c * val xs + d * val ys ∧ Below base w w' := by
  have bx := hx.base
  have by' := hy.base
  have cx := hx.cap
  have cy := hy.cap
  have lx := hx.len
  have ly := hy.len
  unfold maxLen at cx cy
  have HX0 := hid (And.intro x0 (And.intro x1 (And.intro y0 y1)))
  have HL := hid (And.intro lx ly)
  have hne2 : ¬ gx = gy := hne
  have hne3 : ¬ gy = gx := fun e => hne e.symm
  have HOX := hid (owns_later hx (alloc_later w (.cells #[.int .i64 s, .int .i64 a, .int .i64 b, .int .i64 c, .int .i64 d] 72)))
  have HOY := hid (owns_later hy (alloc_later w (.cells #[.int .i64 s, .int .i64 a, .int .i64 b, .int .i64 c, .int .i64 d] 72)))
  have HBX := hid (Box.made w 72 #[.int .i64 s, .int .i64 a, .int .i64 b, .int .i64 c, .int .i64 d])
  have HW := hid (And.intro h1.wide h2.wide)
  have H1 := hid h1
  have H2 := hid h2
  clear x0 x1 y0 y1 hx hy lx ly h1 h2 hne
  have hncy : n ≤ capy := cy.1
  go_enter Try.func50, Try.ntmps50
  go_wp2_with fail
  go_loopw [6, 7, 17] (fun cu cv t wr => ∃ (k : Nat) (c1 c2 : Int) (us vs : List Int), k ≤ n ∧ t = .int .i64 k ∧ cu = .int .i64 c1 ∧ cv = .int .i64 c2 ∧ -2147483647 ≤ c1 ∧ c1 ≤ 2147483647 ∧ -2147483647 ≤ c2 ∧ c2 ≤ 2147483647 ∧ Wd us ∧ Wd vs ∧
    Hid (valTo us k + c1 * 4294967296 ^ k = a * valTo xs k + b * valTo ys k) ∧ Hid (valTo vs k + c2 * 4294967296 ^ k = c * valTo xs k + d * valTo ys k) ∧ Hid (∀ j, k ≤ j → us[j]?.getD 0 = xs[j]?.getD 0 ∧ vs[j]?.getD 0 = ys[j]?.getD 0) ∧
    OwnC wr base gx n capx us ∧ OwnC wr base gy n capy vs ∧ Box wr w.heap.size 72 #[.int .i64 s, .int .i64 a, .int .i64 b, .int .i64 c, .int .i64 d] ∧ Below base w wr) (fun _ _ t _ => n - (intOf t).toNat)
  case atStart => exact ⟨0, 0, 0, xs, ys, by omega, rfl, rfl, rfl, by omega, by omega, by omega, by omega, wx, wy, show _ = _ by simp [valTo], show _ = _ by simp [valTo], fun _ _ => ⟨rfl, rfl⟩, HOX.out, HOY.out, HBX.out, (alloc_later _ _).mono (by omega)⟩
  case round =>
    obtain ⟨k, c1, c2, us, vs, hk, rfl, rfl, rfl, c10, c11, c20, c21, wu, wv, HV1, HV2, HK, ou, ov, hbox, hbel⟩ := hrel
    by_cases hlt : k < n
    · have u1 := ou.cell k hlt
      have v1 := ov.cell k hlt
      have fu := ou.free k
      have fv := ov.free k
      have q1 : wr.cell? ⟨w.heap.size, 1, none⟩ = some (.int .i64 a) := hbox.cell 1
      have q2 : wr.cell? ⟨w.heap.size, 2, none⟩ = some (.int .i64 b) := hbox.cell 2
      have q3 : wr.cell? ⟨w.heap.size, 3, none⟩ = some (.int .i64 c) := hbox.cell 3
      have q4 : wr.cell? ⟨w.heap.size, 4, none⟩ = some (.int .i64 d) := hbox.cell 4
      have bv := wu.at k
      have bw := wv.at k
      have hk2 := HK.out k (Nat.le_refl _)
      rw [hk2.1] at u1 bv
      rw [hk2.2] at v1 bw
      obtain ⟨p1, hp1⟩ : ∃ p, a * xs[k]?.getD 0 = p := ⟨_, rfl⟩
      obtain ⟨p2, hp2⟩ : ∃ p, b * ys[k]?.getD 0 = p := ⟨_, rfl⟩
      obtain ⟨p3, hp3⟩ : ∃ p, c * xs[k]?.getD 0 = p := ⟨_, rfl⟩
      obtain ⟨p4, hp4⟩ : ∃ p, d * ys[k]?.getD 0 = p := ⟨_, rfl⟩
      have B1 := H1.out.bounds bv bw hp1 hp2
      have B2 := H2.out.bounds bv bw hp3 hp4
      obtain ⟨T, hT⟩ : ∃ T, c1 + (p1 + p2) = T := ⟨_, rfl⟩
      obtain ⟨U, hU⟩ : ∃ U, c2 + (p3 + p4) = U := ⟨_, rfl⟩
      have hlu := ou.len
      have hlv := ov.len
      have HV1' := hid (apply_step xs ys us k a b c1 p1 p2 T (by omega) hp1 hp2 hT HV1.out)
      have HV2' := hid (apply_step xs ys vs k c d c2 p3 p4 U (by omega) hp3 hp4 hU HV2.out)
      have T0 : -9223372032559808512 ≤ T ∧ T ≤ 9223372032559808512 := by omega
      have U0 : -9223372032559808512 ≤ U ∧ U ≤ 9223372032559808512 := by omega
      obtain ⟨z, hz⟩ : ∃ z, T % 4294967296 = z := ⟨_, rfl⟩
      obtain ⟨y, hy⟩ : ∃ y, U % 4294967296 = y := ⟨_, rfl⟩
      have z0 : 0 ≤ z ∧ z ≤ 4294967295 := by omega
      have y0 : 0 ≤ y ∧ y ≤ 4294967295 := by omega
      have hwz : IntKind.u32.wrap T = z := by rw [IntKind.wrap_u32, hz]
      have hwy : IntKind.u32.wrap U = y := by rw [IntKind.wrap_u32, hy]
      rw [hz] at HV1'
      rw [hy] at HV2'
      have HK' : Hid (∀ j, k + 1 ≤ j → (us.set k z)[j]?.getD 0 = xs[j]?.getD 0 ∧ (vs.set k y)[j]?.getD 0 = ys[j]?.getD 0) := fun j hj => by
        rw [List.getElem?_set, if_neg (by omega), List.getElem?_set, if_neg (by omega)]
        exact HK.out j (by omega)
      have HC : Hid ((-2147483647 ≤ T / 4294967296 ∧ T / 4294967296 ≤ 2147483647) ∧ (-2147483647 ≤ U / 4294967296 ∧ U / 4294967296 ≤ 2147483647)) := by show _ ∧ _; omega
      have hout : ∀ m, OwnC (((wr.drewN m).setCell ⟨gx, k, none⟩ (.int .u32 z)).setCell ⟨gy, k, none⟩ (.int .u32 y)) base gx n capx (us.set k z) ∧ OwnC (((wr.drewN m).setCell ⟨gx, k, none⟩ (.int .u32 z)).setCell ⟨gy, k, none⟩ (.int .u32 y)) base gy n capy (vs.set k y) ∧
          Box (((wr.drewN m).setCell ⟨gx, k, none⟩ (.int .u32 z)).setCell ⟨gy, k, none⟩ (.int .u32 y)) w.heap.size 72 #[.int .i64 s, .int .i64 a, .int .i64 b, .int .i64 c, .int .i64 d] ∧ Below base w (((wr.drewN m).setCell ⟨gx, k, none⟩ (.int .u32 z)).setCell ⟨gy, k, none⟩ (.int .u32 y)) := fun m => by
        have s1 := OwnC.set (ou.drewN m) k z
        have o2 : OwnC ((wr.drewN m).setCell ⟨gx, k, none⟩ (.int .u32 z)) base gy n capy vs := World.ownsRow.kept (ov.drewN m) s1.2 (by right; intro e; simp [Value.ownBlock] at e; omega)
        have s2 := OwnC.set o2 k y
        have o1 := World.ownsRow.kept s1.1 s2.2 (by right; intro e; simp [Value.ownBlock] at e; omega)
        refine ⟨o1, s2.1, (Box.other (Box.other (hbox.drewN m) _ _ (by show _ ≠ gx; omega)) _ _ (by show _ ≠ gy; omega)), ?_⟩
        exact ((bdn hbel m).setCell (p := ⟨gx, k, none⟩) bx.1 _).setCell (p := ⟨gy, k, none⟩) by'.1 _
      have HOUT := hid hout
      have hwn : w.heap.size < wr.heap.size := hbox.lt
      clear hout hlu hlv ou ov hbox hbel HV1 HV2 HK hk2 hz hy HOX HOY HBX
      go_wp2_with fail
      go_quiet (fail)
      go_wp2_with fail
      go_roundw
      case rel => exact ⟨k + 1, T / 4294967296, U / 4294967296, us.set k z, vs.set k y, by omega, by go_num, by go_num, by go_num, HC.out.1.1, HC.out.1.2, HC.out.2.1, HC.out.2.2, wu.set _ z0, wv.set _ y0, HV1', HV2', HK', (HOUT.out _).1, (HOUT.out _).2.1, (HOUT.out _).2.2.1, (HOUT.out _).2.2.2⟩
      case measure => simp [intOf]; omega
    · have hkn : k = n := by omega
      subst hkn
      have hlu := ou.len
      have hlv := ov.len
      have HF1 : Hid (val us = a * val xs + b * val ys) := apply_end wu k c1 _ hlu HX0.out.1 HX0.out.2.1 (by have e := HV1.out; rw [valTo_stable xs k (by have := HL.out.1; omega), valTo_stable ys k (by have := HL.out.2; omega)] at e; exact e)
      have HF2 : Hid (val vs = c * val xs + d * val ys) := apply_end wv k c2 _ hlv HX0.out.2.2.1 HX0.out.2.2.2 (by have e := HV2.out; rw [valTo_stable xs k (by have := HL.out.1; omega), valTo_stable ys k (by have := HL.out.2; omega)] at e; exact e)
      have HO1 := hid ou
      have HO2 := hid ov
      clear ou ov hlu hlv
      go_wp2_with fail
      go_end0
      exact ⟨us, vs, rfl, HO1.out, HO2.out, wu, wv, HF1.out, HF2.out, hbel⟩
end Go.Proofs.Ytbcangblmadnpac
