/- nat.look: the leap that the highest bits of two numbers tell. -/
import Derived.Test.YtbcangblmadnpacLeapA
import Derived.Test.YtbcangblmadnpacLong5
import Derived.BigQuiet
import Derived.Handy
import Derived.Deep.CutRange
namespace Go.Proofs.Ytbcangblmadnpac
open Go.RowKit
set_option linter.unusedVariables false

theorem lead_fit (x : Int) (h0 : 1 ≤ x) (h1 : x ≤ 4294967295) (t : Nat) (ht : 32 - Lib.bitLen x.toNat = t) : t ≤ 31 ∧ ∀ y : Int, 0 ≤ y → y ≤ x → y * 2 ^ t < 4294967296 := by
  obtain ⟨a, b, c⟩ := bitLen_bounds x h0 h1
  have h2 := bitLen_le32 x h1
  refine ⟨by omega, fun y hy hyx => ?_⟩
  have e := two_split (Lib.bitLen x.toNat) h2
  rw [ht] at e
  have hp := two_pos t
  have e1 : (y + 1) * 2 ^ t ≤ 2 ^ Lib.bitLen x.toNat * 2 ^ t := Int.mul_le_mul_of_nonneg_right (by omega) (by omega)
  rw [Int.add_mul] at e1
  omega

/-- What look tells. -/
def Looked (w : World) (X Y : Int) (x : Ending) (w' : World) : Prop := ∃ s a b c d : Int, x = .returned (.agg #[.int .i64 s, .int .i64 a, .int .i64 b, .int .i64 c, .int .i64 d]) ∧ 0 ≤ s ∧ s ≤ 4611686018427387904 ∧ (s = 0 ∨ (1 ≤ s ∧ Leaps X Y a b c d)) ∧ Below w.heap.size w w'

theorem Box.put5 {w : World} {b t : Nat} {z0 z1 z2 z3 z4 : Value} (h : Box w b t #[z0, z1, z2, z3, z4]) (v0 v1 v2 v3 v4 : Value) :
    Box (((((w.setCell ⟨b, 0, none⟩ v0).setCell ⟨b, 1, none⟩ v1).setCell ⟨b, 2, none⟩ v2).setCell ⟨b, 3, none⟩ v3).setCell ⟨b, 4, none⟩ v4) b t #[v0, v1, v2, v3, v4] :=
  ((((h.set 0 v0).set 1 v1).set 2 v2).set 3 v3).set 4 v4
theorem below_put5 {B : Nat} {a w : World} (h : Below B a w) (b : Nat) (hb : B ≤ b) (v0 v1 v2 v3 v4 : Value) :
    Below B a (((((w.setCell ⟨b, 0, none⟩ v0).setCell ⟨b, 1, none⟩ v1).setCell ⟨b, 2, none⟩ v2).setCell ⟨b, 3, none⟩ v3).setCell ⟨b, 4, none⟩ v4) :=
  ((((h.setCell (p := ⟨b, 0, none⟩) hb _).setCell (p := ⟨b, 1, none⟩) hb _).setCell (p := ⟨b, 2, none⟩) hb _).setCell (p := ⟨b, 3, none⟩) hb _).setCell (p := ⟨b, 4, none⟩) hb _

theorem new_box {wr w5 : World} {vs : Array Value} {t : Nat} (hb : Below (wr.alloc (.cells vs t)).drew.heap.size (wr.alloc (.cells vs t)).drew w5) : Box w5 wr.heap.size t vs ∧ Below wr.heap.size wr w5 := by
  have h1 : Below (wr.alloc (.cells vs t)).heap.size (wr.alloc (.cells vs t)) w5 := (Below.refl _ (wr.alloc (.cells vs t))).drew.trans hb
  exact ⟨(Box.made wr t vs).later h1 (by simp), bt (alloc_later _ _) h1⟩
theorem Box.put5_other {w : World} {b t b' : Nat} {vs : Array Value} (h : Box w b t vs) (hne : b ≠ b') (v0 v1 v2 v3 v4 : Value) :
    Box (((((w.setCell ⟨b', 0, none⟩ v0).setCell ⟨b', 1, none⟩ v1).setCell ⟨b', 2, none⟩ v2).setCell ⟨b', 3, none⟩ v3).setCell ⟨b', 4, none⟩ v4) b t vs :=
  ((((h.other ⟨b', 0, none⟩ _ hne).other ⟨b', 1, none⟩ _ hne).other ⟨b', 2, none⟩ _ hne).other ⟨b', 3, none⟩ _ hne).other ⟨b', 4, none⟩ _ hne

theorem top_le {xs ys : List Int} (wx : Wd xs) (wy : Wd ys) (n : Nat) (lx : xs.length = n + 1) (ly : ys.length = n + 1) (h : val ys ≤ val xs) : ys[n]?.getD 0 ≤ xs[n]?.getD 0 := by
  by_cases c : ys[n]?.getD 0 ≤ xs[n]?.getD 0
  · exact c
  · have := val_lt_of wx wy n (by omega) (fun j hj => by rw [List.getElem?_eq_none (by omega), List.getElem?_eq_none (by omega)])
    omega

/-- The sizes that a step's factors have. -/
theorem step_sizes {s g A B C D p q a b c d Q : Int} (h : Lp s g A B C D) (hQ : 1 ≤ Q) (hD : B + Q * D ≤ 4611686018427387903) (ha : a = g * A) (hb : b = -(g * B)) (hc : c = -(g * C)) (hd : d = g * D) :
    IntKind.i64.wrap (Q * c) = Q * c ∧ IntKind.i64.wrap (Q * d) = Q * d ∧ IntKind.i64.wrap (a - Q * c) = a - Q * c ∧ IntKind.i64.wrap (b - Q * d) = b - Q * d ∧ d = -(-g * D) ∧ c = -g * C ∧ a - Q * c = -(-g * (A + Q * C)) ∧ b - Q * d = -g * (B + Q * D) := by
  obtain ⟨a0, b0, c0, cd, d1, det, sgn, way⟩ := h
  have q1 : 0 ≤ Q * C := Int.mul_nonneg (by omega) c0
  have q2 : Q * C ≤ Q * D := Int.mul_le_mul_of_nonneg_left cd (by omega)
  have q3 : 0 ≤ Q * D := Int.mul_nonneg (by omega) (by omega)
  have q4 : 1 * D ≤ Q * D := Int.mul_le_mul_of_nonneg_right hQ (by omega)
  have hA : A ≤ B + Q * D := by rcases way with ⟨_, e1, _, _, e4⟩ | ⟨_, w2, _, _, _⟩ <;> omega
  have f1 : d = -(-g * D) := by rw [hd, Int.neg_mul, Int.neg_neg]
  have f2 : c = -g * C := by rw [hc, Int.neg_mul]
  have f3 : a - Q * c = -(-g * (A + Q * C)) := by
    rw [ha, hc, Int.neg_mul, Int.neg_neg, Int.mul_neg, Int.mul_add, ← Int.mul_assoc Q, ← Int.mul_assoc g Q, Int.mul_comm Q g]; omega
  have f4 : b - Q * d = -g * (B + Q * D) := by
    rw [hb, hd, Int.neg_mul, Int.mul_add, ← Int.mul_assoc Q, ← Int.mul_assoc g Q, Int.mul_comm Q g]; omega
  have bb : (-4611686018427387903 ≤ Q * c ∧ Q * c ≤ 4611686018427387903) ∧ (-4611686018427387903 ≤ Q * d ∧ Q * d ≤ 4611686018427387903) ∧ (-4611686018427387903 ≤ a ∧ a ≤ 4611686018427387903) ∧ (-4611686018427387903 ≤ b ∧ b ≤ 4611686018427387903) := by
    rcases sgn with rfl | rfl
    · rw [Int.one_mul] at ha hb hc hd
      rw [hc, hd, ha, hb, Int.mul_neg]
      omega
    · rw [Int.neg_mul, Int.one_mul] at ha hb hc hd
      rw [Int.neg_neg] at hb hc
      rw [hc, hd, ha, hb, Int.mul_neg]
      omega
  exact ⟨IntWalk.i64_in _ (by omega), IntWalk.i64_in _ (by omega), IntWalk.i64_in _ (by omega), IntWalk.i64_in _ (by omega), f1, f2, f3, f4⟩

theorem abs_of {g A a : Int} (h : 0 ≤ A) (sgn : g = 1 ∨ g = -1) (ha : a = g * A ∨ a = -(g * A)) : (a.natAbs : Int) = A := by
  rcases sgn with rfl | rfl
  · simp only [Int.one_mul] at ha; omega
  · simp only [Int.neg_mul, Int.one_mul] at ha; omega

set_option maxHeartbeats 3200000 in
set_option maxRecDepth 100000 in
theorem look_any (a : Option Addr) (e cap : Nat) (xs : List Int) (b : Option Addr) (cap' : Nat) (ys : List Int) (w : World) (h : Reads w w.heap.size a (e + 3) cap xs) (g : Reads w w.heap.size b (e + 3) cap' ys) (hn : e ≤ 8192) (htop : 1 ≤ xs[e + 2]?.getD 0) (hle : val ys ≤ val xs) :
    Calls Try.prog 49 #[.slice a (e + 3) cap, .slice b (e + 3) cap'] w (Looked w (val xs) (val ys)) := by
  have bt0 := h.2.1.at (e + 2)
  have bt1 := g.2.1.at (e + 2)
  have hty := top_le h.2.1 g.2.1 (e + 2) h.1 g.1 hle
  obtain ⟨t, ht⟩ : ∃ t, 32 - Lib.bitLen (xs[e + 2]?.getD 0).toNat = t := ⟨_, rfl⟩
  obtain ⟨t31, hfit⟩ := lead_fit _ htop bt0.2 t ht
  have HLD := hid (fun ww => lead_any (xs[e + 2]?.getD 0) ww htop bt0.2)
  rw [ht] at HLD
  have HX := hid (fun ww (hb : Below w.heap.size w ww) => highest_any a e cap xs t ww (h.later hb hb.size) hn t31 (hfit _ (by omega) (Int.le_refl _)))
  have HY := hid (fun ww (hb : Below w.heap.size w ww) => highest_any b e cap' ys t ww (g.later hb hb.size) hn t31 (hfit _ bt1.1 hty))
  -- the highest bits, and what is below them
  have nx := val_nonneg h.2.1
  have ny := val_nonneg g.2.1
  have kp : (0 : Int) < 4294967296 ^ e * 2 ^ (34 - t) := Int.mul_pos (pw_pos e) (two_pos _)
  have dx : val xs / 4294967296 ^ e / 2 ^ (34 - t) = val xs / (4294967296 ^ e * 2 ^ (34 - t)) := Int.ediv_ediv_of_nonneg (Int.le_of_lt (pw_pos e))
  have dy : val ys / 4294967296 ^ e / 2 ^ (34 - t) = val ys / (4294967296 ^ e * 2 ^ (34 - t)) := Int.ediv_ediv_of_nonneg (Int.le_of_lt (pw_pos e))
  rw [dx] at HX
  rw [dy] at HY
  obtain ⟨K, hK⟩ : ∃ K : Int, 4294967296 ^ e * 2 ^ (34 - t) = K := ⟨_, rfl⟩
  rw [hK] at HX HY kp
  have mx := Int.mul_ediv_add_emod (val xs) K
  have my := Int.mul_ediv_add_emod (val ys) K
  have lx := Int.emod_lt_of_pos (val xs) kp
  have ly := Int.emod_lt_of_pos (val ys) kp
  have lx0 := Int.emod_nonneg (val xs) (show K ≠ 0 by omega)
  have ly0 := Int.emod_nonneg (val ys) (show K ≠ 0 by omega)
  have pq : val ys / K ≤ val xs / K := Int.ediv_le_ediv kp hle
  have q00 : 0 ≤ val ys / K := Int.ediv_nonneg ny (by omega)
  obtain ⟨p0, hp0⟩ : ∃ p, val xs / K = p := ⟨_, rfl⟩
  obtain ⟨q0, hq0⟩ : ∃ p, val ys / K = p := ⟨_, rfl⟩
  rw [hp0] at HX mx pq
  rw [hq0] at HY my pq q00
  have HK := hid (And.intro kp (And.intro mx (And.intro my (And.intro lx (And.intro ly (And.intro lx0 ly0))))))
  rcases h.2.2.1 with h0 | ⟨b2, o2, rfl, hb2, hc2⟩
  · omega
  have hc0 := hc2 (e + 2) (by omega)
  clear dx dy hK mx my lx ly lx0 ly0 hp0 hq0 kp hc2 h g hfit ht hty bt1 nx ny hle
  generalize xs[e + 2]?.getD 0 = top at *
  go_enter Try.func49, Try.ntmps49
  go_wp2_with fail
  refine Calls.mono (HLD.out _) ?_
  rintro x w' ⟨rfl, rfl⟩
  go_wp2_with fail
  refine Calls.mono (HX.out _ (alloc_later _ _)) ?_
  rintro x w2 ⟨rfl, p00, p01, hb2'⟩
  have hbA := bt (alloc_later _ _) hb2'
  have HR2 := hid (Box.later (Box.made w 72 #[.int .i64 0, .int .i64 0, .int .i64 0, .int .i64 0, .int .i64 0]) hb2' (by simp))
  go_wp2_with fail
  refine Calls.mono (HY.out _ hbA) ?_
  rintro x w3 ⟨rfl, _, q01, hb3⟩
  have hbB := bt hbA hb3
  have HR3 := hid (Box.later HR2.out hb3 HR2.out.lt)
  have hs3 := HR3.out.lt
  have HBB := hid hbB
  clear hb3 hb2' hbA hbB HR2 HX HY HLD hc0
  go_wp2_with fail
  go_loopw [6, 7] (fun c1 c2 wr => ∃ (s f A B C D p q a b c d : Int), c1 = .int .i64 p ∧ c2 = .int .i64 q ∧ 0 ≤ q ∧ q ≤ p ∧ p ≤ 4611686018427387903 ∧ 0 ≤ s ∧ s + q ≤ 4611686018427387903 ∧ Hid (Lp s f A B C D) ∧ Hid (p0 = D * p + B * q ∧ q0 = C * p + A * q) ∧ Hid (a = f * A ∧ b = -(f * B) ∧ c = -(f * C) ∧ d = f * D) ∧ Hid (s = 0 ∨ (D ≤ q ∧ B + D ≤ p - q)) ∧
    Box wr w3.heap.size 72 #[.int .i64 s, .int .i64 a, .int .i64 b, .int .i64 c, .int .i64 d] ∧ Box wr w.heap.size 72 #[.int .i64 0, .int .i64 0, .int .i64 0, .int .i64 0, .int .i64 0] ∧ Below w.heap.size w wr) (fun _ c2 _ => (intOf c2).toNat)
  case atStart => exact ⟨0, 1, 1, 0, 0, 1, p0, q0, 1, 0, 0, 1, rfl, rfl, q00, pq, by omega, by omega, by omega, Lp.first, show _ ∧ _ by omega, show _ ∧ _ by omega, .inl rfl, Box.made _ _ _, HR3.out.later (alloc_later _ _) hs3, bt HBB.out (alloc_later _ _)⟩
  case round =>
    obtain ⟨s, f, A, B, C, D, p, q, a', b', c', d', rfl, rfl, qa, qb, pa, sa, sq, HLP, HPQ, HAB, HH, box, res, hbel⟩ := hrel
    have k0 : wr.cell? ⟨w3.heap.size, 0, none⟩ = some (.int .i64 s) := box.cell 0
    have k1 : wr.cell? ⟨w3.heap.size, 1, none⟩ = some (.int .i64 a') := box.cell 1
    have k2 : wr.cell? ⟨w3.heap.size, 2, none⟩ = some (.int .i64 b') := box.cell 2
    have k3 : wr.cell? ⟨w3.heap.size, 3, none⟩ = some (.int .i64 c') := box.cell 3
    have k4 : wr.cell? ⟨w3.heap.size, 4, none⟩ = some (.int .i64 d') := box.cell 4
    have HFIN : Hid (s = 0 ∨ (1 ≤ s ∧ Leaps (val xs) (val ys) a' b' c' d')) := by
      rcases HH.out with h0 | ⟨h1, h2⟩
      · exact .inl h0
      · by_cases hs0 : s = 0
        · exact .inl hs0
        · right
          obtain ⟨e1, e2, e3, e4⟩ := HAB.out
          obtain ⟨kp, mx, my, lx, ly, lx0, ly0⟩ := HK.out
          refine ⟨by omega, ?_⟩
          rw [e1, e2, e3, e4]
          exact leaps_of HLP.out (by omega) (by omega) lx0 lx ly0 ly (by rw [← HPQ.out.1, Int.mul_comm]; exact mx.symm) (by rw [← HPQ.out.2, Int.mul_comm]; exact my.symm) (HLP.out.held h1 h2 HPQ.out.1 (by omega)) h1 h2
    by_cases hq : q = 0
    · subst hq
      have r0 : wr.cell? ⟨w.heap.size, 0, none⟩ = some (.int .i64 0) := res.cell 0
      have r1 : wr.cell? ⟨w.heap.size, 1, none⟩ = some (.int .i64 0) := res.cell 1
      have r2 : wr.cell? ⟨w.heap.size, 2, none⟩ = some (.int .i64 0) := res.cell 2
      have r3 : wr.cell? ⟨w.heap.size, 3, none⟩ = some (.int .i64 0) := res.cell 3
      have r4 : wr.cell? ⟨w.heap.size, 4, none⟩ = some (.int .i64 0) := res.cell 4
      have g0 := res.free 0
      have g1 := res.free 1
      have g2 := res.free 2
      have g3 := res.free 3
      have g4 := res.free 4
      go_wp2_with fail
      refine bodyPost_ret (v := .agg #[.int .i64 s, .int .i64 a', .int .i64 b', .int .i64 c', .int .i64 d']) (by simp [results, Try.results49, go_sem, r0, r1, r2, r3, r4]) rfl ?_
      exact ⟨s, a', b', c', d', rfl, sa, by omega, HFIN.out, ((((hbel.setCell (p := ⟨w.heap.size, 0, none⟩) (Nat.le_refl _) _).setCell (p := ⟨w.heap.size, 1, none⟩) (Nat.le_refl _) _).setCell (p := ⟨w.heap.size, 2, none⟩) (Nat.le_refl _) _).setCell (p := ⟨w.heap.size, 3, none⟩) (Nat.le_refl _) _).setCell (p := ⟨w.heap.size, 4, none⟩) (Nat.le_refl _) _⟩
    · have q1 : 1 ≤ q := by omega
      have hne : (q != 0) = true := by simp [hq]
      have Q1 : 1 ≤ p / q := (Int.le_ediv_iff_mul_le (by omega)).2 (by omega)
      have hpe := Int.mul_ediv_add_emod p q
      have m0' : 0 ≤ p % q := Int.emod_nonneg _ hq
      have m1 : p % q < q := Int.emod_lt_of_pos _ (by omega)
      have td : p.tdiv q = p / q := Int.tdiv_eq_ediv_of_nonneg (by omega)
      have tm : p.tmod q = p % q := Int.tmod_eq_emod_of_nonneg (by omega)
      have Qp : p / q ≤ p := Int.ediv_le_self _ (by omega)
      obtain ⟨Q, hQ⟩ : ∃ Q, p / q = Q := ⟨_, rfl⟩
      obtain ⟨r, hr⟩ : ∃ r, p % q = r := ⟨_, rfl⟩
      rw [hQ] at Q1 hpe td Qp
      rw [hr] at m0' m1 hpe tm
      have wQ : IntKind.i64.wrap Q = Q := IntWalk.i64_in _ (by omega)
      have ps := pair_step (Q := Q) (q := q) (r := r) (by rw [Int.mul_comm]; exact hpe.symm) HPQ.out.1 HPQ.out.2
      have lp' := HLP.out.step Q1
      have hD := lp'.small q1 m0' ps.1 (by omega)
      obtain ⟨e1, e2, e3, e4⟩ := HAB.out
      obtain ⟨w1', w2', w3', w4', f1, f2, f3, f4⟩ := step_sizes (p := p) (q := q) HLP.out Q1 hD e1 e2 e3 e4
      have HST := hid (fun ww => Calls.mono (step_any s a' b' c' d' Q ww ⟨sa, by omega⟩ w1' w2' w3' w4') (R' := fun e w' => e = .returned (.agg #[.int .i64 (s + 1), .int .i64 c', .int .i64 d', .int .i64 (a' - Q * c'), .int .i64 (b' - Q * d')]) ∧ Below ww.heap.size ww w' ∧
        (wr.heap.size < ww.heap.size → ∀ j, w'.cell? ⟨wr.heap.size, j, none⟩ = ww.cell? ⟨wr.heap.size, j, none⟩) ∧ (wr.heap.size < ww.heap.size → ∀ j, w'.frozen? ⟨wr.heap.size, j, none⟩ = ww.frozen? ⟨wr.heap.size, j, none⟩)) (fun _ _ h => ⟨h.1, h.2, fun hlt j => h.2.cell hlt, fun hlt j => h.2.frozen hlt⟩))
      obtain ⟨c2, hc2⟩ : ∃ c2, a' - Q * c' = c2 := ⟨_, rfl⟩
      obtain ⟨d2, hd2⟩ : ∃ d2, b' - Q * d' = d2 := ⟨_, rfl⟩
      rw [hc2] at f3 HST
      rw [hd2] at f4 HST
      obtain ⟨C2, hC2⟩ : ∃ C2, A + Q * C = C2 := ⟨_, rfl⟩
      obtain ⟨D2, hD2⟩ : ∃ D2, B + Q * D = D2 := ⟨_, rfl⟩
      rw [hC2] at lp' ps f3
      rw [hD2] at lp' ps f4 hD
      have ad := abs_of (a := d') lp'.b0 lp'.sgn (.inr f1)
      have ad2 := abs_of (a := d2) (by have := lp'.d1; omega) lp'.sgn (.inl f4)
      have lD : D ≤ D2 := by
        rcases lp'.way with ⟨x0, _⟩ | ⟨_, _, _, x3, _⟩
        · omega
        · exact x3
      have lD0 := lp'.b0
      have HHO := hid (fun ww => holds_any (s + 1) c' d' c2 d2 q r ww (by omega) (by omega) (by omega) (by omega) (by omega))
      rw [ad, ad2] at HHO
      have HLP' := hid lp'
      have HPS := hid ps
      have HAB' : Hid (c' = -f * C ∧ d' = -(-f * D) ∧ c2 = -(-f * C2) ∧ d2 = -f * D2) := ⟨f2, f1, f3, f4⟩
      have hbs := box.lt
      have hrs := res.lt
      have HBX := hid box
      have HRS := hid res
      have HBL := hid hbel
      clear lp' ps f1 f2 f3 f4 e1 e2 e3 e4 ad ad2 hC2 hD2 hc2 hd2 w1' w2' w3' w4' hpe box res hbel HLP HPQ HAB HH lD lD0 hD
      go_upto_region 5 with fail
      go_cut [9, 10] from 25 to 42 (fun n9 n10 wx => ∃ b9 : Nat, n9 = .pointer (some ⟨b9, 0, none⟩) ∧ n10 = .int .i64 r ∧ Box wx b9 72 #[.int .i64 (s + 1), .int .i64 c', .int .i64 d', .int .i64 c2, .int .i64 d2] ∧ wr.heap.size ≤ b9 ∧ Below wr.heap.size wr wx)
      case first =>
        go_region_with (go_at_call 58; with_reducible refine Calls.mono (HST.out _) ?_; rintro e w5 ⟨rfl, hb5, hx5, hy5⟩)
        all_goals
          go_wp2_with fail
          go_meet
        · exact ⟨_, rfl, rfl, Box.made _ _ _, hb5.size, bt ((Below.refl _ wr).drew.trans hb5) (alloc_later _ _)⟩
        · exact ⟨_, rfl, rfl, (new_box hb5).1.put5 _ _ _ _ _, Nat.le_refl _, below_put5 (new_box hb5).2 _ (Nat.le_refl _) _ _ _ _ _⟩
        · exact ⟨_, rfl, rfl, (new_box hb5).1.put5 _ _ _ _ _, Nat.le_refl _, below_put5 (new_box hb5).2 _ (Nat.le_refl _) _ _ _ _ _⟩
      case rest =>
        obtain ⟨b9, rfl, rfl, box9, hb9, hbw⟩ := hcut
        have n0 : wc.cell? ⟨b9, 0, none⟩ = some (.int .i64 (s + 1)) := box9.cell 0
        have n1 : wc.cell? ⟨b9, 1, none⟩ = some (.int .i64 c') := box9.cell 1
        have n2 : wc.cell? ⟨b9, 2, none⟩ = some (.int .i64 d') := box9.cell 2
        have n3 : wc.cell? ⟨b9, 3, none⟩ = some (.int .i64 c2) := box9.cell 3
        have n4 : wc.cell? ⟨b9, 4, none⟩ = some (.int .i64 d2) := box9.cell 4
        go_wp2_with fail
        refine Calls.mono (HHO.out _) ?_
        rintro e w6 ⟨rfl, hb6⟩
        have box8 := (HBX.out.later hbw hbs).later hb6 (HBX.out.later hbw hbs).lt
        have res8 := (HRS.out.later hbw hrs).later hb6 (HRS.out.later hbw hrs).lt
        have box6 := box9.later hb6 box9.lt
        have hbel : Below w.heap.size w w6 := bt HBL.out (bt hbw hb6)
        have hne6 : ¬ b9 = w3.heap.size := by omega
        have hne7 : ¬ w3.heap.size = b9 := by omega
        clear n0 n1 n2 n3 n4 k0 k1 k2 k3 k4 HST
        by_cases hh : D2 ≤ r ∧ D + D2 ≤ q - r
        · have hdec : decide (D2 ≤ r ∧ D + D2 ≤ q - r) = true := decide_eq_true hh
          rw [hdec]
          clear hdec
          have n0 : w6.cell? ⟨b9, 0, none⟩ = some (.int .i64 (s + 1)) := box6.cell 0
          have n1 : w6.cell? ⟨b9, 1, none⟩ = some (.int .i64 c') := box6.cell 1
          have n2 : w6.cell? ⟨b9, 2, none⟩ = some (.int .i64 d') := box6.cell 2
          have n3 : w6.cell? ⟨b9, 3, none⟩ = some (.int .i64 c2) := box6.cell 3
          have n4 : w6.cell? ⟨b9, 4, none⟩ = some (.int .i64 d2) := box6.cell 4
          have f0 := box8.free 0
          have f1 := box8.free 1
          have f2 := box8.free 2
          have f3 := box8.free 3
          have f4 := box8.free 4
          have m0 : w6.cell? ⟨w3.heap.size, 0, none⟩ = some (.int .i64 s) := box8.cell 0
          have m1 : w6.cell? ⟨w3.heap.size, 1, none⟩ = some (.int .i64 a') := box8.cell 1
          have m2 : w6.cell? ⟨w3.heap.size, 2, none⟩ = some (.int .i64 b') := box8.cell 2
          have m3 : w6.cell? ⟨w3.heap.size, 3, none⟩ = some (.int .i64 c') := box8.cell 3
          have m4 : w6.cell? ⟨w3.heap.size, 4, none⟩ = some (.int .i64 d') := box8.cell 4
          have HNX := hid (box8.put5 (.int .i64 (s + 1)) (.int .i64 c') (.int .i64 d') (.int .i64 c2) (.int .i64 d2))
          have HRX := hid (res8.put5_other (show w.heap.size ≠ w3.heap.size by omega) (.int .i64 (s + 1)) (.int .i64 c') (.int .i64 d') (.int .i64 c2) (.int .i64 d2))
          have HBX' := hid (below_put5 hbel w3.heap.size (by omega) (.int .i64 (s + 1)) (.int .i64 c') (.int .i64 d') (.int .i64 c2) (.int .i64 d2))
          have HHD := hid hh
          clear box6 box8 res8 box9 hbel hh hbw hb6
          go_wp2_with fail
          go_roundw
          case rel => exact ⟨s + 1, -f, C, D, C2, D2, q, r, c', d', c2, d2, rfl, rfl, m0', by omega, by omega, by omega, by omega, HLP', HPS, HAB', .inr HHD.out, HNX.out, HRX.out, HBX'.out⟩
          case measure => simp [intOf]; omega
        · have hdec : decide (D2 ≤ r ∧ D + D2 ≤ q - r) = false := decide_eq_false hh
          rw [hdec]
          clear hdec
          have m0 : w6.cell? ⟨w3.heap.size, 0, none⟩ = some (.int .i64 s) := box8.cell 0
          have m1 : w6.cell? ⟨w3.heap.size, 1, none⟩ = some (.int .i64 a') := box8.cell 1
          have m2 : w6.cell? ⟨w3.heap.size, 2, none⟩ = some (.int .i64 b') := box8.cell 2
          have m3 : w6.cell? ⟨w3.heap.size, 3, none⟩ = some (.int .i64 c') := box8.cell 3
          have m4 : w6.cell? ⟨w3.heap.size, 4, none⟩ = some (.int .i64 d') := box8.cell 4
          have r0 : w6.cell? ⟨w.heap.size, 0, none⟩ = some (.int .i64 0) := res8.cell 0
          have r1 : w6.cell? ⟨w.heap.size, 1, none⟩ = some (.int .i64 0) := res8.cell 1
          have r2 : w6.cell? ⟨w.heap.size, 2, none⟩ = some (.int .i64 0) := res8.cell 2
          have r3 : w6.cell? ⟨w.heap.size, 3, none⟩ = some (.int .i64 0) := res8.cell 3
          have r4 : w6.cell? ⟨w.heap.size, 4, none⟩ = some (.int .i64 0) := res8.cell 4
          have g0 := res8.free 0
          have g1 := res8.free 1
          have g2 := res8.free 2
          have g3 := res8.free 3
          have g4 := res8.free 4
          clear box6 box8 res8 box9 hh hbw hb6
          go_wp2_with fail
          refine bodyPost_ret (v := .agg #[.int .i64 s, .int .i64 a', .int .i64 b', .int .i64 c', .int .i64 d']) (by simp [results, Try.results49, go_sem, r0, r1, r2, r3, r4]) rfl ?_
          exact ⟨s, a', b', c', d', rfl, sa, by omega, HFIN.out, below_put5 hbel w.heap.size (Nat.le_refl _) _ _ _ _ _⟩
end Go.Proofs.Ytbcangblmadnpac
