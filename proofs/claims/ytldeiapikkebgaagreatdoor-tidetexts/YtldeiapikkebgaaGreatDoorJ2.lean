/- My texts on the way to TideTexts, one behind the other: contracts of the program and of the document's answers. -/
import Derived.Test.YtldeiapikkebgaaGreatDoorJ1
import Derived.BigQuiet
import Derived.Handy
import Derived.Deep.CutRange
import Derived.Deep.LoopGhost
import Derived.Deep.Cut
import Derived.Deep.RegionHeld3
import Derived.Deep.QuietTactic
/- nat.look: the leap that the highest bits of two numbers tell. -/
namespace Go.Proofs.YtldeiapikkebgaaGreatDoor
open Go.RowKit
set_option linter.unusedVariables false

theorem lead_fit (x : Int) (h0 : 1 ≤ x) (h1 : x ≤ 4294967295) (t : Nat) (ht : 32 - Lib.bitLen x.toNat = t) : t ≤ 31 ∧ ∀ y : Int, 0 ≤ y → y ≤ x → y * 2 ^ t < 4294967296 := by
  obtain ⟨a, b, c⟩ := bitLen_bounds x h0 h1
  have h2 := bitLen_le32 x h1
  refine ⟨by omega, fun y hy hyx => ?_⟩
  have e := two_split (Lib.bitLen x.toNat) h2
  rw [ht] at e
  have hp := two_pos t
  have e1 : (y + 1) * 2 ^ t ≤ 2 ^ Lib.bitLen x.toNat * 2 ^ t := Int.mul_le_mul_of_nonneg_right (by omega) (by omega)
  rw [Int.add_mul] at e1
  omega

def Looked (w : World) (X Y : Int) (x : Ending) (w' : World) : Prop := ∃ s a b c d : Int, x = .returned (.agg #[.int .i64 s, .int .i64 a, .int .i64 b, .int .i64 c, .int .i64 d]) ∧ 0 ≤ s ∧ s ≤ 4611686018427387904 ∧ (s = 0 ∨ (1 ≤ s ∧ Leaps X Y a b c d)) ∧ Below w.heap.size w w'

theorem Box.put5 {w : World} {b t : Nat} {z0 z1 z2 z3 z4 : Value} (h : Box w b t #[z0, z1, z2, z3, z4]) (v0 v1 v2 v3 v4 : Value) :
    Box (((((w.setCell ⟨b, 0, none⟩ v0).setCell ⟨b, 1, none⟩ v1).setCell ⟨b, 2, none⟩ v2).setCell ⟨b, 3, none⟩ v3).setCell ⟨b, 4, none⟩ v4) b t #[v0, v1, v2, v3, v4] :=
  ((((h.set 0 v0).set 1 v1).set 2 v2).set 3 v3).set 4 v4
theorem below_put5 {B : Nat} {a w : World} (h : Below B a w) (b : Nat) (hb : B ≤ b) (v0 v1 v2 v3 v4 : Value) :
    Below B a (((((w.setCell ⟨b, 0, none⟩ v0).setCell ⟨b, 1, none⟩ v1).setCell ⟨b, 2, none⟩ v2).setCell ⟨b, 3, none⟩ v3).setCell ⟨b, 4, none⟩ v4) :=
  ((((h.setCell (p := ⟨b, 0, none⟩) hb _).setCell (p := ⟨b, 1, none⟩) hb _).setCell (p := ⟨b, 2, none⟩) hb _).setCell (p := ⟨b, 3, none⟩) hb _).setCell (p := ⟨b, 4, none⟩) hb _

theorem new_box {wr w5 : World} {vs : Array Value} {t : Nat} (hb : Below (wr.alloc (.cells vs t)).drew.heap.size (wr.alloc (.cells vs t)).drew w5) : Box w5 wr.heap.size t vs ∧ Below wr.heap.size wr w5 := by
  have h1 : Below (wr.alloc (.cells vs t)).heap.size (wr.alloc (.cells vs t)) w5 := (Below.refl _ (wr.alloc (.cells vs t))).drew.trans hb
  exact ⟨(Box.made wr t vs).later h1 (by simp), bt (alloc_later _ _) h1⟩
theorem Box.put5_other {w : World} {b t b' : Nat} {vs : Array Value} (h : Box w b t vs) (hne : b ≠ b') (v0 v1 v2 v3 v4 : Value) :
    Box (((((w.setCell ⟨b', 0, none⟩ v0).setCell ⟨b', 1, none⟩ v1).setCell ⟨b', 2, none⟩ v2).setCell ⟨b', 3, none⟩ v3).setCell ⟨b', 4, none⟩ v4) b t vs :=
  ((((h.other ⟨b', 0, none⟩ _ hne).other ⟨b', 1, none⟩ _ hne).other ⟨b', 2, none⟩ _ hne).other ⟨b', 3, none⟩ _ hne).other ⟨b', 4, none⟩ _ hne

theorem top_le {xs ys : List Int} (wx : Wd xs) (wy : Wd ys) (n : Nat) (lx : xs.length = n + 1) (ly : ys.length = n + 1) (h : val ys ≤ val xs) : ys[n]?.getD 0 ≤ xs[n]?.getD 0 := by
  by_cases c : ys[n]?.getD 0 ≤ xs[n]?.getD 0
  · exact c
  · have := val_lt_of wx wy n (by omega) (fun j hj => by rw [List.getElem?_eq_none (by omega), List.getElem?_eq_none (by omega)])
    omega

theorem step_sizes {s g A B C D p q a b c d Q : Int} (h : Lp s g A B C D) (hQ : 1 ≤ Q) (hD : B + Q * D ≤ 4611686018427387903) (ha : a = g * A) (hb : b = -(g * B)) (hc : c = -(g * C)) (hd : d = g * D) :
    IntKind.i64.wrap (Q * c) = Q * c ∧ IntKind.i64.wrap (Q * d) = Q * d ∧ IntKind.i64.wrap (a - Q * c) = a - Q * c ∧ IntKind.i64.wrap (b - Q * d) = b - Q * d ∧ d = -(-g * D) ∧ c = -g * C ∧ a - Q * c = -(-g * (A + Q * C)) ∧ b - Q * d = -g * (B + Q * D) := by
  obtain ⟨a0, b0, c0, cd, d1, det, sgn, way⟩ := h
  have q1 : 0 ≤ Q * C := Int.mul_nonneg (by omega) c0
  have q2 : Q * C ≤ Q * D := Int.mul_le_mul_of_nonneg_left cd (by omega)
  have q3 : 0 ≤ Q * D := Int.mul_nonneg (by omega) (by omega)
  have q4 : 1 * D ≤ Q * D := Int.mul_le_mul_of_nonneg_right hQ (by omega)
  have hA : A ≤ B + Q * D := by rcases way with ⟨_, e1, _, _, e4⟩ | ⟨_, w2, _, _, _⟩ <;> omega
  have f1 : d = -(-g * D) := by rw [hd, Int.neg_mul, Int.neg_neg]
  have f2 : c = -g * C := by rw [hc, Int.neg_mul]
  have f3 : a - Q * c = -(-g * (A + Q * C)) := by
    rw [ha, hc, Int.neg_mul, Int.neg_neg, Int.mul_neg, Int.mul_add, ← Int.mul_assoc Q, ← Int.mul_assoc g Q, Int.mul_comm Q g]; omega
  have f4 : b - Q * d = -g * (B + Q * D) := by
    rw [hb, hd, Int.neg_mul, Int.mul_add, ← Int.mul_assoc Q, ← Int.mul_assoc g Q, Int.mul_comm Q g]; omega
  have bb : (-4611686018427387903 ≤ Q * c ∧ Q * c ≤ 4611686018427387903) ∧ (-4611686018427387903 ≤ Q * d ∧ Q * d ≤ 4611686018427387903) ∧ (-4611686018427387903 ≤ a ∧ a ≤ 4611686018427387903) ∧ (-4611686018427387903 ≤ b ∧ b ≤ 4611686018427387903) := by
    rcases sgn with rfl | rfl
    · rw [Int.one_mul] at ha hb hc hd
      rw [hc, hd, ha, hb, Int.mul_neg]
      omega
    · rw [Int.neg_mul, Int.one_mul] at ha hb hc hd
      rw [Int.neg_neg] at hb hc
      rw [hc, hd, ha, hb, Int.mul_neg]
      omega
  exact ⟨IntWalk.i64_in _ (by omega), IntWalk.i64_in _ (by omega), IntWalk.i64_in _ (by omega), IntWalk.i64_in _ (by omega), f1, f2, f3, f4⟩

theorem abs_of {g A a : Int} (h : 0 ≤ A) (sgn : g = 1 ∨ g = -1) (ha : a = g * A ∨ a = -(g * A)) : (a.natAbs : Int) = A := by
  rcases sgn with rfl | rfl
  · simp only [Int.one_mul] at ha; omega
  · simp only [Int.neg_mul, Int.one_mul] at ha; omega

set_option maxHeartbeats 3200000 in
set_option maxRecDepth 100000 in
theorem look_any (a : Option Addr) (e cap : Nat) (xs : List Int) (b : Option Addr) (cap' : Nat) (ys : List Int) (w : World) (h : Reads w w.heap.size a (e + 3) cap xs) (g : Reads w w.heap.size b (e + 3) cap' ys) (hn : e ≤ 8192) (htop : 1 ≤ xs[e + 2]?.getD 0) (hle : val ys ≤ val xs) :
    Calls Tryz.prog 162 #[.slice a (e + 3) cap, .slice b (e + 3) cap'] w (Looked w (val xs) (val ys)) := by
  have bt0 := h.2.1.at (e + 2)
  have bt1 := g.2.1.at (e + 2)
  have hty := top_le h.2.1 g.2.1 (e + 2) h.1 g.1 hle
  obtain ⟨t, ht⟩ : ∃ t, 32 - Lib.bitLen (xs[e + 2]?.getD 0).toNat = t := ⟨_, rfl⟩
  obtain ⟨t31, hfit⟩ := lead_fit _ htop bt0.2 t ht
  have HLD := hid (fun ww => lead_any (xs[e + 2]?.getD 0) ww htop bt0.2)
  rw [ht] at HLD
  have HX := hid (fun ww (hb : Below w.heap.size w ww) => highest_any a e cap xs t ww (h.later hb hb.size) hn t31 (hfit _ (by omega) (Int.le_refl _)))
  have HY := hid (fun ww (hb : Below w.heap.size w ww) => highest_any b e cap' ys t ww (g.later hb hb.size) hn t31 (hfit _ bt1.1 hty))
  -- the highest bits, and what is below them
  have nx := val_nonneg h.2.1
  have ny := val_nonneg g.2.1
  have kp : (0 : Int) < 4294967296 ^ e * 2 ^ (34 - t) := Int.mul_pos (pw_pos e) (two_pos _)
  have dx : val xs / 4294967296 ^ e / 2 ^ (34 - t) = val xs / (4294967296 ^ e * 2 ^ (34 - t)) := Int.ediv_ediv_of_nonneg (Int.le_of_lt (pw_pos e))
  have dy : val ys / 4294967296 ^ e / 2 ^ (34 - t) = val ys / (4294967296 ^ e * 2 ^ (34 - t)) := Int.ediv_ediv_of_nonneg (Int.le_of_lt (pw_pos e))
  rw [dx] at HX
  rw [dy] at HY
  obtain ⟨K, hK⟩ : ∃ K : Int, 4294967296 ^ e * 2 ^ (34 - t) = K := ⟨_, rfl⟩
  rw [hK] at HX HY kp
  have mx := Int.mul_ediv_add_emod (val xs) K
  have my := Int.mul_ediv_add_emod (val ys) K
  have lx := Int.emod_lt_of_pos (val xs) kp
  have ly := Int.emod_lt_of_pos (val ys) kp
  have lx0 := Int.emod_nonneg (val xs) (show K ≠ 0 by omega)
  have ly0 := Int.emod_nonneg (val ys) (show K ≠ 0 by omega)
  have pq : val ys / K ≤ val xs / K := Int.ediv_le_ediv kp hle
  have q00 : 0 ≤ val ys / K := Int.ediv_nonneg ny (by omega)
  obtain ⟨p0, hp0⟩ : ∃ p, val xs / K = p := ⟨_, rfl⟩
  obtain ⟨q0, hq0⟩ : ∃ p, val ys / K = p := ⟨_, rfl⟩
  rw [hp0] at HX mx pq
  rw [hq0] at HY my pq q00
  have HK := hid (And.intro kp (And.intro mx (And.intro my (And.intro lx (And.intro ly (And.intro lx0 ly0))))))
  rcases h.2.2.1 with h0 | ⟨b2, o2, rfl, hb2, hc2⟩
  · omega
  have hc0 := hc2 (e + 2) (by omega)
  clear dx dy hK mx my lx ly lx0 ly0 hp0 hq0 kp hc2 h g hfit ht hty bt1 nx ny hle
  generalize xs[e + 2]?.getD 0 = top at *
  go_enter Tryz.func162, Tryz.ntmps162
  go_wp2_with fail
  refine Calls.mono (HLD.out _) ?_
  rintro x w' ⟨rfl, rfl⟩
  go_wp2_with fail
  refine Calls.mono (HX.out _ (alloc_later _ _)) ?_
  rintro x w2 ⟨rfl, p00, p01, hb2'⟩
  have hbA := bt (alloc_later _ _) hb2'
  have HR2 := hid (Box.later (Box.made w 177 #[.int .i64 0, .int .i64 0, .int .i64 0, .int .i64 0, .int .i64 0]) hb2' (by simp))
  go_wp2_with fail
  refine Calls.mono (HY.out _ hbA) ?_
  rintro x w3 ⟨rfl, _, q01, hb3⟩
  have hbB := bt hbA hb3
  have HR3 := hid (Box.later HR2.out hb3 HR2.out.lt)
  have hs3 := HR3.out.lt
  have HBB := hid hbB
  clear hb3 hb2' hbA hbB HR2 HX HY HLD hc0
  go_wp2_with fail
  go_loopw [6, 7] (fun c1 c2 wr => ∃ (s f A B C D p q a b c d : Int), c1 = .int .i64 p ∧ c2 = .int .i64 q ∧ 0 ≤ q ∧ q ≤ p ∧ p ≤ 4611686018427387903 ∧ 0 ≤ s ∧ s + q ≤ 4611686018427387903 ∧ Hid (Lp s f A B C D) ∧ Hid (p0 = D * p + B * q ∧ q0 = C * p + A * q) ∧ Hid (a = f * A ∧ b = -(f * B) ∧ c = -(f * C) ∧ d = f * D) ∧ Hid (s = 0 ∨ (D ≤ q ∧ B + D ≤ p - q)) ∧
    Box wr w3.heap.size 177 #[.int .i64 s, .int .i64 a, .int .i64 b, .int .i64 c, .int .i64 d] ∧ Box wr w.heap.size 177 #[.int .i64 0, .int .i64 0, .int .i64 0, .int .i64 0, .int .i64 0] ∧ Below w.heap.size w wr) (fun _ c2 _ => (intOf c2).toNat)
  case atStart => exact ⟨0, 1, 1, 0, 0, 1, p0, q0, 1, 0, 0, 1, rfl, rfl, q00, pq, by omega, by omega, by omega, Lp.first, show _ ∧ _ by omega, show _ ∧ _ by omega, .inl rfl, Box.made _ _ _, HR3.out.later (alloc_later _ _) hs3, bt HBB.out (alloc_later _ _)⟩
  case round =>
    obtain ⟨s, f, A, B, C, D, p, q, a', b', c', d', rfl, rfl, qa, qb, pa, sa, sq, HLP, HPQ, HAB, HH, box, res, hbel⟩ := hrel
    have k0 : wr.cell? ⟨w3.heap.size, 0, none⟩ = some (.int .i64 s) := box.cell 0
    have k1 : wr.cell? ⟨w3.heap.size, 1, none⟩ = some (.int .i64 a') := box.cell 1
    have k2 : wr.cell? ⟨w3.heap.size, 2, none⟩ = some (.int .i64 b') := box.cell 2
    have k3 : wr.cell? ⟨w3.heap.size, 3, none⟩ = some (.int .i64 c') := box.cell 3
    have k4 : wr.cell? ⟨w3.heap.size, 4, none⟩ = some (.int .i64 d') := box.cell 4
    have HFIN : Hid (s = 0 ∨ (1 ≤ s ∧ Leaps (val xs) (val ys) a' b' c' d')) := by
      rcases HH.out with h0 | ⟨h1, h2⟩
      · exact .inl h0
      · by_cases hs0 : s = 0
        · exact .inl hs0
        · right
          obtain ⟨e1, e2, e3, e4⟩ := HAB.out
          obtain ⟨kp, mx, my, lx, ly, lx0, ly0⟩ := HK.out
          refine ⟨by omega, ?_⟩
          rw [e1, e2, e3, e4]
          exact leaps_of HLP.out (by omega) (by omega) lx0 lx ly0 ly (by rw [← HPQ.out.1, Int.mul_comm]; exact mx.symm) (by rw [← HPQ.out.2, Int.mul_comm]; exact my.symm) (HLP.out.held h1 h2 HPQ.out.1 (by omega)) h1 h2
    by_cases hq : q = 0
    · subst hq
      have r0 : wr.cell? ⟨w.heap.size, 0, none⟩ = some (.int .i64 0) := res.cell 0
      have r1 : wr.cell? ⟨w.heap.size, 1, none⟩ = some (.int .i64 0) := res.cell 1
      have r2 : wr.cell? ⟨w.heap.size, 2, none⟩ = some (.int .i64 0) := res.cell 2
      have r3 : wr.cell? ⟨w.heap.size, 3, none⟩ = some (.int .i64 0) := res.cell 3
      have r4 : wr.cell? ⟨w.heap.size, 4, none⟩ = some (.int .i64 0) := res.cell 4
      have g0 := res.free 0
      have g1 := res.free 1
      have g2 := res.free 2
      have g3 := res.free 3
      have g4 := res.free 4
      go_wp2_with fail
      refine bodyPost_ret (v := .agg #[.int .i64 s, .int .i64 a', .int .i64 b', .int .i64 c', .int .i64 d']) (by simp [results, Tryz.results162, go_sem, r0, r1, r2, r3, r4]) rfl ?_
      exact ⟨s, a', b', c', d', rfl, sa, by omega, HFIN.out, ((((hbel.setCell (p := ⟨w.heap.size, 0, none⟩) (Nat.le_refl _) _).setCell (p := ⟨w.heap.size, 1, none⟩) (Nat.le_refl _) _).setCell (p := ⟨w.heap.size, 2, none⟩) (Nat.le_refl _) _).setCell (p := ⟨w.heap.size, 3, none⟩) (Nat.le_refl _) _).setCell (p := ⟨w.heap.size, 4, none⟩) (Nat.le_refl _) _⟩
    · have q1 : 1 ≤ q := by omega
      have hne : (q != 0) = true := by simp [hq]
      have Q1 : 1 ≤ p / q := (Int.le_ediv_iff_mul_le (by omega)).2 (by omega)
      have hpe := Int.mul_ediv_add_emod p q
      have m0' : 0 ≤ p % q := Int.emod_nonneg _ hq
      have m1 : p % q < q := Int.emod_lt_of_pos _ (by omega)
      have td : p.tdiv q = p / q := Int.tdiv_eq_ediv_of_nonneg (by omega)
      have tm : p.tmod q = p % q := Int.tmod_eq_emod_of_nonneg (by omega)
      have Qp : p / q ≤ p := Int.ediv_le_self _ (by omega)
      obtain ⟨Q, hQ⟩ : ∃ Q, p / q = Q := ⟨_, rfl⟩
      obtain ⟨r, hr⟩ : ∃ r, p % q = r := ⟨_, rfl⟩
      rw [hQ] at Q1 hpe td Qp
      rw [hr] at m0' m1 hpe tm
      have wQ : IntKind.i64.wrap Q = Q := IntWalk.i64_in _ (by omega)
      have ps := pair_step (Q := Q) (q := q) (r := r) (by rw [Int.mul_comm]; exact hpe.symm) HPQ.out.1 HPQ.out.2
      have lp' := HLP.out.step Q1
      have hD := lp'.small q1 m0' ps.1 (by omega)
      obtain ⟨e1, e2, e3, e4⟩ := HAB.out
      obtain ⟨w1', w2', w3', w4', f1, f2, f3, f4⟩ := step_sizes (p := p) (q := q) HLP.out Q1 hD e1 e2 e3 e4
      have HST := hid (fun ww => Calls.mono (step_any s a' b' c' d' Q ww ⟨sa, by omega⟩ w1' w2' w3' w4') (R' := fun e w' => e = .returned (.agg #[.int .i64 (s + 1), .int .i64 c', .int .i64 d', .int .i64 (a' - Q * c'), .int .i64 (b' - Q * d')]) ∧ Below ww.heap.size ww w' ∧
        (wr.heap.size < ww.heap.size → ∀ j, w'.cell? ⟨wr.heap.size, j, none⟩ = ww.cell? ⟨wr.heap.size, j, none⟩) ∧ (wr.heap.size < ww.heap.size → ∀ j, w'.frozen? ⟨wr.heap.size, j, none⟩ = ww.frozen? ⟨wr.heap.size, j, none⟩)) (fun _ _ h => ⟨h.1, h.2, fun hlt j => h.2.cell hlt, fun hlt j => h.2.frozen hlt⟩))
      obtain ⟨c2, hc2⟩ : ∃ c2, a' - Q * c' = c2 := ⟨_, rfl⟩
      obtain ⟨d2, hd2⟩ : ∃ d2, b' - Q * d' = d2 := ⟨_, rfl⟩
      rw [hc2] at f3 HST
      rw [hd2] at f4 HST
      obtain ⟨C2, hC2⟩ : ∃ C2, A + Q * C = C2 := ⟨_, rfl⟩
      obtain ⟨D2, hD2⟩ : ∃ D2, B + Q * D = D2 := ⟨_, rfl⟩
      rw [hC2] at lp' ps f3
      rw [hD2] at lp' ps f4 hD
      have ad := abs_of (a := d') lp'.b0 lp'.sgn (.inr f1)
      have ad2 := abs_of (a := d2) (by have := lp'.d1; omega) lp'.sgn (.inl f4)
      have lD : D ≤ D2 := by
        rcases lp'.way with ⟨x0, _⟩ | ⟨_, _, _, x3, _⟩
        · omega
        · exact x3
      have lD0 := lp'.b0
      have HHO := hid (fun ww => holds_any (s + 1) c' d' c2 d2 q r ww (by omega) (by omega) (by omega) (by omega) (by omega))
      rw [ad, ad2] at HHO
      have HLP' := hid lp'
      have HPS := hid ps
      have HAB' : Hid (c' = -f * C ∧ d' = -(-f * D) ∧ c2 = -(-f * C2) ∧ d2 = -f * D2) := ⟨f2, f1, f3, f4⟩
      have hbs := box.lt
      have hrs := res.lt
      have HBX := hid box
      have HRS := hid res
      have HBL := hid hbel
      clear lp' ps f1 f2 f3 f4 e1 e2 e3 e4 ad ad2 hC2 hD2 hc2 hd2 w1' w2' w3' w4' hpe box res hbel HLP HPQ HAB HH lD lD0 hD
      go_upto_region 5 with fail
      go_cut [9, 10] from 25 to 42 (fun n9 n10 wx => ∃ b9 : Nat, n9 = .pointer (some ⟨b9, 0, none⟩) ∧ n10 = .int .i64 r ∧ Box wx b9 177 #[.int .i64 (s + 1), .int .i64 c', .int .i64 d', .int .i64 c2, .int .i64 d2] ∧ wr.heap.size ≤ b9 ∧ Below wr.heap.size wr wx)
      case first =>
        go_region_with (go_at_call 176; with_reducible refine Calls.mono (HST.out _) ?_; rintro e w5 ⟨rfl, hb5, hx5, hy5⟩)
        all_goals
          go_wp2_with fail
          go_meet
        · exact ⟨_, rfl, rfl, Box.made _ _ _, hb5.size, bt ((Below.refl _ wr).drew.trans hb5) (alloc_later _ _)⟩
        · exact ⟨_, rfl, rfl, (new_box hb5).1.put5 _ _ _ _ _, Nat.le_refl _, below_put5 (new_box hb5).2 _ (Nat.le_refl _) _ _ _ _ _⟩
        · exact ⟨_, rfl, rfl, (new_box hb5).1.put5 _ _ _ _ _, Nat.le_refl _, below_put5 (new_box hb5).2 _ (Nat.le_refl _) _ _ _ _ _⟩
      case rest =>
        obtain ⟨b9, rfl, rfl, box9, hb9, hbw⟩ := hcut
        have n0 : wc.cell? ⟨b9, 0, none⟩ = some (.int .i64 (s + 1)) := box9.cell 0
        have n1 : wc.cell? ⟨b9, 1, none⟩ = some (.int .i64 c') := box9.cell 1
        have n2 : wc.cell? ⟨b9, 2, none⟩ = some (.int .i64 d') := box9.cell 2
        have n3 : wc.cell? ⟨b9, 3, none⟩ = some (.int .i64 c2) := box9.cell 3
        have n4 : wc.cell? ⟨b9, 4, none⟩ = some (.int .i64 d2) := box9.cell 4
        go_wp2_with fail
        refine Calls.mono (HHO.out _) ?_
        rintro e w6 ⟨rfl, hb6⟩
        have box8 := (HBX.out.later hbw hbs).later hb6 (HBX.out.later hbw hbs).lt
        have res8 := (HRS.out.later hbw hrs).later hb6 (HRS.out.later hbw hrs).lt
        have box6 := box9.later hb6 box9.lt
        have hbel : Below w.heap.size w w6 := bt HBL.out (bt hbw hb6)
        have hne6 : ¬ b9 = w3.heap.size := by omega
        have hne7 : ¬ w3.heap.size = b9 := by omega
        clear n0 n1 n2 n3 n4 k0 k1 k2 k3 k4 HST
        by_cases hh : D2 ≤ r ∧ D + D2 ≤ q - r
        · have hdec : decide (D2 ≤ r ∧ D + D2 ≤ q - r) = true := decide_eq_true hh
          rw [hdec]
          clear hdec
          have n0 : w6.cell? ⟨b9, 0, none⟩ = some (.int .i64 (s + 1)) := box6.cell 0
          have n1 : w6.cell? ⟨b9, 1, none⟩ = some (.int .i64 c') := box6.cell 1
          have n2 : w6.cell? ⟨b9, 2, none⟩ = some (.int .i64 d') := box6.cell 2
          have n3 : w6.cell? ⟨b9, 3, none⟩ = some (.int .i64 c2) := box6.cell 3
          have n4 : w6.cell? ⟨b9, 4, none⟩ = some (.int .i64 d2) := box6.cell 4
          have f0 := box8.free 0
          have f1 := box8.free 1
          have f2 := box8.free 2
          have f3 := box8.free 3
          have f4 := box8.free 4
          have m0 : w6.cell? ⟨w3.heap.size, 0, none⟩ = some (.int .i64 s) := box8.cell 0
          have m1 : w6.cell? ⟨w3.heap.size, 1, none⟩ = some (.int .i64 a') := box8.cell 1
          have m2 : w6.cell? ⟨w3.heap.size, 2, none⟩ = some (.int .i64 b') := box8.cell 2
          have m3 : w6.cell? ⟨w3.heap.size, 3, none⟩ = some (.int .i64 c') := box8.cell 3
          have m4 : w6.cell? ⟨w3.heap.size, 4, none⟩ = some (.int .i64 d') := box8.cell 4
          have HNX := hid (box8.put5 (.int .i64 (s + 1)) (.int .i64 c') (.int .i64 d') (.int .i64 c2) (.int .i64 d2))
          have HRX := hid (res8.put5_other (show w.heap.size ≠ w3.heap.size by omega) (.int .i64 (s + 1)) (.int .i64 c') (.int .i64 d') (.int .i64 c2) (.int .i64 d2))
          have HBX' := hid (below_put5 hbel w3.heap.size (by omega) (.int .i64 (s + 1)) (.int .i64 c') (.int .i64 d') (.int .i64 c2) (.int .i64 d2))
          have HHD := hid hh
          clear box6 box8 res8 box9 hbel hh hbw hb6
          go_wp2_with fail
          go_roundw
          case rel => exact ⟨s + 1, -f, C, D, C2, D2, q, r, c', d', c2, d2, rfl, rfl, m0', by omega, by omega, by omega, by omega, HLP', HPS, HAB', .inr HHD.out, HNX.out, HRX.out, HBX'.out⟩
          case measure => simp [intOf]; omega
        · have hdec : decide (D2 ≤ r ∧ D + D2 ≤ q - r) = false := decide_eq_false hh
          rw [hdec]
          clear hdec
          have m0 : w6.cell? ⟨w3.heap.size, 0, none⟩ = some (.int .i64 s) := box8.cell 0
          have m1 : w6.cell? ⟨w3.heap.size, 1, none⟩ = some (.int .i64 a') := box8.cell 1
          have m2 : w6.cell? ⟨w3.heap.size, 2, none⟩ = some (.int .i64 b') := box8.cell 2
          have m3 : w6.cell? ⟨w3.heap.size, 3, none⟩ = some (.int .i64 c') := box8.cell 3
          have m4 : w6.cell? ⟨w3.heap.size, 4, none⟩ = some (.int .i64 d') := box8.cell 4
          have r0 : w6.cell? ⟨w.heap.size, 0, none⟩ = some (.int .i64 0) := res8.cell 0
          have r1 : w6.cell? ⟨w.heap.size, 1, none⟩ = some (.int .i64 0) := res8.cell 1
          have r2 : w6.cell? ⟨w.heap.size, 2, none⟩ = some (.int .i64 0) := res8.cell 2
          have r3 : w6.cell? ⟨w.heap.size, 3, none⟩ = some (.int .i64 0) := res8.cell 3
          have r4 : w6.cell? ⟨w.heap.size, 4, none⟩ = some (.int .i64 0) := res8.cell 4
          have g0 := res8.free 0
          have g1 := res8.free 1
          have g2 := res8.free 2
          have g3 := res8.free 3
          have g4 := res8.free 4
          clear box6 box8 res8 box9 hh hbw hb6
          go_wp2_with fail
          refine bodyPost_ret (v := .agg #[.int .i64 s, .int .i64 a', .int .i64 b', .int .i64 c', .int .i64 d']) (by simp [results, Tryz.results162, go_sem, r0, r1, r2, r3, r4]) rfl ?_
          exact ⟨s, a', b', c', d', rfl, sa, by omega, HFIN.out, below_put5 hbel w.heap.size (Nat.le_refl _) _ _ _ _ _⟩
end Go.Proofs.YtldeiapikkebgaaGreatDoor

/- nat.replace: a number in own memory becomes its rest by another one. -/
namespace Go.Proofs.YtldeiapikkebgaaGreatDoor
open Go.RowKit
set_option linter.unusedVariables false

theorem clear_cells {base g n cap : Nat} : ∀ (k o : Nat) (w : World) (zs : List Int), OwnC w base g n cap zs →
    ∃ us, OwnC (w.setCells g o (List.replicate k (.int .u32 0))) base g n cap us ∧ (∀ j, o ≤ j → j < o + k → us[j]?.getD 0 = 0) ∧ (∀ j, j < o → us[j]?.getD 0 = zs[j]?.getD 0) ∧ w.grownBy (w.setCells g o (List.replicate k (.int .u32 0))) (some g)
  | 0, o, w, zs, h => ⟨zs, h, fun j h1 h2 => by omega, fun _ _ => rfl, World.grownBy.refl _ _⟩
  | k + 1, o, w, zs, h => by
    obtain ⟨h1, hg⟩ := OwnC.set h o 0
    obtain ⟨us, h2, h3, h4, h5⟩ := clear_cells k (o + 1) _ _ h1
    refine ⟨us, h2, fun j a b => ?_, fun j a => ?_, grown_trans hg h5⟩
    · by_cases e : j = o
      · rw [h4 j (by omega), e, List.getElem?_set, if_pos rfl]
        split <;> rfl
      · exact h3 j (by omega) (by omega)
    · rw [h4 j (by omega), List.getElem?_set, if_neg (by omega)]

theorem copy_into {w : World} {ops : Array Oper} {rest : List Oper} {o : Oper} {a : Act} {Q : Exit → Act → World → Prop} (hgd : o.guard = none) (d s : Operand) (ho : o.op = .call { callee := .builtin .copy, args := #[d, s], argTypes := #[24, 24] })
    (base g n cap : Nat) (zs : List Int) (sp : Option Addr) (m scap B : Nat) (rs : List Int) (hd : a.eval d = .slice (some ⟨g, 0, none⟩) n cap) (hs : a.eval s = .slice sp m scap) (hO : OwnC w base g n cap zs) (wz : Wd zs) (hR : Reads w B sp m scap rs) (hm : m ≤ n)
    (h : ∀ w' us, Hid (OwnC w' base g n cap us) → Hid (∀ j, us[j]?.getD 0 = if j < m then rs[j]?.getD 0 else zs[j]?.getD 0) → Wd us → w.grownBy w' (some g) → wpList Tryz.prog ops Q rest (a.put o.dst (goInt m)) w') :
    wpList Tryz.prog ops Q (o :: rest) a w := by
  obtain ⟨i0, hi, hz0, hz1, hz2⟩ := info_parts Tryz.infoW
  have hlr := hR.1
  have hlz := hO.len
  by_cases h0 : m = 0
  · subst h0
    refine wpList_copy_nothing hgd d s _ _ ho 94 Tryz.underlying24 (by rw [hi]; simp [hz1]) _ sp n cap 0 scap hd hs (Nat.zero_min _) ?_
    exact h w zs hO (fun j => by rw [if_neg (by omega)]) wz (World.grownBy.refl _ _)
  · obtain ⟨ad, rfl, hcs⟩ := copy_cells hR m (Nat.le_refl _) (by omega)
    rw [List.take_of_length_le (by omega)] at hcs
    rcases hO.2 with ⟨h', _⟩ | ⟨g', cap', cur, h', hb, hg, hnc, hcm, hsz, ht⟩
    · simp at h'
    · simp only [Value.slice.injEq, Option.some.injEq, Addr.mk.injEq, and_true, true_and] at h'
      obtain ⟨rfl, rfl⟩ := h'
      have hlen : (rs.map (Value.int .u32)).length = m := by simp [hlr]
      have hzl : (zs.map (Value.int .u32)).length = n := by simp [hlz]
      rw [Nat.mul_one] at ht hsz
      refine wpList_copy_own hgd d s _ _ ho 94 Tryz.underlying24 (by rw [hi]; simp [hz1]) g 0 n cap ad m scap hd hs cur 94 hg (rs.map (Value.int .u32)) (by rw [hlen]; exact (Nat.min_eq_left hm).symm) hcs (by rw [hlen, hsz]; omega) (ints_oneCell _ _) ?_
      rw [hlen]
      refine h _ (rs ++ zs.drop m) ?_ (fun j => ?_) (hR.2.1.append (wz.drop m)) ?_
      · refine ⟨by simp; omega, .inr ⟨g, cap, _, rfl, hb, setRow_heap w g cur _ _ _ hg, hnc, hcm, by simp [hsz, hlr]; omega, ?_⟩⟩
        rw [Nat.mul_one]
        simp only [List.take_zero, List.nil_append, Nat.zero_add]
        rw [List.map_append, List.map_drop, ← ht]
        have e1 : n = (rs.map (Value.int .u32)).length + (n - m) := by rw [hlen]; omega
        conv => lhs; rw [e1]
        rw [List.take_length_add_append, ← List.drop_take]
      · rw [List.getElem?_append, hlr]
        by_cases c : j < m
        · rw [if_pos c, if_pos c]
        · rw [if_neg c, if_neg c, List.getElem?_drop, show m + (j - m) = j by omega]
      · exact ⟨rfl, rfl, rfl, by simp [World.setRow], fun k hk hne => setRow_other w g k _ (fun e => hne (by rw [e]))⟩

theorem OwnC.reads {w : World} {base g n cap : Nat} {ys : List Int} (h : OwnC w base g n cap ys) (hw : Wd ys) : Reads w w.heap.size (some ⟨g, 0, none⟩) n cap ys := by
  obtain ⟨a, c, hv, hr⟩ := Reads.own h hw
  simp only [Value.slice.injEq] at hv
  obtain ⟨rfl, _, rfl⟩ := hv
  exact hr
theorem OwnC.sl {w : World} {base g n cap : Nat} {ys : List Int} (h : OwnC w base g n cap ys) (hw : Wd ys) : Sl w (.slice (some ⟨g, 0, none⟩) n cap) ys := by
  have e := h.len
  subst e
  exact ⟨_, _, rfl, h.reads hw⟩

set_option maxHeartbeats 1600000 in
set_option maxRecDepth 100000 in
theorem replace_any (base gx gy n capx capy : Nat) (xs ys : List Int) (w : World) (hx : OwnC w base gx n capx xs) (hy : OwnC w base gy n capy ys) (hne : gx ≠ gy) (wx : Wd xs) (wy : Wd ys) (hn : n ≤ 8192) (tx : Trimmed xs) (h0 : 0 < sz ys) :
    Calls Tryz.prog 164 #[.slice (some ⟨gx, 0, none⟩) n capx, .slice (some ⟨gy, 0, none⟩) n capy] w fun e w' => ∃ (us : List Int) (q : Int), e = .returned (.tuple #[]) ∧ OwnC w' base gx n capx us ∧ OwnC w' base gy n capy ys ∧ Wd us ∧
      val xs = q * val ys + val us ∧ val us < val ys ∧ Below base w w' := by
  have bx := hx.base
  have by' := hy.base
  have cx := hx.cap
  have cy := hy.cap
  have lx := hx.len
  have ly := hy.len
  have sy := sz_le ys
  unfold maxLen at cx cy
  have HSZ := hid (size_any _ _ _ ys _ w (hy.reads wy) (by omega))
  have hyt : OwnC w base gy (sz ys) capy (trimmed ys) := hy.take (sz ys) (by omega)
  have HDV := hid (divide_any _ _ xs (trimmed ys) w (hx.sl wx) (hyt.sl wy.trimmed) (by omega) (by rw [length_trimmed]; omega) tx (Trimmed.trimmed _) (by rw [length_trimmed]; exact h0))
  have HOX := hid hx
  have HOY := hid hy
  have hszn : sz ys ≤ n := by omega
  have hsc : sz ys ≤ capy := by omega
  have n0 : 0 < n := by omega
  have hvl : val ys < 4294967296 ^ n := by have := val_lt wy; rw [ly] at this; exact this
  have HVL := hid hvl
  have HVT := hid (val_trimmed ys)
  clear hx hy hyt lx ly sy hvl
  obtain ⟨S, hS⟩ : ∃ S, sz ys = S := ⟨_, rfl⟩
  rw [hS] at HSZ HDV hszn hsc h0
  clear hS
  go_enter Tryz.func164, Tryz.ntmps164
  go_wp2_with fail
  refine Calls.mono HSZ.out ?_
  rintro e w' ⟨rfl, rfl⟩
  go_wp2_with fail
  refine Calls.mono HDV.out ?_
  rintro e w1 ⟨v1, u1, q, r, c, rfl, oq, orr, _, _, _, _, wq, wR, tq, tr, hv, hlt, hb1⟩
  rw [HVT.out] at hv hlt
  obtain ⟨a1, c1, rfl, hrr⟩ := Reads.own orr wR
  have lr : r.length ≤ n := len_of_lt wR tr (by have := HVL.out; omega)
  have ox1 : OwnC w1 base gx n capx xs := owns_later HOX.out hb1
  have oy1 : OwnC w1 base gy n capy ys := owns_later HOY.out hb1
  have hs1 := hb1.size
  obtain ⟨us, ou, hu0, _, hgu⟩ := clear_cells n 0 w1 xs ox1
  have hcl : ∀ ty, (Builtin.clear_ #[24] ty #[.slice (some ⟨gx, 0, none⟩) n capx]).run Tryz.prog w1 = .ok (.tuple #[]) (w1.setCells gx 0 (List.replicate n (.int .u32 0))) := fun ty =>
    Go.Lib.run_clear_slice w1 24 94 ty (.int .u32 0) Tryz.underlying24 (fun w => Tryz.zeroValue94 w) rfl rfl gx 0 n capx n0 (fun j hj => by rw [Nat.zero_add, ox1.cell j hj]; rfl) (fun j hj => by rw [Nat.zero_add]; exact ox1.free j)
  have oy2 := World.ownsRow.kept oy1 hgu (by right; intro e; simp [Value.ownBlock] at e; omega)
  have hb2 : Below base w1 (w1.setCells gx 0 (List.replicate n (.int .u32 0))) := (Below.refl _ _).grown hgu (by omega) (fun k hk => by simp at hk; omega)
  have hrr2 : Reads (w1.setCells gx 0 (List.replicate n (.int .u32 0))) w1.heap.size a1 r.length c1 r := by
    obtain ⟨r1, r2, r3, r4⟩ := hrr
    refine ⟨r1, r2, r3.imp id ?_, r4⟩
    rintro ⟨b, o, rfl, hb, hc⟩
    refine ⟨b, o, rfl, hb, fun j hj => ?_⟩
    have hbb := orr.lt b rfl
    exact hgu.cell (hc j hj) (by intro e; simp at e; omega)
  have hul := ou.len
  have hus : ∀ j : Nat, us[j]?.getD 0 = 0 := fun j => by
    by_cases cj : j < n
    · exact hu0 j (Nat.zero_le _) (by omega)
    · rw [List.getElem?_eq_none (by omega)]; rfl
  have wu : Wd us := fun z hz => by
    obtain ⟨j, hj, rfl⟩ := List.mem_iff_getElem.1 hz
    have := hus j
    rw [List.getElem?_eq_getElem hj] at this
    simp at this
    omega
  have hbB : Below base w (w1.setCells gx 0 (List.replicate n (.int .u32 0))) := (hb1.mono (by omega)).trans hb2
  have HUS := hid hus
  have HOU := hid ou
  have HOY2 := hid oy2
  have HRR := hid hrr2
  have HBB := hid hbB
  have HV := hid (And.intro hv hlt)
  have hs2 := hgu.size
  generalize w1.setCells gx 0 (List.replicate n (.int .u32 0)) = w2 at *
  clear oq orr hv hlt hb1 hrr ox1 oy1 ou hu0 hgu oy2 hb2 hrr2 hul hus hbB HOX HOY HSZ HDV
  go_wp2_with (refine copy_into rfl (.tmp 16) (.tmp 17) rfl base gx n capx us a1 r.length c1 _ r rfl rfl HOU.out wu HRR.out lr ?_)
  intro w3 ts HO3 HE3 wt hg3
  have HF : Hid (OwnC w3 base gy n capy ys) := World.ownsRow.kept HOY2.out hg3 (by right; intro e; simp [Value.ownBlock] at e; omega)
  have hb3 : Below base w w3 := HBB.out.trans ((Below.refl _ _).grown hg3 (by omega) (fun k hk => by simp at hk; omega))
  have HVV : Hid (val ts = val r) := val_eq_of (fun j => by
    rw [HE3.out j]
    split
    · rfl
    · rw [HUS.out j, List.getElem?_eq_none (by omega)]; rfl)
  clear hg3
  go_wp2_with fail
  go_end0
  exact ⟨ts, val q, rfl, HO3.out, HF.out, wt, by rw [HVV.out]; exact HV.out.1, by rw [HVV.out]; exact HV.out.2, hb3⟩
end Go.Proofs.YtldeiapikkebgaaGreatDoor

/- nat.commonDivisor, nat.Gcd: the greatest common divisor of every two numbers, in new memory. -/
namespace Go.Proofs.YtldeiapikkebgaaGreatDoor
open Go.RowKit
set_option linter.unusedVariables false

theorem val_take {zs : List Int} (k : Nat) (h : sz zs ≤ k) : val (zs.take k) = val zs := val_eq_of fun j => by
  rw [List.getElem?_take]
  split
  · rfl
  · rw [sz_behind zs j (by omega)]; rfl
theorem sz_mono {us vs : List Int} (wu : Wd us) (wv : Wd vs) (h : val vs ≤ val us) : sz vs ≤ sz us := by
  have := len_le_of_val wu.trimmed wv.trimmed (Trimmed.trimmed vs) (by rw [val_trimmed, val_trimmed]; exact h)
  rwa [length_trimmed, length_trimmed] at this
theorem list_same {us xs : List Int} (hl : us.length = xs.length) (h : ∀ j : Nat, us[j]?.getD 0 = xs[j]?.getD 0) : us = xs := by
  refine List.ext_getElem hl (fun j h1 h2 => ?_)
  have := h j
  rwa [List.getElem?_eq_getElem h1, List.getElem?_eq_getElem h2] at this

theorem two_made (wc : World) (base n : Nat) (M : Array Value) (hb : base ≤ wc.heap.size) (hn : n ≤ 8192) (hM : M = ((List.replicate n (0 : Int)).map (Value.int .u32)).toArray) :
    OwnC ((wc.alloc (.cells M 94)).alloc (.cells M 94)).drew base wc.heap.size n n (List.replicate n 0) ∧ OwnC ((wc.alloc (.cells M 94)).alloc (.cells M 94)).drew base (wc.heap.size + 1) n n (List.replicate n 0) ∧ Below wc.heap.size wc ((wc.alloc (.cells M 94)).alloc (.cells M 94)).drew := by
  subst hM
  have m : n ≤ maxLen := by unfold maxLen; omega
  have h1 : OwnC (wc.alloc (.cells ((List.replicate n (0 : Int)).map (Value.int .u32)).toArray 94)) base wc.heap.size n n (List.replicate n 0) := whole_row (Box.made wc _ _) (by simp) hb m
  have h2 : OwnC ((wc.alloc (.cells ((List.replicate n (0 : Int)).map (Value.int .u32)).toArray 94)).alloc (.cells ((List.replicate n (0 : Int)).map (Value.int .u32)).toArray 94)) base (wc.heap.size + 1) n n (List.replicate n 0) := by
    have := Box.made (wc.alloc (.cells ((List.replicate n (0 : Int)).map (Value.int .u32)).toArray 94)) 94 ((List.replicate n (0 : Int)).map (Value.int .u32)).toArray
    rw [show (wc.alloc (.cells ((List.replicate n (0 : Int)).map (Value.int .u32)).toArray 94)).heap.size = wc.heap.size + 1 by simp] at this
    exact whole_row this (by simp) (by omega) m
  exact ⟨owns_later h1 (alloc_later _ _).drew, h2, (bt (alloc_later _ _) (alloc_later _ _)).drew⟩

set_option maxHeartbeats 3200000 in
set_option maxRecDepth 100000 in
theorem commonDivisor_any (v u : Value) (xs ys : List Int) (w : World) (h : Sl w v xs) (g : Sl w u ys) (hn : xs.length ≤ 8192) (hm : ys.length ≤ 8192) (hx : Trimmed xs) (hy : Trimmed ys) :
    Calls Tryz.prog 138 #[v, u] w (Told1 w (gcdI (val xs) (val ys))) := by
  obtain ⟨i0, hi, hz0, hz1, hz2⟩ := info_parts Tryz.infoW
  have CC := hid (compare_sl v u xs ys w h g (by omega) (by omega))
  have wx := h.wd
  have wy := g.wd
  obtain ⟨a, cap, rfl, hr⟩ := h
  obtain ⟨b, cap', rfl, gr⟩ := g
  obtain ⟨c, hc⟩ : ∃ c, cmpI (val xs) (val ys) = c := ⟨_, rfl⟩
  rw [hc] at CC
  have HC := hid hc
  have HX := hid hr
  have HY := hid gr
  clear hc hr gr
  go_enter Tryz.func138, Tryz.ntmps138
  go_upto_if 12 with (go_at_call 161; refine Calls.mono CC.out ?_; rintro x w1 ⟨rfl, hb1⟩)
  go_cut [0, 1] from 13 to 14 (fun s0 s1 wx => ∃ (a0 : Option Addr) (n cp : Nat) (b0 : Option Addr) (m cp' : Nat) (x1 y1 : List Int), s0 = .slice a0 n cp ∧ s1 = .slice b0 m cp' ∧ Hid (Reads wx w.heap.size a0 n cp x1) ∧ Hid (Reads wx w.heap.size b0 m cp' y1) ∧ Hid (Trimmed x1) ∧ n ≤ 8192 ∧ m ≤ n ∧ Hid (val y1 ≤ val x1) ∧ Hid (gcdI (val x1) (val y1) = gcdI (val xs) (val ys)) ∧ Below w.heap.size w wx)
  case first =>
    have HB1 := hid hb1
    by_cases hlt : val xs < val ys
    · have hc1 : c = -1 := by rw [← HC.out, cmpI_lt hlt]
      have HL := hid hlt
      clear hlt
      subst hc1
      go_wp2_with fail
      go_meet
      case rel => exact ⟨_, _, _, _, _, _, ys, xs, rfl, rfl, HY.out.later HB1.out (Nat.le_refl _), HX.out.later HB1.out (Nat.le_refl _), hy, hm, len_le_of_val wy wx hx (Int.le_of_lt HL.out), Int.le_of_lt HL.out, gcdI_comm _ _, HB1.out⟩
    · have hci : 0 ≤ c := by rw [← HC.out]; unfold cmpI; rw [if_neg hlt]; split <;> omega
      have HL : Hid (val ys ≤ val xs) := by show _ ≤ _; omega
      clear hlt
      go_wp2_with fail
      go_meet
      case rel => exact ⟨_, _, _, _, _, _, xs, ys, rfl, rfl, HX.out.later HB1.out (Nat.le_refl _), HY.out.later HB1.out (Nat.le_refl _), hx, hn, len_le_of_val wx wy hy HL.out, HL.out, rfl, HB1.out⟩
  case rest =>
    obtain ⟨a0, n, cp, b0, m, cp', x1, y1, rfl, rfl, HR1, HR2, HT1, n8, hmn, HLE, HG, hbel⟩ := hcut
    clear HX HY CC HC wx wy hn hm hx hy
    go_upto_region 3 with fail
    go_cut [5, 6] from 15 to 20 (fun s5 s6 wx => ∃ g1 g2 : Nat, s5 = .slice (some ⟨g1, 0, none⟩) n n ∧ s6 = .slice (some ⟨g2, 0, none⟩) n n ∧ g1 ≠ g2 ∧ OwnC wx w.heap.size g1 n n (List.replicate n 0) ∧ OwnC wx w.heap.size g2 n n (List.replicate n 0) ∧ Below wc.heap.size wc wx)
    case first =>
      obtain ⟨M, hM⟩ : ∃ M, madeCells #[Value.int .u32 0] n = M := ⟨_, rfl⟩
      have hmk : ∀ ww, (Instr.makeSlice 24 (.int .i64 (n : Int)) (.int .i64 (n : Int))).run Tryz.prog ww = .ok (.slice (some ⟨ww.heap.size, 0, none⟩) n n) (ww.alloc (.cells M 94)) := fun ww => by
        have := run_make (P := Tryz.prog) ww 24 94 i0 (.int .u32 0) Tryz.underlying24 hi hz0 .i64 .i64 (n : Int) (n : Int) (by omega) (by omega) (by rw [hz2]; omega) (by omega)
        rw [hz1, Int.toNat_natCast, Nat.mul_one, show (Value.int .u32 0).cells = #[Value.int .u32 0] from rfl, hM] at this
        exact this
      have HM : Hid (M = ((List.replicate n (0 : Int)).map (Value.int .u32)).toArray) := by
        show _ = _
        rw [← made_words, hM]
      clear hM
      have HTM := hid (two_made wc w.heap.size n M hbel.size n8 HM.out)
      clear HM
      go_region
      all_goals go_wp2_with fail
      all_goals go_meet
      · exact ⟨_, _, rfl, rfl, by omega, HTM.out.1, HTM.out.2.1, HTM.out.2.2⟩
      · exact ⟨_, _, rfl, rfl, by omega, HTM.out.2.1, HTM.out.1, HTM.out.2.2⟩
    case rest =>
      rename World => w5
      obtain ⟨g1, g2, rfl, rfl, hne, o1, o2, hb2⟩ := hcut
      have hbA := hbel.trans (hb2.mono hbel.size)
      have HR1' := hid (HR1.out.later (hb2.mono hbel.size) (Nat.le_refl _))
      have HR2' := hid (HR2.out.later (hb2.mono hbel.size) (Nat.le_refl _))
      have l1 := HR1.out.1
      have l2 := HR2.out.1
      have wx1 := HR1.out.2.1
      have wy1 := HR2.out.2.1
      have b1 := o1.base
      have b2 := o2.base
      have HO1 := hid o1
      have HO2 := hid o2
      clear o1 o2 hbel hb2 HR1 HR2 hb1
      go_wp2_with (refine copy_into rfl (.tmp 21) (.tmp 22) rfl w.heap.size g1 n n (List.replicate n 0) a0 n cp _ x1 rfl rfl HO1.out (Wd.replicate n) HR1'.out (Nat.le_refl _) ?_)
      intro w6 us HU HUE wu hg6
      have hus : us = x1 := list_same (by rw [HU.out.len, l1]) (fun j => by
        rw [HUE.out j]
        split
        · rfl
        · rw [List.getElem?_eq_none (by simp; omega), List.getElem?_eq_none (by omega)])
      subst hus
      have hb6 : Below w.heap.size w5 w6 := (Below.refl _ _).grown hg6 (by omega) (fun k hk => by simp at hk; omega)
      have o2' : OwnC w6 w.heap.size g2 n n (List.replicate n 0) := World.ownsRow.kept HO2.out hg6 (by right; intro e; simp [Value.ownBlock] at e; omega)
      have HO2' := hid o2'
      have hbB := hbA.trans hb6
      have HR2b := hid (HR2'.out.later hb6 (Nat.le_refl _))
      have hs6 := hb6.size
      clear o2' hb6 hg6 HUE hbA HO1 HO2 HR1' HR2'
      go_wp2_with (refine copy_into rfl (.tmp 24) (.tmp 25) rfl w.heap.size g2 n n (List.replicate n 0) b0 m cp' _ y1 rfl rfl HO2'.out (Wd.replicate n) HR2b.out hmn ?_)
      intro w7 vs HVO HVE wv hg7
      have hvv : val vs = val y1 := val_eq_of (fun j => by
        rw [HVE.out j]
        split
        · rfl
        · rw [List.getElem?_eq_none (by omega : y1.length ≤ j), List.getElem?_replicate]
          split <;> rfl)
      have o1' : OwnC w7 w.heap.size g1 n n us := World.ownsRow.kept HU.out hg7 (by right; intro e; simp [Value.ownBlock] at e; omega)
      have hbC := hbB.trans ((Below.refl _ w6).grown hg7 (by omega) (fun k hk => by simp at hk; omega))
      have HO1 := hid o1'
      rw [← hvv] at HLE HG
      clear o1' hg7 HVE hbB HO2' HR2b HU hvv b1 b2 hs6
      generalize hGG : gcdI (val xs) (val ys) = G at *
      clear hGG
      go_wp2_with fail
      go_loopg [5, 6] (val us + val vs).toNat (fun k s5 s6 wr => ∃ (g1 g2 q : Nat) (us vs : List Int), s5 = .slice (some ⟨g1, 0, none⟩) q n ∧ s6 = .slice (some ⟨g2, 0, none⟩) q n ∧ q ≤ n ∧ g1 ≠ g2 ∧ OwnC wr w.heap.size g1 q n us ∧ OwnC wr w.heap.size g2 q n vs ∧ Wd us ∧ Wd vs ∧ Hid (Trimmed us) ∧ Hid (val vs ≤ val us) ∧ Hid ((k : Int) = val us + val vs) ∧ Hid (gcdI (val us) (val vs) = G) ∧ Below w.heap.size w wr)
      case atStart =>
        have n1 := val_nonneg wu
        have n2 := val_nonneg wv
        exact ⟨g1, g2, n, us, vs, rfl, rfl, Nat.le_refl _, hne, HO1.out, HVO.out, wu, wv, HT1, HLE, (show _ = _ by omega), HG, hbC⟩
      case round =>
        clear HO1 HVO HT1 HLE HG hbC wu wv hne wx1 wy1 l1 l2
        obtain ⟨h1, h2, q, xx, yy, rfl, rfl, hq, hne, o1, o2, wxx, wyy, HT, HLE, HK, HG, hbel⟩ := hrel
        have b1 := o1.base
        have b2 := o2.base
        have l1 := o1.len
        have l2 := o2.len
        have sy := sz_le yy
        rw [l2] at sy
        have HSZ := hid (fun ww (hb : Below wr.heap.size wr ww) => size_any _ _ _ yy _ ww ((o2.reads wyy).later hb hb.size) (by omega))
        by_cases hs : 2 < sz yy
        · obtain ⟨e, rfl⟩ : ∃ e, q = e + 3 := ⟨q - 3, by omega⟩
          have ht3 : sz xx = e + 3 := by have := HT.out; unfold Trimmed at this; omega
          have tb := wxx.at (e + 2)
          have tt := sz_top xx (by omega)
          rw [ht3, show e + 3 - 1 = e + 2 by omega] at tt
          have HLK := hid (look_any _ e n xx _ n yy wr (o1.reads wxx) (o2.reads wyy) (by omega) (by omega) HLE.out)
          have hs' : (2 : Int) < (sz yy : Int) := by omega
          have HSY := hid hs
          have nx := val_nonneg wxx
          have ny := val_nonneg wyy
          have HO1 := hid o1
          have HO2 := hid o2
          have HL1 := hid l1
          have HL2 := hid l2
          have hvx : val xx < 4294967296 ^ (e + 3) := by have := val_lt wxx; rw [l1] at this; exact this
          have HVX := hid hvx
          have HT3 := hid ht3
          clear tb tt o1 o2 hs hvx ht3 l1 l2
          obtain ⟨S, hS⟩ : ∃ S, sz yy = S := ⟨_, rfl⟩
          rw [hS] at HSZ hs' HSY sy
          have HS := hid hS
          clear hS
          go_wp2_with fail
          refine Calls.mono (HSZ.out _ (Below.refl _ _)) ?_
          rintro x w' ⟨rfl, rfl⟩
          go_wp2_with fail
          refine Calls.mono HLK.out ?_
          rintro x w8 ⟨s, a, b, c, d, rfl, s0, s1, hss, hb8⟩
          have hb9 : Below wr.heap.size wr (w8.alloc (.cells #[.int .i64 s, .int .i64 a, .int .i64 b, .int .i64 c, .int .i64 d] 177)) := bt hb8 (alloc_later _ _)
          have hs9 := hb9.size
          have o1' : OwnC _ w.heap.size h1 (e + 3) n xx := owns_later HO1.out hb9
          have o2' : OwnC _ w.heap.size h2 (e + 3) n yy := owns_later HO2.out hb9
          rcases hss with h0 | ⟨hs1, lp⟩
          · subst h0
            have HRP := hid (replace_any w.heap.size h1 h2 (e + 3) n n xx yy _ o1' o2' hne wxx wyy (by omega) HT.out (by have := HS.out; have := HSY.out; omega))
            have HB9 := hid (bt hbel hb9)
            clear o1' o2' hb9 HLK HSZ
            go_wp2_with fail
            refine Calls.mono HRP.out ?_
            rintro x w10 ⟨rs, qt, rfl, p1, p2, wrs, hv, hlt, hb10⟩
            have HSZ2 := hid (size_any _ _ _ yy _ w10 (p2.reads wyy) (by omega))
            rw [HS.out] at HSZ2
            have hbD : Below w.heap.size w w10 := HB9.out.trans hb10
            have hrs : sz rs ≤ S := by have := sz_mono wyy wrs (Int.le_of_lt hlt); rw [HS.out] at this; exact this
            have q1 : ∀ k, OwnC (w10.drewN k) w.heap.size h2 S n (yy.take S) := fun k => (p2.take S sy).drewN k
            have q2 : ∀ k, OwnC (w10.drewN k) w.heap.size h1 S n (rs.take S) := fun k => (p1.take S sy).drewN k
            have HQ1 := hid q1
            have HQ2 := hid q2
            have HV1 : Hid (val (yy.take S) = val yy) := val_take S (by rw [HS.out]; exact Nat.le_refl _)
            have HV2 : Hid (val (rs.take S) = val rs) := val_take S hrs
            have HTS : Hid (Trimmed (yy.take S)) := by
              have := Trimmed.trimmed yy
              unfold trimmed at this
              rw [HS.out] at this
              exact this
            have HGG : Hid (gcdI (val yy) (val rs) = G) := by show _ = _; rw [← HG.out]; exact (gcdI_rest hv).symm
            have HLT := hid hlt
            have hSn : S ≤ n := by omega
            have nr := val_nonneg wrs
            have hne2 : h2 ≠ h1 := fun e => hne e.symm
            clear p1 p2 hv hlt hb10 q1 q2 hrs HRP
            go_wp2_with fail
            refine Calls.mono HSZ2.out ?_
            rintro x w' ⟨rfl, rfl⟩
            go_wp2_with fail
            go_quiet (fail)
            go_wp2_with fail
            go_roundg (val yy + val rs).toNat
            case rel => exact ⟨h2, h1, S, yy.take S, rs.take S, rfl, rfl, hSn, hne2, HQ1.out _, HQ2.out _, wyy.take S, wrs.take S, HTS, (show _ ≤ _ by rw [HV1.out, HV2.out]; exact Int.le_of_lt HLT.out), (show _ = _ by rw [HV1.out, HV2.out]; omega), (show _ = _ by rw [HV1.out, HV2.out]; exact HGG.out), bdn hbD _⟩
            case measure => have := HK.out; have := HLE.out; have := HLT.out; omega
          · have HAP := hid (apply_any w.heap.size h1 h2 (e + 3) n n xx yy s a b c d _ o1' o2' hne wxx wyy (by omega) lp.ab lp.cd (by have := lp.pos; have := lp.lt; omega) (by have := lp.le; have := HVX.out; omega) lp.pos (by have := lp.lt; have := lp.le; have := HVX.out; omega))
            have HB9 := hid (bt hbel hb9)
            have HLP := hid lp
            clear o1' o2' hb9 HLK HSZ lp
            go_wp2_with fail
            refine Calls.mono HAP.out ?_
            rintro x w10 ⟨us, vs, rfl, p1, p2, wus, wvs, hv1, hv2, hb10⟩
            have hbD : Below w.heap.size w w10 := HB9.out.trans hb10
            have HSZ2 := hid (size_any _ _ _ us _ w10 (p1.reads wus) (by omega))
            have su := sz_le us
            rw [p1.len] at su
            obtain ⟨T, hT⟩ : ∃ T, sz us = T := ⟨_, rfl⟩
            rw [hT] at HSZ2 su
            have hvs : sz vs ≤ T := by rw [← hT]; exact sz_mono wus wvs (by rw [hv1, hv2]; exact Int.le_of_lt HLP.out.lt)
            have q1 : ∀ k, OwnC (w10.drewN k) w.heap.size h1 T n (us.take T) := fun k => (p1.take T su).drewN k
            have q2 : ∀ k, OwnC (w10.drewN k) w.heap.size h2 T n (vs.take T) := fun k => (p2.take T su).drewN k
            have HQ1 := hid q1
            have HQ2 := hid q2
            have HV1 : Hid (val (us.take T) = a * val xx + b * val yy) := by show _ = _; rw [val_take T (by omega), hv1]
            have HV2 : Hid (val (vs.take T) = c * val xx + d * val yy) := by show _ = _; rw [val_take T hvs, hv2]
            have HTS : Hid (Trimmed (us.take T)) := by
              have := Trimmed.trimmed us
              unfold trimmed at this
              rw [hT] at this
              exact this
            have hSn : T ≤ n := by omega
            have n1 := val_nonneg wus
            have n2 := val_nonneg wvs
            rw [hv1] at n1
            rw [hv2] at n2
            have HN := hid (And.intro n1 n2)
            clear p1 p2 hv1 hv2 hb10 q1 q2 hvs HAP hT n1 n2
            go_wp2_with fail
            refine Calls.mono HSZ2.out ?_
            rintro x w' ⟨rfl, rfl⟩
            go_wp2_with fail
            go_quiet (fail)
            go_wp2_with fail
            go_roundg ((a * val xx + b * val yy) + (c * val xx + d * val yy)).toNat
            case rel => exact ⟨h1, h2, T, us.take T, vs.take T, rfl, rfl, hSn, hne, HQ1.out _, HQ2.out _, wus.take T, wvs.take T, HTS, (show _ ≤ _ by rw [HV1.out, HV2.out]; exact Int.le_of_lt HLP.out.lt), (show _ = _ by rw [HV1.out, HV2.out]; have := HN.out; omega), (show _ = _ by rw [HV1.out, HV2.out, HLP.out.same]; exact HG.out), bdn hbD _⟩
            case measure => have := HK.out; have := HLP.out.less; have := HN.out; omega
        · have hs' : ¬ (2 : Int) < (sz yy : Int) := by omega
          have ot : OwnC wr w.heap.size h2 (sz yy) n (trimmed yy) := o2.take (sz yy) (by omega)
          have HSD := hid (smallDivisor_any _ _ xx (trimmed yy) wr (o1.sl wxx) (ot.sl wyy.trimmed) (by omega) HT.out (Trimmed.trimmed _) (by rw [length_trimmed]; omega))
          rw [val_trimmed, HG.out] at HSD
          have hsq : sz yy ≤ n := by omega
          clear ot o1 o2
          obtain ⟨S, hS⟩ : ∃ S, sz yy = S := ⟨_, rfl⟩
          rw [hS] at HSZ hs' HSD sy hsq
          clear hS
          go_wp2_with fail
          refine Calls.mono (HSZ.out _ (Below.refl _ _)) ?_
          rintro x w' ⟨rfl, rfl⟩
          go_wp2_with fail
          refine Calls.mono (HSZ.out _ (Below.refl _ _)) ?_
          rintro x w' ⟨rfl, rfl⟩
          go_wp2_with fail
          refine Calls.mono HSD.out ?_
          rintro x w9 ⟨v9, zs, rfl, o9, w9', t9, hv9, hb9⟩
          have HO9 := hid (owns_base o9 hbel.size)
          have hb := bt hbel hb9
          clear o9 HSD HSZ
          go_wp2_with fail
          go_ret
          exact ⟨v9, zs, rfl, HO9.out, w9', t9, hv9, hb⟩

theorem gcdI_le {x y : Int} (hx : 0 ≤ x) (hy : 0 ≤ y) : gcdI x y ≤ x ∨ gcdI x y ≤ y := by
  by_cases h : x = 0
  · subst h; right; rw [gcdI_comm, gcdI_zero y hy]; exact Int.le_refl _
  · left; exact Int.le_of_dvd (by omega) (Int.gcd_dvd_left ..)
set_option maxHeartbeats 800000 in
set_option maxRecDepth 100000 in
theorem gcd_sl (v u : Value) (xs ys : List Int) (w : World) (h : Sl w v xs) (g : Sl w u ys) (hn : xs.length ≤ 281474976710656) (hm : ys.length ≤ 281474976710656) :
    Calls Tryz.prog 108 #[v, u] w (Told w (both xs ys) (gcdI (val xs) (val ys))) := by
  by_cases hb : both xs ys = 0
  · have HB := hid (checkBoth_sl v u xs ys w h g hn hm)
    rw [hb] at HB ⊢
    obtain ⟨c1, c2⟩ := both_ok hb
    obtain ⟨lx, tx⟩ := chk_ok c1
    obtain ⟨ly, ty⟩ := chk_ok c2
    have HD := hid (commonDivisor_any v u xs ys w h g lx ly tx ty)
    have HW : Hid (gcdI (val xs) (val ys) < wide) := by
      show _ < _
      have a1 := lt_wide (val_lt h.wd) lx
      have a2 := lt_wide (val_lt g.wd) ly
      rcases gcdI_le (val_nonneg h.wd) (val_nonneg g.wd) with e | e <;> omega
    clear h g hb c1 c2 tx ty
    go_enter Tryz.func108, Tryz.ntmps108
    go_wp2_with fail
    refine Calls.mono HB.out ?_
    rintro e w' ⟨rfl, rfl⟩
    go_wp2_with fail
    refine Calls.mono HD.out ?_
    rintro e w1 ⟨v1, zs, rfl, o1, wz, tz, hv, hbel⟩
    have HO := hid o1
    have HV := hid hv
    clear o1 hv HD HB
    go_wp2_with fail
    go_ret2
    exact ⟨v1, zs, 0, rfl, HO.out, Tells.ok wz tz HV.out HW.out, hbel⟩
  · have HB := hid (checkBoth_sl v u xs ys w h g hn hm)
    have HT := hid (Tells.err (t := gcdI (val xs) (val ys)) hb)
    have hbb : (both xs ys != 0) = true := by simp [hb]
    obtain ⟨e, he⟩ : ∃ e, both xs ys = e := ⟨_, rfl⟩
    rw [he] at HB HT hbb hb ⊢
    clear h g he
    go_enter Tryz.func108, Tryz.ntmps108
    go_wp2_with fail
    refine Calls.mono HB.out ?_
    rintro e w' ⟨rfl, rfl⟩
    go_wp2_with fail
    go_ret2
    exact ⟨_, [], e, rfl, World.ownsRow_nil _ _ _ _, HT.out, Below.refl _ _⟩
end Go.Proofs.YtldeiapikkebgaaGreatDoor

/- Whole numbers, a sign and words: whole.Check, checkBoth, formed, told, Of, Int64; slackwaterkit.SameWhole: of every number whose words can be read. -/
namespace Go.Proofs.YtldeiapikkebgaaGreatDoor
open Go.RowKit
set_option linter.unusedVariables false

def wchk (n : Bool) (xs : List Int) : Int := if 2048 < xs.length then 3 else if chk xs = 0 ∧ (n = false ∨ 0 < xs.length) then 0 else 11
def wval (n : Bool) (xs : List Int) : Int := if n then -(val xs) else val xs
theorem wchk_ok {n : Bool} {xs : List Int} (h : wchk n xs = 0) : xs.length ≤ 2048 ∧ Trimmed xs ∧ (n = false ∨ 0 < xs.length) := by
  unfold wchk at h
  by_cases h1 : 2048 < xs.length
  · rw [if_pos h1] at h; omega
  · rw [if_neg h1] at h
    by_cases h2 : chk xs = 0 ∧ (n = false ∨ 0 < xs.length)
    · exact ⟨by omega, (chk_ok h2.1).2, h2.2⟩
    · rw [if_neg h2] at h; omega
theorem wchk_good {n : Bool} {xs : List Int} (hl : xs.length ≤ 2048) (ht : Trimmed xs) (hn : n = false ∨ 0 < xs.length) : wchk n xs = 0 := by
  unfold wchk
  rw [if_neg (by omega), if_pos ⟨chk_good (by omega) ht, hn⟩]

set_option maxHeartbeats 800000 in
set_option maxRecDepth 100000 in
theorem wcheck_any (n : Bool) (v : Value) (xs : List Int) (w : World) (h : Sl w v xs) (hn : xs.length ≤ 281474976710656) :
    Calls Tryz.prog 87 #[.agg #[.bool n, v]] w fun e w' => e = .returned (.int .i64 (wchk n xs)) ∧ Below w.heap.size w w' := by
  have HB := hid (alloc_later w (.cells #[.bool n, v] 88))
  have HC := hid (check_sl v xs _ (h.later HB.out) hn)
  obtain ⟨a, cap, rfl, hr⟩ := h
  clear hr
  obtain ⟨k, hk⟩ : ∃ k, xs.length = k := ⟨_, rfl⟩
  by_cases h1 : 2048 < k
  · have HW : Hid (wchk n xs = 3) := by show _ = _; unfold wchk; rw [if_pos (by omega)]
    rw [hk] at HB HC ⊢
    have h1' : (2048 : Int) < (k : Int) := by omega
    clear hk
    go_enter Tryz.func87, Tryz.ntmps87
    go_wp2_with fail
    go_ret
    exact ⟨ret_int HW.out.symm, HB.out⟩
  · have h1' : ¬ (2048 : Int) < (k : Int) := by omega
    by_cases h2 : chk xs = 0
    · rw [h2] at HC
      cases n with
      | false =>
        have HW : Hid (wchk false xs = 0) := by show _ = _; unfold wchk; rw [if_neg (by omega), if_pos ⟨h2, .inl rfl⟩]
        rw [hk] at HB HC ⊢
        clear hk h2
        go_enter Tryz.func87, Tryz.ntmps87
        go_wp2_with fail
        refine Calls.mono HC.out ?_
        rintro e w' ⟨rfl, rfl⟩
        go_wp2_with fail
        go_ret
        exact ⟨ret_int HW.out.symm, HB.out⟩
      | true =>
        rcases Nat.eq_zero_or_pos k with h3 | h3
        · have HW : Hid (wchk true xs = 11) := by
            show _ = _
            unfold wchk
            rw [if_neg (by omega), if_neg (fun h => h.2.elim (fun e => by cases e) (fun e => by omega))]
          rw [hk] at HB HC ⊢
          clear hk h2
          subst h3
          go_enter Tryz.func87, Tryz.ntmps87
          go_wp2_with fail
          refine Calls.mono HC.out ?_
          rintro e w' ⟨rfl, rfl⟩
          go_wp2_with fail
          go_ret
          exact ⟨ret_int HW.out.symm, HB.out⟩
        · have HW : Hid (wchk true xs = 0) := by show _ = _; unfold wchk; rw [if_neg (by omega), if_pos ⟨h2, .inr (by omega)⟩]
          rw [hk] at HB HC ⊢
          have h3' : ((k : Int) == 0) = false := by simp; omega
          clear hk h2
          go_enter Tryz.func87, Tryz.ntmps87
          go_wp2_with fail
          refine Calls.mono HC.out ?_
          rintro e w' ⟨rfl, rfl⟩
          go_wp2_with fail
          go_ret
          exact ⟨ret_int HW.out.symm, HB.out⟩
    · have HW : Hid (wchk n xs = 11) := by show _ = _; unfold wchk; rw [if_neg (by omega), if_neg (fun h => h2 h.1)]
      have hne : (chk xs != 0) = true := by simp [h2]
      obtain ⟨c, hc⟩ : ∃ c, chk xs = c := ⟨_, rfl⟩
      rw [hc] at HC hne
      rw [hk] at HB HC ⊢
      clear hk h2 hc
      go_enter Tryz.func87, Tryz.ntmps87
      go_wp2_with fail
      refine Calls.mono HC.out ?_
      rintro e w' ⟨rfl, rfl⟩
      go_wp2_with fail
      go_ret
      exact ⟨ret_int HW.out.symm, HB.out⟩

end Go.Proofs.YtldeiapikkebgaaGreatDoor

/- Whole numbers: whole.told, Of, Int64; slackwaterkit.SameWhole; slackwaterlaw02.is, of: of every number whose words can be read. -/
namespace Go.Proofs.YtldeiapikkebgaaGreatDoor
open Go.RowKit
set_option linter.unusedVariables false

theorem res_box {X w1 : World} {b t : Nat} {v0 v1 : Value} (hX : Box X b t #[v0, v1]) (hb : Below X.heap.size X w1) : w1.cell? ⟨b, 0, none⟩ = some v0 ∧ w1.cell? ⟨b, 1, none⟩ = some v1 ∧ w1.frozen? ⟨b, 0, none⟩ = false ∧ w1.frozen? ⟨b, 1, none⟩ = false := by
  have h := hX.later hb hX.lt
  exact ⟨h.cell 0, h.cell 1, h.free 0, h.free 1⟩
theorem grown_set (w : World) (p : Addr) (v : Value) : w.grownBy (w.setCell p v) (some p.block) := ⟨rfl, rfl, rfl, by simp [World.setCell], fun k hk hne => Below.heap_setCell w p v k (fun e => hne (by rw [e]))⟩
end Go.Proofs.YtldeiapikkebgaaGreatDoor

/- Whole numbers: whole.Int64, slackwaterkit.SameWhole, slackwaterlaw02.of, slackwaterlaw02.is: of every number whose words can be read. -/
namespace Go.Proofs.YtldeiapikkebgaaGreatDoor
open Go.RowKit
set_option linter.unusedVariables false

end Go.Proofs.YtldeiapikkebgaaGreatDoor

/- Whole numbers: whole.unlike, difference, sum, Add: of every number whose words can be read. -/
namespace Go.Proofs.YtldeiapikkebgaaGreatDoor
open Go.RowKit
set_option linter.unusedVariables false

def wlim : Int := 4294967296 ^ 2048
structure WTells (e t : Int) (n : Bool) (zs : List Int) (code : Int) : Prop where
  wd : Wd zs
  trim : Trimmed zs
  sign : n = false ∨ 0 < zs.length
  len : zs.length ≤ 2048
  bad : e ≠ 0 → n = false ∧ zs = [] ∧ code = e
  long : e = 0 → (wlim ≤ t ∨ t ≤ -wlim) → n = false ∧ zs = [] ∧ code = 3
  good : e = 0 → -wlim < t → t < wlim → code = 0 ∧ wval n zs = t
theorem len2048 {zs : List Int} (hw : Wd zs) (ht : Trimmed zs) : 2048 < zs.length ↔ wlim ≤ val zs := by
  unfold wlim
  constructor
  · intro h
    have h1 := val_ge hw ht (by omega)
    have h2 : (4294967296 : Int) ^ 2048 ≤ 4294967296 ^ (zs.length - 1) := pw_le (by omega)
    exact Int.le_trans h2 h1
  · intro h
    by_cases c : 2048 < zs.length
    · exact c
    · have h1 := val_lt hw
      have h2 : (4294967296 : Int) ^ zs.length ≤ 4294967296 ^ 2048 := pw_le (by omega)
      exact absurd (Int.lt_of_lt_of_le h1 h2) (Int.not_lt.2 h)
theorem trimmed_zero' {us : List Int} (h : us.length = 0) : val us = 0 := by rw [List.eq_nil_of_length_eq_zero h]; rfl

def sg (n : Bool) (t : Int) : Int := if n then -t else t
end Go.Proofs.YtldeiapikkebgaaGreatDoor

/- Whole numbers: whole.Add, product, Mul, Gcd, Sub: of every two numbers whose words can be read. -/
namespace Go.Proofs.YtldeiapikkebgaaGreatDoor
open Go.RowKit
set_option linter.unusedVariables false

end Go.Proofs.YtldeiapikkebgaaGreatDoor

/- Whole numbers: whole.divide, DivMod: quotient and rest, the rest never below 0. -/
namespace Go.Proofs.YtldeiapikkebgaaGreatDoor
open Go.RowKit
set_option linter.unusedVariables false

theorem val_pos' {zs : List Int} (hw : Wd zs) (ht : Trimmed zs) (h : 0 < zs.length) : 1 ≤ val zs := by
  have h1 := val_ge hw ht h
  have h2 := pw_pos (zs.length - 1)
  omega
end Go.Proofs.YtldeiapikkebgaaGreatDoor

/- Fractions: ratio.words, isOne, inOneForm, Check, checkBoth, told: of every fraction whose words can be read. -/
namespace Go.Proofs.YtldeiapikkebgaaGreatDoor
open Go.RowKit
set_option linter.unusedVariables false

def rform (n : Bool) (xs ys : List Int) : Prop := both xs ys = 0 ∧ 0 < ys.length ∧ (n = false ∨ 0 < xs.length) ∧ gcdI (val xs) (val ys) = 1
instance (n : Bool) (xs ys : List Int) : Decidable (rform n xs ys) := by unfold rform; infer_instance
def rchk (n : Bool) (xs ys : List Int) : Int := if 2048 < max xs.length ys.length then 3 else if rform n xs ys then 0 else 11
def rq (n : Bool) (xs ys : List Int) : Rat := Rat.divInt (wval n xs) (val ys)
theorem res_box3 {X w1 : World} {b t : Nat} {v0 v1 v2 : Value} (hX : Box X b t #[v0, v1, v2]) (hb : Below X.heap.size X w1) : w1.cell? ⟨b, 0, none⟩ = some v0 ∧ w1.cell? ⟨b, 1, none⟩ = some v1 ∧ w1.cell? ⟨b, 2, none⟩ = some v2 ∧ w1.frozen? ⟨b, 0, none⟩ = false ∧ w1.frozen? ⟨b, 1, none⟩ = false ∧ w1.frozen? ⟨b, 2, none⟩ = false := by
  have h := hX.later hb hX.lt
  exact ⟨h.cell 0, h.cell 1, h.cell 2, h.free 0, h.free 1, h.free 2⟩
theorem below_put3 {B : Nat} {a w : World} (h : Below B a w) (b : Nat) (hb : B ≤ b) (v0 v1 v2 : Value) : Below B a (((w.setCell ⟨b, 0, none⟩ v0).setCell ⟨b, 1, none⟩ v1).setCell ⟨b, 2, none⟩ v2) :=
  ((h.setCell (p := ⟨b, 0, none⟩) hb _).setCell (p := ⟨b, 1, none⟩) hb _).setCell (p := ⟨b, 2, none⟩) hb _
theorem own_put3 {w : World} {base e n : Nat} {v : Value} {xs : List Value} (h : w.ownsRow base e 1 v n xs) (b : Nat) (hb : ∀ g, v.ownBlock = some g → g ≠ b) (v0 v1 v2 : Value) : (((w.setCell ⟨b, 0, none⟩ v0).setCell ⟨b, 1, none⟩ v1).setCell ⟨b, 2, none⟩ v2).ownsRow base e 1 v n xs := by
  have hne : v.ownBlock = none ∨ v.ownBlock ≠ some b := by
    cases hv : v.ownBlock with
    | none => exact .inl rfl
    | some g => right; intro e; exact hb g hv (Option.some.inj e)
  exact World.ownsRow.kept (World.ownsRow.kept (World.ownsRow.kept h (grown_set w ⟨b, 0, none⟩ v0) hne) (grown_set _ ⟨b, 1, none⟩ v1) hne) (grown_set _ ⟨b, 2, none⟩ v2) hne
theorem rform_no_den {n : Bool} {xs ys : List Int} (h : ys.length = 0) : decide (rform n xs ys) = false := decide_eq_false fun e => by have := e.2.1; omega
theorem rform_no_sign {xs ys : List Int} (h : xs.length = 0) : decide (rform true xs ys) = false := decide_eq_false fun e => e.2.2.1.elim (fun e => by cases e) (fun e => by omega)
theorem rform_no_both {n : Bool} {xs ys : List Int} (h : both xs ys ≠ 0) : decide (rform n xs ys) = false := decide_eq_false fun e => h e.1
theorem one_iff {zs : List Int} (hw : Wd zs) (ht : Trimmed zs) : zs = [1] ↔ val zs = 1 := by
  constructor
  · rintro rfl; simp [val, valTo]
  · intro h
    exact trimmed_eq hw (Wd.one (by omega)) ht rfl (by rw [h]; simp [val, valTo])
theorem gcd_wide {xs ys : List Int} (wx : Wd xs) (wy : Wd ys) (h : both xs ys = 0) : gcdI (val xs) (val ys) < wide := by
  obtain ⟨h1, h2⟩ := both_ok h
  have l1 := (chk_ok h1).1
  have l2 := (chk_ok h2).1
  have a1 : val xs < wide := Int.lt_of_lt_of_le (val_lt wx) (pw_le l1)
  have a2 : val ys < wide := Int.lt_of_lt_of_le (val_lt wy) (pw_le l2)
  rcases gcdI_le (val_nonneg wx) (val_nonneg wy) with e | e <;> omega

set_option maxHeartbeats 800000 in
set_option maxRecDepth 100000 in
theorem rwords_any (n : Bool) (a : Option Addr) (k c : Nat) (b : Option Addr) (l d : Nat) (w : World) :
    Calls Tryz.prog 86 #[.agg #[.bool n, .slice a k c, .slice b l d]] w fun e w' => e = .returned (.int .i64 ((max k l : Nat) : Int)) ∧ Below w.heap.size w w' := by
  have HB := hid (alloc_later w (.cells #[.bool n, .slice a k c, .slice b l d] 26))
  by_cases h : k < l
  · have HM : Hid (max k l = l) := Nat.max_eq_right (by omega)
    go_enter Tryz.func86, Tryz.ntmps86
    go_wp2_with fail
    go_ret
    exact ⟨ret_int (by rw [HM.out]), HB.out⟩
  · have HM : Hid (max k l = k) := Nat.max_eq_left (by omega)
    go_enter Tryz.func86, Tryz.ntmps86
    go_wp2_with fail
    go_ret
    exact ⟨ret_int (by rw [HM.out]), HB.out⟩

set_option maxHeartbeats 800000 in
set_option maxRecDepth 100000 in
theorem isOne_any (v : Value) (xs : List Int) (w : World) (h : Sl w v xs) :
    Calls Tryz.prog 66 #[v] w fun e w' => e = .returned (.bool (decide (xs = [1]))) ∧ w = w' := by
  obtain ⟨a, cap, rfl, hl, hw, hc, hcap⟩ := h
  by_cases h1 : xs.length = 1
  · obtain ⟨x, rfl⟩ := List.length_eq_one_iff.1 h1
    rcases hc with h0 | ⟨b, o, rfl, hb, hc⟩
    · simp at h0
    · have c0 := hc 0 (by simp)
      simp at c0
      have hx := hw.head
      clear hc hw h1 hl hcap
      by_cases e : x = 1
      · subst e
        go_enter Tryz.func66, Tryz.ntmps66
        go_wp2_with fail
        go_ret
        exact ⟨ret_bool rfl, rfl⟩
      · have HD : Hid (decide (([x] : List Int) = [1]) = false) := decide_eq_false (by simp [e])
        have e' : (x == 1) = false := by simp [e]
        clear e
        go_enter Tryz.func66, Tryz.ntmps66
        go_wp2_with fail
        go_ret
        exact ⟨ret_bool HD.out.symm, rfl⟩
  · have HD : Hid (decide (xs = [1]) = false) := decide_eq_false (fun e => h1 (by rw [e]; rfl))
    have h1' : ((xs.length : Int) == 1) = false := by simp; omega
    clear hc hw hl hcap h1
    go_enter Tryz.func66, Tryz.ntmps66
    go_wp2_with fail
    go_ret
    exact ⟨ret_bool HD.out.symm, rfl⟩

set_option maxHeartbeats 1600000 in
set_option maxRecDepth 100000 in
theorem inOneForm_any (n : Bool) (v : Value) (xs : List Int) (u : Value) (ys : List Int) (w : World) (h : Sl w v xs) (g : Sl w u ys) (hn : xs.length ≤ 281474976710656) (hm : ys.length ≤ 281474976710656) :
    Calls Tryz.prog 76 #[.agg #[.bool n, v, u]] w fun e w' => e = .returned (.bool (decide (rform n xs ys))) ∧ Below w.heap.size w w' := by
  have HB := hid (alloc_later w (.cells #[.bool n, v, u] 26))
  have HG := hid (gcd_sl v u xs ys _ (h.later HB.out) (g.later HB.out) hn hm)
  have wx := h.wd
  have wy := g.wd
  obtain ⟨a, cap, rfl, hr⟩ := h
  obtain ⟨b, cap', rfl, gr⟩ := g
  clear hr gr
  by_cases hy : ys.length = 0
  · have HD := hid (rform_no_den (n := n) (xs := xs) hy)
    rw [hy] at HB ⊢
    clear HG hy hm
    go_enter Tryz.func76, Tryz.ntmps76
    go_wp2_with fail
    go_ret
    exact ⟨ret_bool HD.out.symm, HB.out⟩
  · have hy' : ((ys.length : Int) == 0) = false := by simp; exact fun e => hy (by rw [e]; rfl)
    have hy0 : 0 < ys.length := by omega
    have key : (n = false ∨ 0 < xs.length) → Calls Tryz.prog 76 #[.agg #[.bool n, .slice a xs.length cap, .slice b ys.length cap']] w fun e w' => e = .returned (.bool (decide (rform n xs ys))) ∧ Below w.heap.size w w' := by
      intro hs
      by_cases hz : both xs ys = 0
      · have HWD := hid (gcd_wide wx wy hz)
        have HF : Hid (∀ zs, Wd zs → Trimmed zs → val zs = gcdI (val xs) (val ys) → decide (zs = [1]) = decide (rform n xs ys)) := fun zs h1 h2 h3 => by
          have e1 := one_iff h1 h2
          have e2 : (zs = [1]) ↔ rform n xs ys := ⟨fun e => ⟨hz, hy0, hs, by rw [← h3]; exact e1.1 e⟩, fun e => e1.2 (by rw [h3]; exact e.2.2.2)⟩
          exact decide_eq_decide.2 e2
        rw [hz] at HG
        clear hz hy wx wy hy0
        cases n with
        | false =>
          go_enter Tryz.func76, Tryz.ntmps76
          go_wp2_with fail
          refine Calls.mono HG.out ?_
          rintro e w1 ⟨v1, zs, code, rfl, o1, t1, hb1⟩
          obtain ⟨rfl, hv1⟩ := t1.good rfl HWD.out
          have HO := hid (isOne_any v1 zs w1 (Sl.own o1 t1.wd))
          rw [HF.out zs t1.wd t1.trim hv1] at HO
          have hbA := bt HB.out hb1
          obtain ⟨a1, c1, hs1⟩ := own_slice' o1
          subst hs1
          clear hb1 o1 t1 hv1 HG HF
          go_wp2_with fail
          refine Calls.mono HO.out ?_
          rintro e w2 ⟨rfl, rfl⟩
          go_wp2_with fail
          go_ret
          exact ⟨rfl, hbA⟩
        | true =>
          have hx' : ((xs.length : Int) == 0) = false := by
            have : 0 < xs.length := hs.elim (fun e => by cases e) id
            simp; exact fun e => by rw [e] at this; simp at this
          clear hs
          go_enter Tryz.func76, Tryz.ntmps76
          go_wp2_with fail
          refine Calls.mono HG.out ?_
          rintro e w1 ⟨v1, zs, code, rfl, o1, t1, hb1⟩
          obtain ⟨rfl, hv1⟩ := t1.good rfl HWD.out
          have HO := hid (isOne_any v1 zs w1 (Sl.own o1 t1.wd))
          rw [HF.out zs t1.wd t1.trim hv1] at HO
          have hbA := bt HB.out hb1
          obtain ⟨a1, c1, hs1⟩ := own_slice' o1
          subst hs1
          clear hb1 o1 t1 hv1 HG HF
          go_wp2_with fail
          refine Calls.mono HO.out ?_
          rintro e w2 ⟨rfl, rfl⟩
          go_wp2_with fail
          go_ret
          exact ⟨rfl, hbA⟩
      · have HD := hid (rform_no_both (n := n) hz)
        obtain ⟨ec, hec⟩ : ∃ ec, both xs ys = ec := ⟨_, rfl⟩
        rw [hec] at hz HG
        have hz' : (ec == 0) = false := by simp [hz]
        clear hec hy wx wy hy0
        cases n with
        | false =>
          go_enter Tryz.func76, Tryz.ntmps76
          go_wp2_with fail
          refine Calls.mono HG.out ?_
          rintro e w1 ⟨v1, zs, code, rfl, o1, t1, hb1⟩
          obtain ⟨rfl, _⟩ := t1.bad hz
          have hbA := bt HB.out hb1
          obtain ⟨a1, c1, hs1⟩ := own_slice' o1
          subst hs1
          clear hb1 o1 t1 HG hz
          go_wp2_with fail
          go_ret
          exact ⟨ret_bool HD.out.symm, hbA⟩
        | true =>
          have hx' : ((xs.length : Int) == 0) = false := by
            have : 0 < xs.length := hs.elim (fun e => by cases e) id
            simp; exact fun e => by rw [e] at this; simp at this
          clear hs
          go_enter Tryz.func76, Tryz.ntmps76
          go_wp2_with fail
          refine Calls.mono HG.out ?_
          rintro e w1 ⟨v1, zs, code, rfl, o1, t1, hb1⟩
          obtain ⟨rfl, _⟩ := t1.bad hz
          have hbA := bt HB.out hb1
          obtain ⟨a1, c1, hs1⟩ := own_slice' o1
          subst hs1
          clear hb1 o1 t1 HG hz
          go_wp2_with fail
          go_ret
          exact ⟨ret_bool HD.out.symm, hbA⟩
    by_cases hx : n = false ∨ 0 < xs.length
    · exact key hx
    · have hn1 : n = true := by
        cases n with
        | false => exact absurd (.inl rfl) hx
        | true => rfl
      have hx0 : xs.length = 0 := by
        by_cases c : 0 < xs.length
        · exact absurd (.inr c) hx
        · omega
      subst hn1
      have HD := hid (rform_no_sign (ys := ys) hx0)
      rw [hx0] at HB ⊢
      clear key hx0 HG hx wx wy hy hy0
      go_enter Tryz.func76, Tryz.ntmps76
      go_wp2_with fail
      go_ret
      exact ⟨ret_bool HD.out.symm, HB.out⟩
end Go.Proofs.YtldeiapikkebgaaGreatDoor

/- Fractions: ratio.Check, checkBoth, told: of every fraction whose words can be read; what a call tells that may refuse. -/
namespace Go.Proofs.YtldeiapikkebgaaGreatDoor
open Go.RowKit
set_option linter.unusedVariables false

theorem rchk_ok {n : Bool} {xs ys : List Int} (h : rchk n xs ys = 0) : xs.length ≤ 2048 ∧ ys.length ≤ 2048 ∧ Trimmed xs ∧ Trimmed ys ∧ 0 < ys.length ∧ (n = false ∨ 0 < xs.length) ∧ gcdI (val xs) (val ys) = 1 := by
  unfold rchk at h
  by_cases h1 : 2048 < max xs.length ys.length
  · rw [if_pos h1] at h; omega
  · rw [if_neg h1] at h
    by_cases h2 : rform n xs ys
    · obtain ⟨a, b⟩ := both_ok h2.1
      exact ⟨by omega, by omega, (chk_ok a).2, (chk_ok b).2, h2.2.1, h2.2.2.1, h2.2.2.2⟩
    · rw [if_neg h2] at h; omega
theorem rchk_good {n : Bool} {xs ys : List Int} (lx : xs.length ≤ 2048) (ly : ys.length ≤ 2048) (tx : Trimmed xs) (ty : Trimmed ys) (h0 : 0 < ys.length) (hs : n = false ∨ 0 < xs.length) (hg : gcdI (val xs) (val ys) = 1) : rchk n xs ys = 0 := by
  unfold rchk
  rw [if_neg (by omega), if_pos ⟨both_good (chk_good (by omega) tx) (chk_good (by omega) ty), h0, hs, hg⟩]

set_option maxHeartbeats 1600000 in
set_option maxRecDepth 100000 in
theorem rcheck_any (n : Bool) (v : Value) (xs : List Int) (u : Value) (ys : List Int) (w : World) (h : Sl w v xs) (g : Sl w u ys) :
    Calls Tryz.prog 64 #[.agg #[.bool n, v, u]] w fun e w' => e = .returned (.int .i64 (rchk n xs ys)) ∧ Below w.heap.size w w' := by
  have HX := hid (Box.made w 26 #[.bool n, v, u])
  have HB := hid (alloc_later w (.cells #[.bool n, v, u] 26))
  have HI : Hid (∀ w1, Below (w.alloc (.cells #[.bool n, v, u] 26)).heap.size (w.alloc (.cells #[.bool n, v, u] 26)) w1 → ¬ 2048 < max xs.length ys.length → Calls Tryz.prog 76 #[.agg #[.bool n, v, u]] w1 fun e w' => e = .returned (.bool (decide (rform n xs ys))) ∧ Below w1.heap.size w1 w') := fun w1 hb hle => inOneForm_any n v xs u ys w1 ((h.later HB.out).later hb) ((g.later HB.out).later hb) (by omega) (by omega)
  obtain ⟨a, cap, rfl, hr⟩ := h
  obtain ⟨b, cap', rfl, gr⟩ := g
  clear hr gr
  have HW := hid (rwords_any n a xs.length cap b ys.length cap' (w.alloc (.cells #[.bool n, .slice a xs.length cap, .slice b ys.length cap'] 26)))
  obtain ⟨M, hM⟩ : ∃ M, max xs.length ys.length = M := ⟨_, rfl⟩
  have HR : Hid (rchk n xs ys = if 2048 < M then 3 else if rform n xs ys then 0 else 11) := by show _ = _; unfold rchk; rw [hM]
  rw [hM] at HW HI
  clear hM
  by_cases hm : 2048 < M
  · have hm' : (2048 : Int) < (M : Int) := by omega
    rw [if_pos hm] at HR
    clear hm HI
    go_enter Tryz.func64, Tryz.ntmps64
    go_wp2_with fail
    refine Calls.mono HW.out ?_
    rintro e w1 ⟨rfl, hb1⟩
    have hbA := bt HB.out hb1
    clear hb1
    go_wp2_with fail
    go_ret
    exact ⟨ret_int HR.out.symm, hbA⟩
  · have hm' : ¬ (2048 : Int) < (M : Int) := by omega
    rw [if_neg hm] at HR
    have HNM := hid hm
    clear hm
    by_cases hf : rform n xs ys
    · rw [if_pos hf] at HR
      rw [decide_eq_true hf] at HI
      clear hf
      go_enter Tryz.func64, Tryz.ntmps64
      go_wp2_with fail
      refine Calls.mono HW.out ?_
      rintro e w1 ⟨rfl, hb1⟩
      obtain ⟨c0, c1, c2, _, _, _⟩ := res_box3 HX.out hb1
      have HI1 := hid (HI.out w1 hb1 HNM.out)
      have hbA := bt HB.out hb1
      clear hb1 HI
      go_wp2_with fail
      refine Calls.mono HI1.out ?_
      rintro e w2 ⟨rfl, hb2⟩
      have hbB := bt hbA hb2
      clear hb2
      go_wp2_with fail
      go_ret
      exact ⟨ret_int HR.out.symm, hbB⟩
    · rw [if_neg hf] at HR
      rw [decide_eq_false hf] at HI
      clear hf
      go_enter Tryz.func64, Tryz.ntmps64
      go_wp2_with fail
      refine Calls.mono HW.out ?_
      rintro e w1 ⟨rfl, hb1⟩
      obtain ⟨c0, c1, c2, _, _, _⟩ := res_box3 HX.out hb1
      have HI1 := hid (HI.out w1 hb1 HNM.out)
      have hbA := bt HB.out hb1
      clear hb1 HI
      go_wp2_with fail
      refine Calls.mono HI1.out ?_
      rintro e w2 ⟨rfl, hb2⟩
      have hbB := bt hbA hb2
      clear hb2
      go_wp2_with fail
      go_ret
      exact ⟨ret_int HR.out.symm, hbB⟩

def rlong (q : Rat) : Prop := wlim ≤ (q.num.natAbs : Int) ∨ wlim ≤ (q.den : Int)
structure RTells (e : Int) (q : Rat) (n : Bool) (xs ys : List Int) (code : Int) : Prop where
  wx : Wd xs
  wy : Wd ys
  bad : e ≠ 0 → n = false ∧ xs = [] ∧ ys = [] ∧ code = e
  long : e = 0 → rlong q → n = false ∧ xs = [] ∧ ys = [] ∧ code = 3
  good : e = 0 → ¬ rlong q → code = 0 ∧ rchk n xs ys = 0 ∧ rq n xs ys = q
def RTold (w : World) (e : Int) (q : Rat) (x : Ending) (w' : World) : Prop :=
  ∃ n v xs u ys code, x = .returned (.tuple #[.agg #[.bool n, v, u], .int .i64 code]) ∧ w'.ownsRow w.heap.size 94 1 v xs.length (xs.map (Value.int .u32)) ∧ w'.ownsRow w.heap.size 94 1 u ys.length (ys.map (Value.int .u32)) ∧ RTells e q n xs ys code ∧ Below w.heap.size w w'
theorem RTells.err {e : Int} {q : Rat} (h : e ≠ 0) : RTells e q false [] [] e := ⟨Wd.nil, Wd.nil, fun _ => ⟨rfl, rfl, rfl, rfl⟩, fun h' => absurd h' h, fun h' => absurd h' h⟩

def rtoldV (n : Bool) (a : Option Addr) (k c : Nat) (b : Option Addr) (l d : Nat) : Value := if 2048 < max k l then .tuple #[.agg #[.bool false, .slice none 0 0, .slice none 0 0], .int .i64 3] else .tuple #[.agg #[.bool (n && decide (0 < k)), .slice a k c, .slice b l d], .int .i64 0]
theorem gcd_sg (n : Bool) (x d : Int) : gcdI (sg n x) d = gcdI x d := by
  cases n
  · rfl
  · show ((Int.gcd (-x) d : Nat) : Int) = _
    rw [Int.neg_gcd]; rfl
theorem abs_sg (n : Bool) {x : Int} (h : 0 ≤ x) : ((sg n x).natAbs : Int) = x := by
  cases n <;> simp [sg] <;> omega
theorem rtells_of {n : Bool} {zs ds : List Int} (wz : Wd zs) (tz : Trimmed zs) (wd : Wd ds) (td : Trimmed ds) (hd : 0 < val ds) (hg : gcdI (val zs) (val ds) = 1) :
    ∃ m us vs c, (∀ a ca b cb, rtoldV n a zs.length ca b ds.length cb = .tuple #[.agg #[.bool m, if c = 0 then .slice a zs.length ca else .slice none 0 0, if c = 0 then .slice b ds.length cb else .slice none 0 0], .int .i64 c]) ∧ (if c = 0 then us = zs else us = []) ∧ (if c = 0 then vs = ds else vs = []) ∧ RTells 0 (Rat.divInt (sg n (val zs)) (val ds)) m us vs c := by
  have hz0 := val_nonneg wz
  obtain ⟨e1, e2⟩ := fr_num (x := sg n (val zs)) hd (by rw [gcd_sg]; exact hg)
  have hl : rlong (Rat.divInt (sg n (val zs)) (val ds)) ↔ 2048 < max zs.length ds.length := by
    unfold rlong
    rw [e1, e2, abs_sg n hz0, ← len2048 wz tz, ← len2048 wd td]
    omega
  by_cases h : 2048 < max zs.length ds.length
  · refine ⟨false, [], [], 3, fun a ca b cb => by unfold rtoldV; rw [if_pos h]; rfl, by simp, by simp, ⟨Wd.nil, Wd.nil, fun h => absurd rfl h, fun _ _ => ⟨rfl, rfl, rfl, rfl⟩, fun _ h' => absurd (hl.2 h) h'⟩⟩
  · have hd0 : 0 < ds.length := by
      by_cases c : 0 < ds.length
      · exact c
      · have := trimmed_zero' (us := ds) (by omega); omega
    refine ⟨n && decide (0 < zs.length), zs, ds, 0, fun a ca b cb => by unfold rtoldV; rw [if_neg h]; rfl, by simp, by simp, ⟨wz, wd, fun h => absurd rfl h, fun _ h' => absurd (hl.1 h') h, fun _ _ => ⟨rfl, rchk_good (by omega) (by omega) tz td hd0 ?_ hg, ?_⟩⟩⟩
    · by_cases c : 0 < zs.length
      · exact .inr c
      · left; simp [c]
    · unfold rq
      congr 1
      by_cases c : 0 < zs.length
      · simp [c, wval, sg]
      · rw [List.eq_nil_of_length_eq_zero (show zs.length = 0 by omega)]
        cases n <;> simp [wval, sg, val, valTo]

theorem ret_val {a b : Value} (h : a = b) : Ending.returned a = .returned b := by rw [h]

set_option maxHeartbeats 1600000 in
set_option maxRecDepth 100000 in
theorem rtold_any (n : Bool) (a : Option Addr) (k c : Nat) (b : Option Addr) (l d : Nat) (w : World) :
    Calls Tryz.prog 77 #[.bool n, .slice a k c, .slice b l d] w fun x w' => x = .returned (rtoldV n a k c b l d) ∧ Below w.heap.size w w' := by
  obtain ⟨M, hM⟩ : ∃ M, max k l = M := ⟨_, rfl⟩
  obtain ⟨s, hs⟩ : ∃ s, (n && decide (0 < k)) = s := ⟨_, rfl⟩
  have HT : Hid (rtoldV n a k c b l d = if 2048 < M then .tuple #[.agg #[.bool false, .slice none 0 0, .slice none 0 0], .int .i64 3] else .tuple #[.agg #[.bool s, .slice a k c, .slice b l d], .int .i64 0]) := by show _ = _; unfold rtoldV; rw [hM, hs]
  have HB : Hid (Below w.heap.size w ((w.alloc (.cells #[.bool false, .slice none 0 0, .slice none 0 0] 26)).alloc (.cells #[.bool s, .slice a k c, .slice b l d] 26))) := bt (alloc_later _ _) (alloc_later _ _)
  have HW := hid (rwords_any s a k c b l d ((w.alloc (.cells #[.bool false, .slice none 0 0, .slice none 0 0] 26)).alloc (.cells #[.bool s, .slice a k c, .slice b l d] 26)))
  rw [hM] at HW
  clear hM
  have HZ : Hid (Box ((w.alloc (.cells #[.bool false, .slice none 0 0, .slice none 0 0] 26)).alloc (.cells #[.bool s, .slice a k c, .slice b l d] 26)) w.heap.size 26 #[.bool false, .slice none 0 0, .slice none 0 0]) := Box.later (Box.made w _ _) (alloc_later _ _) (by simp)
  have HS : Hid (Box ((w.alloc (.cells #[.bool false, .slice none 0 0, .slice none 0 0] 26)).alloc (.cells #[.bool s, .slice a k c, .slice b l d] 26)) (w.heap.size + 1) 26 #[.bool s, .slice a k c, .slice b l d]) := by
    have e := Box.made (w.alloc (.cells #[.bool false, .slice none 0 0, .slice none 0 0] 26)) 26 #[.bool s, .slice a k c, .slice b l d]
    simp at e
    exact e
  by_cases hm : 2048 < M
  · have hm' : (2048 : Int) < (M : Int) := by omega
    rw [if_pos hm] at HT
    clear hm
    cases n with
    | false =>
      obtain rfl : s = false := by rw [← hs]; rfl
      clear hs
      go_enter Tryz.func77, Tryz.ntmps77
      go_wp2_with fail
      refine Calls.mono HW.out ?_
      rintro e w1 ⟨rfl, hb1⟩
      obtain ⟨r0, r1, r2, f0, f1, f2⟩ := res_box3 HZ.out hb1
      obtain ⟨c0, c1, c2, _, _, _⟩ := res_box3 HS.out hb1
      have hbA := bt HB.out hb1
      clear hb1
      go_wp2_with fail
      refine bodyPost_ret (v := .tuple #[.agg #[.bool false, .slice none 0 0, .slice none 0 0], .int .i64 3]) (by simp [results, Tryz.results77, go_sem, r0, r1, r2]) rfl ?_
      exact ⟨ret_val HT.out.symm, below_put3 hbA _ (Nat.le_refl _) _ _ _⟩
    | true =>
      obtain rfl : s = decide (0 < k) := by rw [← hs]; rfl
      clear hs
      go_enter Tryz.func77, Tryz.ntmps77
      go_wp2_with fail
      refine Calls.mono HW.out ?_
      rintro e w1 ⟨rfl, hb1⟩
      obtain ⟨r0, r1, r2, f0, f1, f2⟩ := res_box3 HZ.out hb1
      obtain ⟨c0, c1, c2, _, _, _⟩ := res_box3 HS.out hb1
      have hbA := bt HB.out hb1
      clear hb1
      go_wp2_with fail
      refine bodyPost_ret (v := .tuple #[.agg #[.bool false, .slice none 0 0, .slice none 0 0], .int .i64 3]) (by simp [results, Tryz.results77, go_sem, r0, r1, r2]) rfl ?_
      exact ⟨ret_val HT.out.symm, below_put3 hbA _ (Nat.le_refl _) _ _ _⟩
  · have hm' : ¬ (2048 : Int) < (M : Int) := by omega
    rw [if_neg hm] at HT
    clear hm
    cases n with
    | false =>
      obtain rfl : s = false := by rw [← hs]; rfl
      clear hs
      go_enter Tryz.func77, Tryz.ntmps77
      go_wp2_with fail
      refine Calls.mono HW.out ?_
      rintro e w1 ⟨rfl, hb1⟩
      obtain ⟨r0, r1, r2, f0, f1, f2⟩ := res_box3 HZ.out hb1
      obtain ⟨c0, c1, c2, _, _, _⟩ := res_box3 HS.out hb1
      have hbA := bt HB.out hb1
      clear hb1
      go_wp2_with fail
      refine bodyPost_ret (v := .tuple #[.agg #[.bool false, .slice a k c, .slice b l d], .int .i64 0]) (by simp [results, Tryz.results77, go_sem, r0, r1, r2]) rfl ?_
      exact ⟨ret_val HT.out.symm, below_put3 hbA _ (Nat.le_refl _) _ _ _⟩
    | true =>
      obtain rfl : s = decide (0 < k) := by rw [← hs]; rfl
      clear hs
      go_enter Tryz.func77, Tryz.ntmps77
      go_wp2_with fail
      refine Calls.mono HW.out ?_
      rintro e w1 ⟨rfl, hb1⟩
      obtain ⟨r0, r1, r2, f0, f1, f2⟩ := res_box3 HZ.out hb1
      obtain ⟨c0, c1, c2, _, _, _⟩ := res_box3 HS.out hb1
      have hbA := bt HB.out hb1
      clear hb1
      go_wp2_with fail
      refine bodyPost_ret (v := .tuple #[.agg #[.bool (decide (0 < k)), .slice a k c, .slice b l d], .int .i64 0]) (by simp [results, Tryz.results77, go_sem, r0, r1, r2]) rfl ?_
      exact ⟨ret_val HT.out.symm, below_put3 hbA _ (Nat.le_refl _) _ _ _⟩
end Go.Proofs.YtldeiapikkebgaaGreatDoor

/- Fractions: ratio.sum, difference, product, quotient, commonDivisor, signedSum: of numbers that are short enough. -/
namespace Go.Proofs.YtldeiapikkebgaaGreatDoor
open Go.RowKit
set_option linter.unusedVariables false

end Go.Proofs.YtldeiapikkebgaaGreatDoor

/- Fractions: ratio.signedSum: numbers with signs added. -/
namespace Go.Proofs.YtldeiapikkebgaaGreatDoor
open Go.RowKit
set_option linter.unusedVariables false

def One (U w' : World) (v : Value) (zs : List Int) (t : Int) : Prop := w'.ownsRow U.heap.size 94 1 v zs.length (zs.map (Value.int .u32)) ∧ Wd zs ∧ Trimmed zs ∧ val zs = t
theorem One.later {U V W : World} {v : Value} {zs : List Int} {t : Int} (h : One U V v zs t) (hb : Below V.heap.size V W) : One U W v zs t := ⟨owns_later h.1 hb, h.2⟩
theorem One.sl {U V : World} {v : Value} {zs : List Int} {t : Int} (h : One U V v zs t) : Sl V v zs := Sl.own h.1 h.2.1
end Go.Proofs.YtldeiapikkebgaaGreatDoor

/- Fractions: ratio.add, multiply: sums and products of fractions, what is in common taken out first. -/
namespace Go.Proofs.YtldeiapikkebgaaGreatDoor
open Go.RowKit
set_option linter.unusedVariables false

theorem div_gcd_left {x y g : Int} (hg : g = gcdI x y) : x = x / g * g := (Int.ediv_mul_cancel (by rw [hg]; exact Int.gcd_dvd_left ..)).symm
theorem div_gcd_right {x y g : Int} (hg : g = gcdI x y) : y = y / g * g := (Int.ediv_mul_cancel (by rw [hg]; exact Int.gcd_dvd_right ..)).symm
theorem gcd_pos_right {x y : Int} (h : 0 < y) : 0 < gcdI x y := by
  have : 0 < Int.gcd x y := Int.gcd_pos_iff.2 (Or.inr (by omega))
  unfold gcdI; omega
theorem gcd_le_right {x y : Int} (h : 0 < y) : gcdI x y ≤ y := Int.le_of_dvd h (Int.gcd_dvd_right ..)
theorem own_len {v : Value} {zs : List Int} {U V : World} {t : Int} (h : One U V v zs t) {L : Nat} (hl : t < 4294967296 ^ L) : zs.length ≤ L := len_of_lt h.2.1 h.2.2.1 (by rw [h.2.2.2]; exact hl)
theorem RTold.put {w U w3 : World} {e : Int} {q : Rat} {k : Bool} {v u : Value} {zs ds : List Int} {code : Int} (h : w3.ownsRow U.heap.size 94 1 v zs.length (zs.map (Value.int .u32)) ∧ w3.ownsRow U.heap.size 94 1 u ds.length (ds.map (Value.int .u32)) ∧ RTells e q k zs ds code) (b : Nat) (hb : b < U.heap.size) (hw : w.heap.size ≤ b) (hbw : Below w.heap.size w w3) (x y z : Value) :
    RTold w e q (.returned (.tuple #[.agg #[.bool k, v, u], .int .i64 code])) (((w3.setCell ⟨b, 0, none⟩ x).setCell ⟨b, 1, none⟩ y).setCell ⟨b, 2, none⟩ z) :=
  ⟨k, v, zs, u, ds, code, rfl, owns_base (own_put3 h.1 b (fun g hg => by have := (World.ownsRow.lt h.1 g hg).1; omega) _ _ _) (by omega), owns_base (own_put3 h.2.1 b (fun g hg => by have := (World.ownsRow.lt h.2.1 g hg).1; omega) _ _ _) (by omega), h.2.2, below_put3 hbw b hw _ _ _⟩

end Go.Proofs.YtldeiapikkebgaaGreatDoor

/- Whole numbers: whole.divide, DivMod as in Wh6, and besides: quotient and rest lie apart. -/
namespace Go.Proofs.YtldeiapikkebgaaGreatDoor
open Go.RowKit
set_option linter.unusedVariables false

def Cut (w : World) (v u : Value) (w' : World) : Prop := ∃ c, w.heap.size ≤ c ∧ c ≤ w'.heap.size ∧ Lies v w.heap.size c ∧ Lies u c w'.heap.size
theorem Cut.up {w w' W W' : World} {v u : Value} (h : Cut w v u w') (h0 : W.heap.size ≤ w.heap.size) (h1 : w'.heap.size ≤ W'.heap.size) : Cut W v u W' := by
  obtain ⟨c, c0, c1, l0, l1⟩ := h
  exact ⟨c, Nat.le_trans h0 c0, Nat.le_trans c1 h1, fun g hg => ⟨Nat.le_trans h0 (l0 g hg).1, (l0 g hg).2⟩, fun g hg => ⟨(l1 g hg).1, Nat.lt_of_lt_of_le (l1 g hg).2 h1⟩⟩

end Go.Proofs.YtldeiapikkebgaaGreatDoor

/- A struct variable that is written: what lies elsewhere stays. -/
namespace Go.Proofs.YtldeiapikkebgaaGreatDoor
open Go.RowKit
set_option linter.unusedVariables false

theorem own_ne_box {U : World} {base e n b t : Nat} {v : Value} {xs : List Value} {vs : Array Value} (h : U.ownsRow base e 1 v n xs) (hb : Box U b t vs) (hne : e ≠ t) : ∀ g, v.ownBlock = some g → g ≠ b := fun g hg => by
  rcases h.2 with ⟨rfl, _⟩ | ⟨g1, c1, u1, rfl, _, hg1, _⟩
  · simp [Value.ownBlock] at hg
  · simp [Value.ownBlock] at hg
    subst hg
    intro e1
    subst e1
    unfold Box at hb
    rw [hg1] at hb
    simp at hb
    exact hne hb.2
structure Pb (U : World) (base b : Nat) (n : Bool) (a : Option Addr) (c : Nat) (zs : List Int) : Prop where
  box : Box U b 88 #[.bool n, .slice a zs.length c]
  own : U.ownsRow base 94 1 (.slice a zs.length c) zs.length (zs.map (Value.int .u32))
  wd : Wd zs
  ok : wchk n zs = 0
structure Ab (U : World) (b : Nat) (n : Bool) (a : Option Addr) (c : Nat) (xs : List Int) : Prop where
  box : Box U b 88 #[.bool n, .slice a xs.length c]
  sl : Sl U (.slice a xs.length c) xs
  ok : wchk n xs = 0
end Go.Proofs.YtldeiapikkebgaaGreatDoor

/- Fractions: ratio.Make: of two whole numbers, in whatever form; Num and Den lie apart. -/
namespace Go.Proofs.YtldeiapikkebgaaGreatDoor
open Go.RowKit
set_option linter.unusedVariables false

def RToldA (w : World) (e : Int) (q : Rat) (x : Ending) (w' : World) : Prop :=
  ∃ n v xs u ys code, x = .returned (.tuple #[.agg #[.bool n, v, u], .int .i64 code]) ∧ w'.ownsRow w.heap.size 94 1 v xs.length (xs.map (Value.int .u32)) ∧ w'.ownsRow w.heap.size 94 1 u ys.length (ys.map (Value.int .u32)) ∧ RTells e q n xs ys code ∧ Below w.heap.size w w' ∧ Cut w v u w'
theorem make_parts {n m : Bool} {xs ys : List Int} (hx : 0 ≤ val xs) (hy : 0 < val ys) :
    0 < val ys / gcdI (val xs) (val ys) ∧ gcdI (val xs / gcdI (val xs) (val ys)) (val ys / gcdI (val xs) (val ys)) = 1 ∧ Rat.divInt (sg (n != m) (val xs / gcdI (val xs) (val ys))) (val ys / gcdI (val xs) (val ys)) = Rat.divInt (wval n xs) (wval m ys) := by
  obtain ⟨e1, e2, e3⟩ := fr_make (x := val xs) (d := val ys) (p := val xs / gcdI (val xs) (val ys)) (e := val ys / gcdI (val xs) (val ys)) hy rfl (div_gcd_left rfl) (div_gcd_right rfl)
  refine ⟨e1, e2, ?_⟩
  generalize val xs / gcdI (val xs) (val ys) = p at *
  generalize val ys / gcdI (val xs) (val ys) = e at *
  cases n <;> cases m <;> simp [sg, wval, e3, Rat.divInt_neg', ← Rat.neg_divInt]
theorem cut_two {U u V W : World} {v w : Value} (h0 : U.heap.size ≤ u.heap.size) (h1 : u.heap.size ≤ V.heap.size) (h2 : V.heap.size ≤ W.heap.size) (l1 : Lies v u.heap.size V.heap.size) (l2 : Lies w V.heap.size W.heap.size) : Cut U v w W :=
  ⟨V.heap.size, Nat.le_trans h0 h1, h2, fun g hg => ⟨Nat.le_trans h0 (l1 g hg).1, (l1 g hg).2⟩, l2⟩
theorem RToldA.put {w U w3 : World} {e : Int} {q : Rat} {k : Bool} {v u : Value} {zs ds : List Int} {code : Int} (h : w3.ownsRow U.heap.size 94 1 v zs.length (zs.map (Value.int .u32)) ∧ w3.ownsRow U.heap.size 94 1 u ds.length (ds.map (Value.int .u32)) ∧ RTells e q k zs ds code ∧ Cut U v u w3) (b : Nat) (hb : b < U.heap.size) (hw : w.heap.size ≤ b) (hbw : Below w.heap.size w w3) (x y z : Value) :
    RToldA w e q (.returned (.tuple #[.agg #[.bool k, v, u], .int .i64 code])) (((w3.setCell ⟨b, 0, none⟩ x).setCell ⟨b, 1, none⟩ y).setCell ⟨b, 2, none⟩ z) :=
  ⟨k, v, zs, u, ds, code, rfl, owns_base (own_put3 h.1 b (fun g hg => by have := (World.ownsRow.lt h.1 g hg).1; omega) _ _ _) (by omega), owns_base (own_put3 h.2.1 b (fun g hg => by have := (World.ownsRow.lt h.2.1 g hg).1; omega) _ _ _) (by omega), h.2.2.1, below_put3 hbw b hw _ _ _, h.2.2.2.up (by omega) (by simp)⟩
end Go.Proofs.YtldeiapikkebgaaGreatDoor

/- Boxes of fractions, rows of the call's own and one box of a flag, in a bundle that is moved along. -/
namespace Go.Proofs.YtldeiapikkebgaaGreatDoor
open Go.RowKit
set_option linter.unusedVariables false

theorem Box.same {w : World} {b t : Nat} {vs : Array Value} (h : Box w b t vs) {j : Nat} {v : Value} (hv : vs[j]? = some v) : w.setCell ⟨b, j, none⟩ v = w := by
  have e : (w.setCell ⟨b, j, none⟩ v).heap = w.heap := by
    have h' : w.heap[b]? = some (.cells vs t (0, 0)) := h
    have hs : vs.setIfInBounds j v = vs := by
      apply Array.ext_getElem?
      intro k
      rw [Array.getElem?_setIfInBounds]
      by_cases c : j = k
      · subst c
        obtain ⟨hk, _⟩ := Array.getElem?_eq_some_iff.1 hv
        rw [if_pos rfl, if_pos hk, hv]
      · rw [if_neg c]
    unfold World.setCell
    apply Array.ext_getElem?
    intro k
    simp only [Array.getElem?_modify]
    by_cases c : b = k
    · subst c
      rw [if_pos rfl, h']
      simp [hs]
    · rw [if_neg c]
  cases w
  simp only [World.setCell] at e ⊢
  rw [e]
theorem own_put1 {w : World} {base e n : Nat} {v : Value} {xs : List Value} (h : w.ownsRow base e 1 v n xs) (b : Nat) (hb : ∀ g, v.ownBlock = some g → g ≠ b) (j : Nat) (v0 : Value) : (w.setCell ⟨b, j, none⟩ v0).ownsRow base e 1 v n xs := by
  have hne : v.ownBlock = none ∨ v.ownBlock ≠ some b := by
    cases hv : v.ownBlock with
    | none => exact .inl rfl
    | some g => right; intro e; exact hb g hv (Option.some.inj e)
  exact World.ownsRow.kept h (grown_set w ⟨b, j, none⟩ v0) hne
def Bxs3 (W : World) (l : List (Nat × Array Value)) : Prop := ∀ p ∈ l, Box W p.1 26 p.2
def Rws (W : World) (l : List (Nat × Value × List Int)) : Prop := ∀ p ∈ l, W.ownsRow p.1 94 1 p.2.1 p.2.2.length (p.2.2.map (Value.int .u32))
structure St (w W : World) (l : List (Nat × Array Value)) (r : List (Nat × Value × List Int)) : Prop where
  box : Bxs3 W l
  row : Rws W r
  bel : Below w.heap.size w W
end Go.Proofs.YtldeiapikkebgaaGreatDoor

/- Complex fractions: gauss.Check; the steps' own: look, next. -/
namespace Go.Proofs.YtldeiapikkebgaaGreatDoor
open Go.RowKit
set_option linter.unusedVariables false

def fstE (E e : Int) : Int := if E = 0 then e else E
theorem fstE_zero (e : Int) : fstE 0 e = e := if_pos rfl
theorem fstE_err {E : Int} (e : Int) (h : E ≠ 0) : fstE E e = E := if_neg h
def gchk (n : Bool) (xs ys : List Int) (m : Bool) (us vs : List Int) : Int := fstE (rchk n xs ys) (rchk m us vs)

set_option maxHeartbeats 800000 in
set_option maxRecDepth 100000 in
theorem gcheck_any (n : Bool) (v : Value) (xs : List Int) (u : Value) (ys : List Int) (m : Bool) (v' : Value) (us : List Int) (u' : Value) (vs : List Int) (w : World) (h1 : Sl w v xs) (h2 : Sl w u ys) (h3 : Sl w v' us) (h4 : Sl w u' vs) :
    Calls Tryz.prog 39 #[.agg #[.bool n, v, u, .bool m, v', u']] w fun e w' => e = .returned (.int .i64 (gchk n xs ys m us vs)) ∧ Below w.heap.size w w' := by
  have HX := hid (Box.made w 28 #[.bool n, v, u, .bool m, v', u'])
  have HB := hid (alloc_later w (.cells #[.bool n, v, u, .bool m, v', u'] 28))
  have H1 : Hid (∀ V, Below w.heap.size w V → Calls Tryz.prog 64 #[.agg #[.bool n, v, u]] V fun e w' => e = .returned (.int .i64 (rchk n xs ys)) ∧ Below V.heap.size V w') := fun V hv => rcheck_any n v xs u ys V (h1.later hv) (h2.later hv)
  have H2 : Hid (∀ V, Below w.heap.size w V → Calls Tryz.prog 64 #[.agg #[.bool m, v', u']] V fun e w' => e = .returned (.int .i64 (rchk m us vs)) ∧ Below V.heap.size V w') := fun V hv => rcheck_any m v' us u' vs V (h3.later hv) (h4.later hv)
  obtain ⟨a, ca, rfl, _⟩ := h1
  obtain ⟨b, cb, rfl, _⟩ := h2
  obtain ⟨c, cc, rfl, _⟩ := h3
  obtain ⟨d, cd, rfl, _⟩ := h4
  have HF : Hid (∀ E, E = rchk n xs ys → (E = 0 → gchk n xs ys m us vs = rchk m us vs) ∧ (E ≠ 0 → gchk n xs ys m us vs = E)) := fun E hE => by
    subst hE
    exact ⟨fun h => by unfold gchk; rw [h, fstE_zero], fun h => fstE_err _ h⟩
  have HF := hid (HF.out _ rfl)
  generalize rchk n xs ys = E at *
  generalize rchk m us vs = F at *
  generalize gchk n xs ys m us vs = G at *
  go_enter Tryz.func39, Tryz.ntmps39
  go_wp2_with fail
  generalize w.alloc (.cells #[.bool n, .slice a xs.length ca, .slice b ys.length cb, .bool m, .slice c us.length cc, .slice d vs.length cd] 28) = X at *
  refine Calls.mono (H1.out _ HB.out) ?_
  rintro e w1 ⟨rfl, hb1⟩
  have HB1 := hid (bt HB.out hb1)
  have HX1 := hid (HX.out.later hb1 HX.out.lt)
  have k3 : w1.cell? ⟨w.heap.size, 3, none⟩ = some (.bool m) := HX1.out.cell 3
  have k4 : w1.cell? ⟨w.heap.size, 4, none⟩ = some (.slice c us.length cc) := HX1.out.cell 4
  have k5 : w1.cell? ⟨w.heap.size, 5, none⟩ = some (.slice d vs.length cd) := HX1.out.cell 5
  clear hb1 HX HX1 HB
  by_cases h : E = 0
  · subst h
    have HR := hid (HF.out.1 rfl)
    clear HF H1
    go_wp2_with fail
    refine Calls.mono (H2.out _ HB1.out) ?_
    rintro e w2 ⟨rfl, hb2⟩
    have HB2 := hid (bt HB1.out hb2)
    clear hb2
    go_wp2_with fail
    go_ret
    exact ⟨ret_int HR.out.symm, HB2.out⟩
  · have HR := hid (HF.out.2 h)
    have h' : (E == 0) = false := by simp [h]
    clear HF H1 H2
    go_wp2_with fail
    go_ret
    exact ⟨ret_int HR.out.symm, HB1.out⟩

theorem own_put3' {w : World} {base e n : Nat} {v : Value} {xs : List Value} (h : w.ownsRow base e 1 v n xs) (b : Nat) (hb : ∀ g, v.ownBlock = some g → g ≠ b) (u0 u1 u2 : Value) : (((w.setCell ⟨b, 0, none⟩ u0).setCell ⟨b, 1, none⟩ u1).setCell ⟨b, 2, none⟩ u2).ownsRow base e 1 v n xs :=
  own_put1 (own_put1 (own_put1 h b hb 0 u0) b hb 1 u1) b hb 2 u2
end Go.Proofs.YtldeiapikkebgaaGreatDoor

/- Lists that lie apart, two, four, twelve of them; a store of six cells. (tools/mkkg.py) -/
namespace Go.Proofs.YtldeiapikkebgaaGreatDoor
open Go.RowKit
set_option linter.unusedVariables false

def Kp (v u : Value) : Prop := v.ownBlock = none ∨ v.ownBlock ≠ u.ownBlock
theorem Kp.far {v u : Value} {a b c d : Nat} (h : Within v a b) (g : Within u c d) (hd : b ≤ c ∨ d ≤ a) : Kp v u := by
  cases e : v.ownBlock with
  | none => exact .inl e
  | some k =>
    refine .inr ?_
    intro f
    rw [e] at f
    have h1 := h k e
    have h2 := g k f.symm
    omega
theorem Kp.turn {v u : Value} (h : Kp v u) : Kp u v := by
  cases e : u.ownBlock with
  | none => exact .inl e
  | some k =>
    refine .inr ?_
    intro f
    rcases h with h | h
    · rw [e] at f; rw [h] at f; cases f
    · exact h f.symm
theorem kg_within {w : World} {base n : Nat} {v : Value} {xs : List Value} (h : w.ownsRow base 94 1 v n xs) : Within v base w.heap.size := fun g hg => h.lt g hg
def Kp4 (u v p q : Value) : Prop := Kp u v ∧ Kp p q ∧ Kp u p ∧ Kp u q ∧ Kp v p ∧ Kp v q

theorem kp_four {v : Nat → Value} (h : Kp4 (v 0) (v 1) (v 2) (v 3)) : ∀ i j, i < 4 → j < 4 → i ≠ j → Kp (v i) (v j) := by
  obtain ⟨h01, h23, h02, h03, h12, h13⟩ := h
  intro i j hi hj hne
  match i, hi, j, hj with
  | 0, _, 0, _ => omega
  | 0, _, 1, _ => exact h01
  | 0, _, 2, _ => exact h02
  | 0, _, 3, _ => exact h03
  | 1, _, 0, _ => exact h01.turn
  | 1, _, 1, _ => omega
  | 1, _, 2, _ => exact h12
  | 1, _, 3, _ => exact h13
  | 2, _, 0, _ => exact h02.turn
  | 2, _, 1, _ => exact h12.turn
  | 2, _, 2, _ => omega
  | 2, _, 3, _ => exact h23
  | 3, _, 0, _ => exact h03.turn
  | 3, _, 1, _ => exact h13.turn
  | 3, _, 2, _ => exact h23.turn
  | 3, _, 3, _ => omega
theorem kown_put1 {w : World} {base e n b : Nat} {v : Value} {xs : List Value} (h : w.ownsRow base e 1 v n xs) (hb : ∀ g, v.ownBlock = some g → g ≠ b) (j : Nat) (u : Value) : (w.setCell ⟨b, j, none⟩ u).ownsRow base e 1 v n xs := by
  refine ⟨h.1, h.2.imp id ?_⟩
  rintro ⟨g, cap, cur, rfl, hbg, hg, h1, h2, h3, h4⟩
  refine ⟨g, cap, cur, rfl, hbg, ?_, h1, h2, h3, h4⟩
  rw [Below.heap_setCell w ⟨b, j, none⟩ u g (hb g rfl)]
  exact hg
theorem kown_put6 {W : World} {base e n b t : Nat} {v : Value} {xs : List Value} {vs : Array Value} (h : W.ownsRow base e 1 v n xs) (hb : Box W b t vs) (hne : e ≠ t) (v0 v1 v2 v3 v4 v5 : Value) : ((((((W.setCell ⟨b, 0, none⟩ v0).setCell ⟨b, 1, none⟩ v1).setCell ⟨b, 2, none⟩ v2).setCell ⟨b, 3, none⟩ v3).setCell ⟨b, 4, none⟩ v4).setCell ⟨b, 5, none⟩ v5).ownsRow base e 1 v n xs := by
  have k := own_ne_box h hb hne
  exact kown_put1 (kown_put1 (kown_put1 (kown_put1 (kown_put1 (kown_put1 h k 0 v0) k 1 v1) k 2 v2) k 3 v3) k 4 v4) k 5 v5
theorem kbelow_put6 {B : Nat} {w V : World} {p : Nat} (h : Below B w V) (hp : B ≤ p) (v0 v1 v2 v3 v4 v5 : Value) : Below B w ((((((V.setCell ⟨p, 0, none⟩ v0).setCell ⟨p, 1, none⟩ v1).setCell ⟨p, 2, none⟩ v2).setCell ⟨p, 3, none⟩ v3).setCell ⟨p, 4, none⟩ v4).setCell ⟨p, 5, none⟩ v5) :=
  (((((h.setCell (p := ⟨p, 0, none⟩) hp v0).setCell (p := ⟨p, 1, none⟩) hp v1).setCell (p := ⟨p, 2, none⟩) hp v2).setCell (p := ⟨p, 3, none⟩) hp v3).setCell (p := ⟨p, 4, none⟩) hp v4).setCell (p := ⟨p, 5, none⟩) hp v5
end Go.Proofs.YtldeiapikkebgaaGreatDoor

/- Whole numbers that are lent to a call: slackwaterkit.LentWhole, KeptWhole; the law's own comparison. -/
namespace Go.Proofs.YtldeiapikkebgaaGreatDoor
open Go.RowKit
set_option linter.unusedVariables false

theorem own_room {w : World} {base e n : Nat} {v : Value} {xs : List Value} (h : w.ownsRow base e 1 v n xs) (hn : 0 < n) : ∃ g cap, v = .slice (some ⟨g, 0, none⟩) n cap ∧ n ≤ cap ∧ cap ≤ 9223372036854775807 := by
  obtain ⟨g, cap, rfl, h1, h2⟩ := own_shape' h hn
  exact ⟨g, cap, rfl, h1, by unfold maxLen at h2; omega⟩

end Go.Proofs.YtldeiapikkebgaaGreatDoor

/- Fractions that are lent to a call: slackwaterkit.LentRatio, KeptRatio. -/
namespace Go.Proofs.YtldeiapikkebgaaGreatDoor
open Go.RowKit
set_option linter.unusedVariables false

set_option maxHeartbeats 6400000 in
set_option maxRecDepth 100000 in
theorem lentRatio_any (n : Bool) (a : Option Addr) (ca : Nat) (xs : List Int) (b : Option Addr) (cb : Nat) (ys : List Int) (w : World) (sx : Sl w (.slice a xs.length ca) xs) (sy : Sl w (.slice b ys.length cb) ys) (lx : xs.length ≤ 549755813888) (ly : ys.length ≤ 549755813888) :
    Calls Tryz.prog 38 #[.agg #[.bool n, .slice a xs.length ca, .slice b ys.length cb]] w fun e w' => ∃ g1 c1 g2 c2, e = .returned (.agg #[.bool n, .slice (some ⟨g1, 0, none⟩) xs.length c1, .slice (some ⟨g2, 0, none⟩) ys.length c2]) ∧ w'.ownsRow w.heap.size 94 1 (.slice (some ⟨g1, 0, none⟩) (xs.length + 3) c1) (xs.length + 3) ((xs ++ marks 3).map (Value.int .u32)) ∧ w'.ownsRow w.heap.size 94 1 (.slice (some ⟨g2, 0, none⟩) (ys.length + 3) c2) (ys.length + 3) ((ys ++ marks 3).map (Value.int .u32)) ∧ g1 < g2 ∧ Below w.heap.size w w' := by
  have HB : Hid (Below w.heap.size w ((w.alloc (.cells #[.bool n, .slice a xs.length ca, .slice b ys.length cb] 26)).alloc (.cells #[.bool false, .slice none 0 0, .slice none 0 0] 26))) := bt (alloc_later _ _) (alloc_later _ _)
  have HA : Hid (Box ((w.alloc (.cells #[.bool n, .slice a xs.length ca, .slice b ys.length cb] 26)).alloc (.cells #[.bool false, .slice none 0 0, .slice none 0 0] 26)) w.heap.size 26 #[.bool n, .slice a xs.length ca, .slice b ys.length cb]) := Box.later (Box.made w _ _) (alloc_later _ _) (by simp)
  have HZ : Hid (Box ((w.alloc (.cells #[.bool n, .slice a xs.length ca, .slice b ys.length cb] 26)).alloc (.cells #[.bool false, .slice none 0 0, .slice none 0 0] 26)) (w.heap.size + 1) 26 #[.bool false, .slice none 0 0, .slice none 0 0]) := by
    have e := Box.made (w.alloc (.cells #[.bool n, .slice a xs.length ca, .slice b ys.length cb] 26)) 26 #[.bool false, .slice none 0 0, .slice none 0 0]
    simp at e
    exact e
  have HS := hid (And.intro (sx.later HB.out) (sy.later HB.out))
  clear sx sy
  go_enter Tryz.func38, Tryz.ntmps38
  go_wp2_with fail
  generalize ((w.alloc (.cells #[.bool n, .slice a xs.length ca, .slice b ys.length cb] 26)).alloc (.cells #[.bool false, .slice none 0 0, .slice none 0 0] 26)) = X at *
  have HK : Hid (∀ V, Below X.heap.size X V → (V.cell? ⟨w.heap.size, 0, none⟩ = some (.bool n) ∧ V.cell? ⟨w.heap.size, 1, none⟩ = some (.slice a xs.length ca) ∧ V.cell? ⟨w.heap.size, 2, none⟩ = some (.slice b ys.length cb))) := fun V hb => by
    obtain ⟨p0, p1, p2, _, _, _⟩ := res_box3 HA.out hb
    exact ⟨p0, p1, p2⟩
  have hs0 := HK.out _ (Below.drew (Below.refl _ X))
  have HL1 : Hid (∀ V, Below X.heap.size X V → Calls Tryz.prog 63 #[.slice a xs.length ca] V fun e V' => ∃ g cap, e = .returned (.slice (some ⟨g, 0, none⟩) (xs.length + 3) cap) ∧ xs.length + 3 ≤ cap ∧ cap ≤ 9223372036854775807 ∧ (xs.length : Int) ≤ (cap : Int) ∧ Hid (V'.ownsRow X.heap.size 94 1 (.slice (some ⟨g, 0, none⟩) (xs.length + 3) cap) (xs.length + 3) ((xs ++ marks 3).map (Value.int .u32)) ∧ Below V.heap.size V V' ∧ Below X.heap.size X V' ∧ V.heap.size ≤ g ∧ g < V'.heap.size) ∧ (V'.cell? ⟨w.heap.size, 0, none⟩ = some (.bool n) ∧ V'.cell? ⟨w.heap.size, 1, none⟩ = some (.slice a xs.length ca) ∧ V'.cell? ⟨w.heap.size, 2, none⟩ = some (.slice b ys.length cb)) ∧ V'.cell? ⟨w.heap.size + 1, 0, none⟩ = some (.bool false) ∧ V'.cell? ⟨w.heap.size + 1, 1, none⟩ = some (.slice none 0 0) ∧ V'.cell? ⟨w.heap.size + 1, 2, none⟩ = some (.slice none 0 0) ∧ V'.frozen? ⟨w.heap.size + 1, 0, none⟩ = false ∧ V'.frozen? ⟨w.heap.size + 1, 1, none⟩ = false ∧ V'.frozen? ⟨w.heap.size + 1, 2, none⟩ = false) := fun V hb => by
    refine Calls.mono (lentWords_sl _ xs _ (HS.out.1.later hb) lx) ?_
    rintro e V' ⟨v1, rfl, o1, hb1⟩
    obtain ⟨g, cap, hv, h1, h2⟩ := own_room o1 (by omega)
    subst hv
    have hbX : Below X.heap.size X V' := bt hb hb1
    exact ⟨g, cap, rfl, h1, h2, by omega, ⟨owns_base o1 hb.size, hb1, hbX, (o1.lt g rfl).1, (o1.lt g rfl).2⟩, HK.out V' hbX, res_box3 HZ.out hbX⟩
  have HL2 : Hid (∀ V, Below X.heap.size X V → Calls Tryz.prog 63 #[.slice b ys.length cb] V fun e V' => ∃ g cap, e = .returned (.slice (some ⟨g, 0, none⟩) (ys.length + 3) cap) ∧ ys.length + 3 ≤ cap ∧ cap ≤ 9223372036854775807 ∧ (ys.length : Int) ≤ (cap : Int) ∧ Hid (V'.ownsRow X.heap.size 94 1 (.slice (some ⟨g, 0, none⟩) (ys.length + 3) cap) (ys.length + 3) ((ys ++ marks 3).map (Value.int .u32)) ∧ Below V.heap.size V V' ∧ Below X.heap.size X V' ∧ V.heap.size ≤ g ∧ g < V'.heap.size) ∧ (V'.cell? ⟨w.heap.size, 0, none⟩ = some (.bool n) ∧ V'.cell? ⟨w.heap.size, 1, none⟩ = some (.slice a xs.length ca) ∧ V'.cell? ⟨w.heap.size, 2, none⟩ = some (.slice b ys.length cb)) ∧ V'.cell? ⟨w.heap.size + 1, 0, none⟩ = some (.bool false) ∧ V'.cell? ⟨w.heap.size + 1, 1, none⟩ = some (.slice none 0 0) ∧ V'.cell? ⟨w.heap.size + 1, 2, none⟩ = some (.slice none 0 0) ∧ V'.frozen? ⟨w.heap.size + 1, 0, none⟩ = false ∧ V'.frozen? ⟨w.heap.size + 1, 1, none⟩ = false ∧ V'.frozen? ⟨w.heap.size + 1, 2, none⟩ = false) := fun V hb => by
    refine Calls.mono (lentWords_sl _ ys _ (HS.out.2.later hb) ly) ?_
    rintro e V' ⟨v1, rfl, o1, hb1⟩
    obtain ⟨g, cap, hv, h1, h2⟩ := own_room o1 (by omega)
    subst hv
    have hbX : Below X.heap.size X V' := bt hb hb1
    exact ⟨g, cap, rfl, h1, h2, by omega, ⟨owns_base o1 hb.size, hb1, hbX, (o1.lt g rfl).1, (o1.lt g rfl).2⟩, HK.out V' hbX, res_box3 HZ.out hbX⟩
  have hx0 : (0 : Int) ≤ (xs.length : Int) := by omega
  have hlx : xs.length ≤ 9223372036854775807 := by omega
  have hy0 : (0 : Int) ≤ (ys.length : Int) := by omega
  have hly : ys.length ≤ 9223372036854775807 := by omega
  clear HS HA
  go_region_held3 (fun V : World => (V.cell? ⟨w.heap.size, 0, none⟩ = some (.bool n) ∧ V.cell? ⟨w.heap.size, 1, none⟩ = some (.slice a xs.length ca) ∧ V.cell? ⟨w.heap.size, 2, none⟩ = some (.slice b ys.length cb))) (first | exact hs2 | exact hs1 | exact hs0 | (simp [hs2, World.cell?_setCell_far]))
    (first
      | (go_at_call 63; with_reducible refine Calls.mono (HL2.out _ HE1.out.2.2.1) ?_; rintro e w2 ⟨g2, c2, rfl, hd1, hd2, hd3, HE2, hs2, r0, r1, r2, f0, f1, f2⟩)
      | (go_at_call 63; with_reducible refine Calls.mono (HL1.out _ (Below.drew (Below.refl _ X))) ?_; rintro e w1 ⟨g1, c1, rfl, hc1, hc2, hc3, HE1, hs1, y0, y1, y2, z0, z1, z2⟩))
  all_goals
    have HZ2 := hid (HZ.out.later HE2.out.2.2.1 HZ.out.lt)
    have HO1 := hid (own_put3 (owns_base (owns_later HE1.out.1 HE2.out.2.1) HB.out.size) (w.heap.size + 1) (own_ne_box (owns_later HE1.out.1 HE2.out.2.1) HZ2.out (by decide)) (.bool n) (.slice (some ⟨g1, 0, none⟩) xs.length c1) (.slice (some ⟨g2, 0, none⟩) ys.length c2))
    have HO2 := hid (own_put3 (owns_base HE2.out.1 HB.out.size) (w.heap.size + 1) (own_ne_box HE2.out.1 HZ2.out (by decide)) (.bool n) (.slice (some ⟨g1, 0, none⟩) xs.length c1) (.slice (some ⟨g2, 0, none⟩) ys.length c2))
    have HBN := hid (below_put3 (bt HB.out HE2.out.2.2.1) (w.heap.size + 1) (by omega) (.bool n) (.slice (some ⟨g1, 0, none⟩) xs.length c1) (.slice (some ⟨g2, 0, none⟩) ys.length c2))
    have HG : Hid (g1 < g2) := by have e1 := HE1.out.2.2.2.2; have e2 := HE2.out.2.2.2.1; show _ < _; omega
    clear HK HL1 HL2 HE1 HE2 HZ HB HZ2 hs0 hs1 hs2 y0 y1 y2 z0 z1 z2
    go_wp2_with fail
    refine bodyPost_ret (v := .agg #[.bool n, .slice (some ⟨g1, 0, none⟩) xs.length c1, .slice (some ⟨g2, 0, none⟩) ys.length c2]) (by simp [results, Tryz.results38, go_sem, r0, r1, r2]) rfl ?_
    exact ⟨g1, c1, g2, c2, rfl, HO1.out, HO2.out, HG.out, HBN.out⟩

set_option maxHeartbeats 6400000 in
set_option maxRecDepth 100000 in
theorem keptRatio_any (n : Bool) (a : Option Addr) (ca : Nat) (xs : List Int) (b : Option Addr) (cb : Nat) (ys : List Int) (g1 c1 g2 c2 base : Nat) (w : World) (sx : Sl w (.slice a xs.length ca) xs) (sy : Sl w (.slice b ys.length cb) ys) (lx : xs.length ≤ 274877906944) (ly : ys.length ≤ 274877906944) (o1 : w.ownsRow base 94 1 (.slice (some ⟨g1, 0, none⟩) (xs.length + 3) c1) (xs.length + 3) ((xs ++ marks 3).map (Value.int .u32))) (o2 : w.ownsRow base 94 1 (.slice (some ⟨g2, 0, none⟩) (ys.length + 3) c2) (ys.length + 3) ((ys ++ marks 3).map (Value.int .u32))) :
    Calls Tryz.prog 61 #[.agg #[.bool n, .slice (some ⟨g1, 0, none⟩) xs.length c1, .slice (some ⟨g2, 0, none⟩) ys.length c2], .agg #[.bool n, .slice a xs.length ca, .slice b ys.length cb]] w fun e w' => e = .returned (.bool true) ∧ Below w.heap.size w w' := by
  have hcap1 : xs.length + 3 ≤ c1 ∧ c1 ≤ 9223372036854775807 := by
    obtain ⟨g', cap', hv, h1, h2⟩ := own_room o1 (by omega)
    simp only [Value.slice.injEq, Option.some.injEq, Addr.mk.injEq, and_true, true_and] at hv
    obtain ⟨rfl, rfl⟩ := hv
    exact ⟨h1, h2⟩
  have wf1 : Wd (xs ++ marks 3) := sx.wd.append (Wd.marks 3)
  have lf1 : (xs ++ marks 3).length = xs.length + 3 := by rw [List.length_append, marks_len 3 (by omega)]
  have hcap2 : ys.length + 3 ≤ c2 ∧ c2 ≤ 9223372036854775807 := by
    obtain ⟨g', cap', hv, h1, h2⟩ := own_room o2 (by omega)
    simp only [Value.slice.injEq, Option.some.injEq, Addr.mk.injEq, and_true, true_and] at hv
    obtain ⟨rfl, rfl⟩ := hv
    exact ⟨h1, h2⟩
  have wf2 : Wd (ys ++ marks 3) := sy.wd.append (Wd.marks 3)
  have lf2 : (ys ++ marks 3).length = ys.length + 3 := by rw [List.length_append, marks_len 3 (by omega)]
  have HO := hid (And.intro (Sl.own o1 wf1) (Sl.own o2 wf2))
  have HS := hid (And.intro sx sy)
  have HB : Hid (Below w.heap.size w ((w.alloc (.cells #[.bool n, .slice (some ⟨g1, 0, none⟩) xs.length c1, .slice (some ⟨g2, 0, none⟩) ys.length c2] 26)).alloc (.cells #[.bool n, .slice a xs.length ca, .slice b ys.length cb] 26))) := bt (alloc_later _ _) (alloc_later _ _)
  have HA : Hid (Box ((w.alloc (.cells #[.bool n, .slice (some ⟨g1, 0, none⟩) xs.length c1, .slice (some ⟨g2, 0, none⟩) ys.length c2] 26)).alloc (.cells #[.bool n, .slice a xs.length ca, .slice b ys.length cb] 26)) w.heap.size 26 #[.bool n, .slice (some ⟨g1, 0, none⟩) xs.length c1, .slice (some ⟨g2, 0, none⟩) ys.length c2]) := Box.later (Box.made w _ _) (alloc_later _ _) (by simp)
  have HZ : Hid (Box ((w.alloc (.cells #[.bool n, .slice (some ⟨g1, 0, none⟩) xs.length c1, .slice (some ⟨g2, 0, none⟩) ys.length c2] 26)).alloc (.cells #[.bool n, .slice a xs.length ca, .slice b ys.length cb] 26)) (w.heap.size + 1) 26 #[.bool n, .slice a xs.length ca, .slice b ys.length cb]) := by
    have e := Box.made (w.alloc (.cells #[.bool n, .slice (some ⟨g1, 0, none⟩) xs.length c1, .slice (some ⟨g2, 0, none⟩) ys.length c2] 26)) 26 #[.bool n, .slice a xs.length ca, .slice b ys.length cb]
    simp at e
    exact e
  have hc1 := hcap1.1
  have hm1 := hcap1.2
  have hll1 : ((xs.length : Int) == (xs.length : Int)) = true := by simp
  have hx1 : (0 : Int) ≤ (xs.length : Int) + 3 := by omega
  have hxc1 : (xs.length : Int) + 3 ≤ (c1 : Int) := by omega
  have hwr1 : IntKind.i64.wrap ((xs.length : Int) + 3) = (xs.length : Int) + 3 := by rw [IntKind.wrap_i64]; omega
  have htn1 : ((xs.length : Int) + 3).toNat = xs.length + 3 := by omega
  have hc2 := hcap2.1
  have hm2 := hcap2.2
  have hll2 : ((ys.length : Int) == (ys.length : Int)) = true := by simp
  have hx2 : (0 : Int) ≤ (ys.length : Int) + 3 := by omega
  have hxc2 : (ys.length : Int) + 3 ≤ (c2 : Int) := by omega
  have hwr2 : IntKind.i64.wrap ((ys.length : Int) + 3) = (ys.length : Int) + 3 := by rw [IntKind.wrap_i64]; omega
  have htn2 : ((ys.length : Int) + 3).toNat = ys.length + 3 := by omega
  have hnn : (n == n) = true := by simp
  clear o1 o2 hcap1 hcap2 sx sy
  go_enter Tryz.func61, Tryz.ntmps61
  go_wp2_with fail
  generalize ((w.alloc (.cells #[.bool n, .slice (some ⟨g1, 0, none⟩) xs.length c1, .slice (some ⟨g2, 0, none⟩) ys.length c2] 26)).alloc (.cells #[.bool n, .slice a xs.length ca, .slice b ys.length cb] 26)) = X at *
  have HK : Hid (∀ V, Below X.heap.size X V → (V.cell? ⟨w.heap.size, 0, none⟩ = some (.bool n) ∧ V.cell? ⟨w.heap.size, 1, none⟩ = some (.slice (some ⟨g1, 0, none⟩) xs.length c1) ∧ V.cell? ⟨w.heap.size, 2, none⟩ = some (.slice (some ⟨g2, 0, none⟩) ys.length c2) ∧ V.cell? ⟨w.heap.size + 1, 0, none⟩ = some (.bool n) ∧ V.cell? ⟨w.heap.size + 1, 1, none⟩ = some (.slice a xs.length ca) ∧ V.cell? ⟨w.heap.size + 1, 2, none⟩ = some (.slice b ys.length cb))) := fun V hb => by
    obtain ⟨p0, p1, p2, _, _, _⟩ := res_box3 HA.out hb
    obtain ⟨q0, q1, q2, _, _, _⟩ := res_box3 HZ.out hb
    exact ⟨p0, p1, p2, q0, q1, q2⟩
  have hs0 := HK.out _ (Below.drew (Below.refl _ X))
  have HL1 : Hid (∀ V, Below X.heap.size X V → Calls Tryz.prog 82 #[.slice (some ⟨g1, 0, none⟩) (xs.length + 3) c1, .slice a xs.length ca] V fun e V' => e = .returned (.bool true) ∧ Hid (Below X.heap.size X V') ∧ (V'.cell? ⟨w.heap.size, 0, none⟩ = some (.bool n) ∧ V'.cell? ⟨w.heap.size, 1, none⟩ = some (.slice (some ⟨g1, 0, none⟩) xs.length c1) ∧ V'.cell? ⟨w.heap.size, 2, none⟩ = some (.slice (some ⟨g2, 0, none⟩) ys.length c2) ∧ V'.cell? ⟨w.heap.size + 1, 0, none⟩ = some (.bool n) ∧ V'.cell? ⟨w.heap.size + 1, 1, none⟩ = some (.slice a xs.length ca) ∧ V'.cell? ⟨w.heap.size + 1, 2, none⟩ = some (.slice b ys.length cb))) := fun V hb => by
    have e := keptWords_sl _ _ (xs ++ marks 3) xs V (HO.out.1.later (bt HB.out hb)) (HS.out.1.later (bt HB.out hb)) (by omega) lx
    rw [decide_eq_true rfl] at e
    refine Calls.mono e ?_
    rintro e V' ⟨rfl, hb1⟩
    have hbX : Below X.heap.size X V' := bt hb hb1
    exact ⟨rfl, hbX, HK.out V' hbX⟩
  have HL2 : Hid (∀ V, Below X.heap.size X V → Calls Tryz.prog 82 #[.slice (some ⟨g2, 0, none⟩) (ys.length + 3) c2, .slice b ys.length cb] V fun e V' => e = .returned (.bool true) ∧ Hid (Below X.heap.size X V') ∧ (V'.cell? ⟨w.heap.size, 0, none⟩ = some (.bool n) ∧ V'.cell? ⟨w.heap.size, 1, none⟩ = some (.slice (some ⟨g1, 0, none⟩) xs.length c1) ∧ V'.cell? ⟨w.heap.size, 2, none⟩ = some (.slice (some ⟨g2, 0, none⟩) ys.length c2) ∧ V'.cell? ⟨w.heap.size + 1, 0, none⟩ = some (.bool n) ∧ V'.cell? ⟨w.heap.size + 1, 1, none⟩ = some (.slice a xs.length ca) ∧ V'.cell? ⟨w.heap.size + 1, 2, none⟩ = some (.slice b ys.length cb))) := fun V hb => by
    have e := keptWords_sl _ _ (ys ++ marks 3) ys V (HO.out.2.later (bt HB.out hb)) (HS.out.2.later (bt HB.out hb)) (by omega) ly
    rw [decide_eq_true rfl] at e
    refine Calls.mono e ?_
    rintro e V' ⟨rfl, hb1⟩
    have hbX : Below X.heap.size X V' := bt hb hb1
    exact ⟨rfl, hbX, HK.out V' hbX⟩
  clear HA HZ wf1 wf2 lf1 lf2 HO HS
  go_region_held3 (fun V : World => (V.cell? ⟨w.heap.size, 0, none⟩ = some (.bool n) ∧ V.cell? ⟨w.heap.size, 1, none⟩ = some (.slice (some ⟨g1, 0, none⟩) xs.length c1) ∧ V.cell? ⟨w.heap.size, 2, none⟩ = some (.slice (some ⟨g2, 0, none⟩) ys.length c2) ∧ V.cell? ⟨w.heap.size + 1, 0, none⟩ = some (.bool n) ∧ V.cell? ⟨w.heap.size + 1, 1, none⟩ = some (.slice a xs.length ca) ∧ V.cell? ⟨w.heap.size + 1, 2, none⟩ = some (.slice b ys.length cb))) (first | exact hs2 | exact hs1 | exact hs0 | exact HK.out _ (Below.drew HE1.out))
    (first
      | (go_at_call 82; with_reducible refine Calls.mono (HL2.out _ (by first | exact HE1.out | exact Below.drew HE1.out)) ?_; rintro e w2 ⟨rfl, HE2, hs2⟩)
      | (go_at_call 82; with_reducible refine Calls.mono (HL1.out _ (Below.drew (Below.refl _ X))) ?_; rintro e w1 ⟨rfl, HE1, hs1⟩))
  all_goals
    have HBN := hid (bt HB.out HE2.out)
    clear HK HL1 HL2 HE1 HE2 HB hs0 hs1 hs2
    go_wp2_with fail
    go_ret
    exact ⟨rfl, HBN.out⟩
end Go.Proofs.YtldeiapikkebgaaGreatDoor

/- The document's own sum of natural numbers: slackwaterref01.Plus: of every two lists that can be read. -/
namespace Go.Proofs.YtldeiapikkebgaaGreatDoor
open Go.RowKit
set_option linter.unusedVariables false

def Ref1 (w : World) (t : Int) (x : Ending) (w' : World) : Prop := ∃ v zs, x = .returned v ∧ w'.ownsRow w.heap.size 94 1 v zs.length (zs.map (Value.int .u32)) ∧ Wd zs ∧ Trimmed zs ∧ val zs = t ∧ Below w.heap.size w w'
end Go.Proofs.YtldeiapikkebgaaGreatDoor

/- The document's own difference and product of natural numbers: slackwaterref01.Less, Times: of every two lists that can be read. -/
namespace Go.Proofs.YtldeiapikkebgaaGreatDoor
open Go.RowKit
set_option linter.unusedVariables false

theorem bdw {B : Nat} {a w : World} (h : Below B a w) (n : Nat) : Below B a (w.drewN n) := h.trans ⟨rfl, rfl, rfl, Nat.le_refl _, fun _ _ => rfl⟩
theorem less_step (xs ys us : List Int) (k : Nat) (cc z c' : Int) (hk : k < us.length) (ht : z - c' * 4294967296 = xs[k]?.getD 0 - (ys[k]?.getD 0 + cc)) (h : valTo us k - cc * 4294967296 ^ k = valTo xs k - valTo ys k) :
    valTo (us.set k z) (k + 1) - c' * 4294967296 ^ (k + 1) = valTo xs (k + 1) - valTo ys (k + 1) := by
  rw [valTo_set us k z hk, valTo_succ, valTo_succ, pw_succ]
  generalize (4294967296 : Int) ^ k = P at *
  generalize xs[k]?.getD 0 = x at *
  generalize ys[k]?.getD 0 = y at *
  grind
theorem less_end {us : List Int} (hw : Wd us) (n : Nat) (c V : Int) (hl : us.length = n) (h0 : 0 ≤ c) (hV : 0 ≤ V) (h : valTo us n - c * 4294967296 ^ n = V) : val us = V := by
  have b := valTo_bounds hw n
  have hp := pw_pos n
  have hc : c = 0 := by
    by_cases z : c = 0
    · exact z
    · have e1 : 1 * 4294967296 ^ n ≤ c * 4294967296 ^ n := Int.mul_le_mul_of_nonneg_right (by omega) (by omega)
      omega
  rw [hc] at h
  rw [← valTo_stable us n (by omega)]
  omega
theorem word_q {a : Option Addr} {n cap : Nat} {zs : List Int} {B : Nat} {wr : World} (k : Nat) (h : Reads wr B a n cap zs) (hn : n ≤ 281474976710656) (j : Nat) :
    Calls Tryz.prog 169 #[.slice a n cap, .int .i64 (k : Int)] (wr.drewN j) fun e w' => e = .returned (.int .u32 (zs[k]?.getD 0)) ∧ w' = wr.drewN j := by
  have e := word_any a n cap zs B (k : Int) (wr.drewN j) (h.later (bdw (Below.refl _ _) j) (Nat.le_refl _)) hn (by omega)
  rw [Int.toNat_natCast] at e
  exact Calls.mono e (fun _ _ h => ⟨h.1, h.2.symm⟩)

set_option maxHeartbeats 3200000 in
set_option maxRecDepth 100000 in
theorem refLess_any (a : Option Addr) (n cap : Nat) (xs : List Int) (b : Option Addr) (m cap' : Nat) (ys : List Int) (w : World) (h : Reads w w.heap.size a n cap xs) (g : Reads w w.heap.size b m cap' ys) (hn : n ≤ 549755813888) (hm : m ≤ 549755813888) (hle : val ys ≤ val xs) :
    Calls Tryz.prog 181 #[.slice a n cap, .slice b m cap'] w (Ref1 w (val xs - val ys)) := by
  obtain ⟨i0, hi, hz0, hz1, hz2⟩ := info_parts Tryz.infoW
  have HY := hid g
  have WX := hid (And.intro h.2.1 g.2.1)
  have hm' := (by omega : m ≤ 281474976710656)
  have HLE := hid hle
  have hlx := h.1
  have HYV : Hid (valTo ys n = val ys) := by
    show _ = _
    have v1 := val_lt h.2.1
    rw [hlx] at v1
    have hs : sz ys ≤ n := by
      have := len_of_lt g.2.1.trimmed (Trimmed.trimmed ys) (L := n) (by rw [val_trimmed]; omega)
      rwa [length_trimmed] at this
    exact valTo_sz ys n hs
  have HXV : Hid (valTo xs n = val xs) := valTo_stable xs n (by omega)
  have cells : ∀ k, k < n → ∃ b1 o1, a = some ⟨b1, o1, none⟩ ∧ b1 < w.heap.size ∧ w.cell? ⟨b1, o1 + k, none⟩ = some (.int .u32 (xs[k]?.getD 0)) := fun k hk => by
    rcases h.2.2.1 with h0 | ⟨b1, o1, e1, l1, c1⟩
    · omega
    · exact ⟨b1, o1, e1, l1, c1 k hk⟩
  have HCS := hid cells
  have hcap := h.2.2.2.1
  clear h g hle hlx cells
  go_enter Tryz.func181, Tryz.ntmps181
  go_wp2_with (at_make; refine wpList_make_full _ rfl _ _ 24 rfl w.heap.size 94 i0 (.int .u32 0) 1 Tryz.underlying24 hi hz0 hz1 _ _ _ _ n rfl rfl (by omega) (by omega) (by rw [hz2]; omega) (by unfold maxLen; omega) (Nat.le_refl _) ?_)
  intro w1 hown hgrow
  have hbel : Below w.heap.size w w1 := (Below.refl _ _).grown hgrow (Nat.le_refl _) (fun k hk => by simp at hk)
  have HO := hid (OwnW.made hown)
  clear hown hgrow
  go_wp2_with fail
  go_loopw [6, 7] (fun c t wr => ∃ (k : Nat) (cc : Int) (us : List Int), k ≤ n ∧ t = .int .i64 k ∧ c = .int .u64 cc ∧ 0 ≤ cc ∧ cc ≤ 1 ∧ Wd us ∧ Hid (valTo us k - cc * 4294967296 ^ k = valTo xs k - valTo ys k) ∧ OwnW wr w.heap.size w.heap.size n us ∧ Below w.heap.size w wr) (fun _ t _ => n - (intOf t).toNat)
  case atStart => exact ⟨0, 0, _, by omega, rfl, rfl, by omega, by omega, Wd.replicate _, show _ = _ by simp [valTo], HO.out, hbel⟩
  case round =>
    obtain ⟨k, cc, us, hk, rfl, rfl, c0, c1, hwu, HV, ho, hb⟩ := hrel
    by_cases hlt : k < n
    · obtain ⟨b1, o1, rfl, l1, cx⟩ := HCS.out k hlt
      have x1 : wr.cell? ⟨b1, o1 + k, none⟩ = some (.int .u32 (xs[k]?.getD 0)) := (hb.cell (p := ⟨b1, o1 + k, none⟩) l1).trans cx
      have y1 := ho.cell k (by omega)
      have f1 := ho.free k
      have bx := WX.out.1.at k
      have by' := WX.out.2.at k
      have hlu := ho.len
      have HW2 := hid (word_q k (HY.out.later hb (Nat.le_refl _)) hm')
      have HST := hid (fun z c' => less_step xs ys us k cc z c' (by omega))
      have HOB : Hid (∀ j Z, OwnW ((wr.drewN j).setCell ⟨w.heap.size, k, none⟩ (.int .u32 Z)) w.heap.size w.heap.size n (us.set k Z) ∧ Below w.heap.size w ((wr.drewN j).setCell ⟨w.heap.size, k, none⟩ (.int .u32 Z))) := fun j Z =>
        ⟨OwnW.set (show OwnW (wr.drewN j) _ _ _ _ from ho) k Z, (bdw hb j).setCell (p := ⟨w.heap.size, k, none⟩) (Nat.le_refl _) _⟩
      obtain ⟨x, hx⟩ : ∃ x, xs[k]?.getD 0 = x := ⟨_, rfl⟩
      obtain ⟨y, hy⟩ : ∃ y, ys[k]?.getD 0 = y := ⟨_, rfl⟩
      rw [hx] at x1 bx HST
      rw [hy] at by' HW2 HST
      clear hlu ho hb hx hy cx
      by_cases hxy : x < y + cc
      · go_wp2_with fail
        go_quiet ((go_at_call 169; exact Calls.quiet_of_same (HW2.out _)))
        go_wp2_with fail
        go_roundw
        case rel => exact ⟨k + 1, 1, us.set k (x + 4294967296 - (y + cc)), by omega, by go_num, by go_num, by omega, by omega, hwu.set _ (by omega), HST.out _ _ (by omega) HV.out, (HOB.out _ _).1, (HOB.out _ _).2⟩
        case measure => simp [intOf]; omega
      · go_wp2_with fail
        go_quiet ((go_at_call 169; exact Calls.quiet_of_same (HW2.out _)))
        go_wp2_with fail
        go_roundw
        case rel => exact ⟨k + 1, 0, us.set k (x - (y + cc)), by omega, by go_num, by go_num, by omega, by omega, hwu.set _ (by omega), HST.out _ _ (by omega) HV.out, (HOB.out _ _).1, (HOB.out _ _).2⟩
        case measure => simp [intOf]; omega
    · obtain rfl : k = n := by omega
      have hlu := ho.len
      have HF : Hid (val us = val xs - val ys) := less_end hwu k cc _ hlu c0 (by have := HLE.out; omega) (by rw [← HXV.out, ← HYV.out]; exact HV.out)
      have HR := hid (refTrim_sl (.slice (some ⟨w.heap.size, 0, none⟩) us.length us.length) us wr (Sl.own (owns_len (show wr.ownsRow w.heap.size 94 1 (.slice (some ⟨w.heap.size, 0, none⟩) us.length us.length) us.length (us.map (Value.int .u32)) by rw [hlu]; exact ho)) hwu) (by omega))
      rw [hlu] at HR
      clear ho HV
      go_wp2_with fail
      refine Calls.mono HR.out ?_
      rintro e w3 ⟨v3, rfl, o3, hb3⟩
      have HO3 := hid (owns_base (owns_len o3) hb.size)
      have hbF := bt hb hb3
      clear o3 hb3
      go_wp2_with fail
      go_ret
      exact ⟨v3, _, rfl, HO3.out, hwu.trimmed, Trimmed.trimmed _, by rw [val_trimmed]; exact HF.out, hbF⟩
end Go.Proofs.YtldeiapikkebgaaGreatDoor

/- The document's own product of natural numbers: slackwaterref01.Times: of every two lists that can be read. -/
namespace Go.Proofs.YtldeiapikkebgaaGreatDoor
open Go.RowKit
set_option linter.unusedVariables false

theorem Reads.cells {w : World} {B : Nat} {a : Option Addr} {n cap : Nat} {zs : List Int} (h : Reads w B a n cap zs) : ∀ k, k < n → ∃ b1 o1, a = some ⟨b1, o1, none⟩ ∧ b1 < B ∧ w.cell? ⟨b1, o1 + k, none⟩ = some (.int .u32 (zs[k]?.getD 0)) := fun k hk => by
  rcases h.2.2.1 with h0 | ⟨b1, o1, e1, l1, c1⟩
  · omega
  · exact ⟨b1, o1, e1, l1, c1 k hk⟩
theorem replicate_zero (n j : Nat) : (List.replicate n (0 : Int))[j]?.getD 0 = 0 := by rw [List.getElem?_replicate]; split <;> rfl
theorem row_end (xs zs us ys : List Int) (k m : Nat) (c : Int) (hl : k + m < us.length) (hku : ∀ j, j < k ∨ k + m ≤ j → us[j]?.getD 0 = ys[j]?.getD 0) (hvu : segTo us k m + c * 4294967296 ^ m = segTo ys k m + xs[k]?.getD 0 * val zs) (hv : valTo ys (k + m) = valTo xs k * val zs) :
    valTo (us.set (k + m) c) (k + 1 + m) = valTo xs (k + 1) * val zs := by
  rw [show k + 1 + m = k + m + 1 by omega, valTo_set us (k + m) c (by omega), valTo_seg us k m, valTo_congr us ys k (fun j hj => hku j (by omega)), valTo_succ, Int.add_mul, ← hv, valTo_seg ys k m]
  have e1 : (4294967296 : Int) ^ (k + m) = 4294967296 ^ m * 4294967296 ^ k := by rw [Nat.add_comm, Int.pow_add]
  rw [e1, ← Int.mul_assoc, Int.add_assoc, ← Int.add_mul, hvu, Int.add_mul, ← Int.add_assoc]
  congr 1
  rw [Int.mul_assoc, Int.mul_comm (val zs), ← Int.mul_assoc]

set_option maxHeartbeats 6400000 in
set_option maxRecDepth 100000 in
theorem refTimes_any (a : Option Addr) (n cap : Nat) (xs : List Int) (b : Option Addr) (m cap' : Nat) (ys : List Int) (w : World) (h : Reads w w.heap.size a n cap xs) (g : Reads w w.heap.size b m cap' ys) (hn : n ≤ 274877906944) (hm : m ≤ 274877906944) :
    Calls Tryz.prog 180 #[.slice a n cap, .slice b m cap'] w (Ref1 w (val xs * val ys)) := by
  obtain ⟨i0, hi, hz0, hz1, hz2⟩ := info_parts Tryz.infoW
  have WX := hid (And.intro h.2.1 g.2.1)
  have HL := hid (And.intro h.1 g.1)
  have HCX := hid h.cells
  have HCY := hid g.cells
  have hcap := h.2.2.2.1
  have hcap' := g.2.2.2.1
  clear h g
  go_enter Tryz.func180, Tryz.ntmps180
  go_wp2_with (at_make; refine wpList_make_full _ rfl _ _ 24 rfl w.heap.size 94 i0 (.int .u32 0) 1 Tryz.underlying24 hi hz0 hz1 _ _ _ _ (n + m) rfl rfl (by omega) (by omega) (by rw [hz2]; omega) (by unfold maxLen; omega) (Nat.le_refl _) ?_)
  intro w1 hown hgrow
  have hbel : Below w.heap.size w w1 := (Below.refl _ _).grown hgrow (Nat.le_refl _) (fun k hk => by simp at hk)
  have HO := hid (OwnW.made hown)
  clear hown hgrow
  go_wp2_with fail
  go_loopw [6] (fun t wr => ∃ (k : Nat) (us : List Int), k ≤ n ∧ t = .int .i64 k ∧ Wd us ∧ Hid (valTo us (k + m) = valTo xs k * val ys) ∧ Hid (∀ j, k + m ≤ j → us[j]?.getD 0 = 0) ∧ OwnW wr w.heap.size w.heap.size (n + m) us ∧ Below w.heap.size w wr) (fun t _ => n - (intOf t).toNat)
  case atStart =>
    refine ⟨0, _, by omega, rfl, Wd.replicate _, ?_, fun j _ => replicate_zero _ j, HO.out, hbel⟩
    show _ = _
    rw [valTo_congr _ [] _ (fun j _ => by rw [replicate_zero]; rfl), valTo_stable [] _ (by simp), val_nil]
    simp [valTo]
  case round =>
    obtain ⟨k, us, hk, rfl, hwu, HV, HK, ho, hb⟩ := hrel
    by_cases hlt : k < n
    · obtain ⟨b1, o1, rfl, l1, cx⟩ := HCX.out k hlt
      have bx := WX.out.1.at k
      have HRE := hid (fun c vs => row_end xs ys vs us k m c)
      obtain ⟨x, hx⟩ : ∃ x, xs[k]?.getD 0 = x := ⟨_, rfl⟩
      rw [hx] at cx bx HRE
      have HCELL := hid cx
      have HO1 := hid ho
      have HB1 := hid hb
      clear hx cx ho hb
      go_wp2_with fail
      go_loopw [7, 8] (fun c t wr2 => ∃ (q : Nat) (cc : Int) (vs : List Int), q ≤ m ∧ t = .int .i64 q ∧ c = .int .u64 cc ∧ 0 ≤ cc ∧ cc ≤ 4294967295 ∧ Wd vs ∧ Hid (segTo vs k q + cc * 4294967296 ^ q = segTo us k q + x * valTo ys q) ∧ Hid (∀ j, j < k ∨ k + q ≤ j → vs[j]?.getD 0 = us[j]?.getD 0) ∧ OwnW wr2 w.heap.size w.heap.size (n + m) vs ∧ Below w.heap.size w wr2) (fun _ t _ => m - (intOf t).toNat)
      case atStart => exact ⟨0, 0, us, by omega, rfl, rfl, by omega, by omega, hwu, show _ = _ by simp [segTo, valTo], fun _ _ => rfl, HO1.out, HB1.out⟩
      case round =>
        obtain ⟨q, cc, vs, hq, rfl, rfl, c0, c1, hwv, HV2, HK2, ho, hb⟩ := hrel
        by_cases hlt2 : q < m
        · obtain ⟨b2, o2, rfl, l2, cy⟩ := HCY.out q hlt2
          have x1 : wr.cell? ⟨b1, o1 + k, none⟩ = some (.int .u32 x) := (hb.cell (p := ⟨b1, o1 + k, none⟩) l1).trans HCELL.out
          have x2 : wr.cell? ⟨b2, o2 + q, none⟩ = some (.int .u32 (ys[q]?.getD 0)) := (hb.cell (p := ⟨b2, o2 + q, none⟩) l2).trans cy
          have y1 := ho.cell (k + q) (by omega)
          have f1 := ho.free (k + q)
          have b2' := WX.out.2.at q
          have b3 := hwv.at (k + q)
          have hlu := ho.len
          have bp := prod_word x (ys[q]?.getD 0) bx b2'
          obtain ⟨t, ht⟩ : ∃ t, cc + (x * ys[q]?.getD 0 + vs[k + q]?.getD 0) = t := ⟨_, rfl⟩
          have HVN : Hid (segTo (vs.set (k + q) (t % 4294967296)) k (q + 1) + t / 4294967296 * 4294967296 ^ (q + 1) = segTo us k (q + 1) + x * valTo ys (q + 1)) := by
            have e := mul_step ys vs k q 0 x cc t (by omega) ht _ HV2.out
            rw [HK2.out (k + q) (by omega)] at e
            exact e
          have HKN : Hid (∀ j, j < k ∨ k + (q + 1) ≤ j → (vs.set (k + q) (t % 4294967296))[j]?.getD 0 = us[j]?.getD 0) := fun j hj => by
            rw [List.getElem?_set, if_neg (by omega)]
            exact HK2.out j (by omega)
          have HOB : Hid (∀ j Z, OwnW ((wr.drewN j).setCell ⟨w.heap.size, k + q, none⟩ (.int .u32 Z)) w.heap.size w.heap.size (n + m) (vs.set (k + q) Z) ∧ Below w.heap.size w ((wr.drewN j).setCell ⟨w.heap.size, k + q, none⟩ (.int .u32 Z))) := fun j Z =>
            ⟨OwnW.set (show OwnW (wr.drewN j) _ _ _ _ from ho) (k + q) Z, (bdw hb j).setCell (p := ⟨w.heap.size, k + q, none⟩) (Nat.le_refl _) _⟩
          obtain ⟨y, hy⟩ : ∃ y, ys[q]?.getD 0 = y := ⟨_, rfl⟩
          obtain ⟨u, hu⟩ : ∃ u, vs[k + q]?.getD 0 = u := ⟨_, rfl⟩
          rw [hy] at x2 b2' bp ht
          rw [hu] at y1 b3 ht
          obtain ⟨p, hp⟩ : ∃ p, x * y = p := ⟨_, rfl⟩
          rw [hp] at bp ht
          have hT : p + u + cc = t := by omega
          have T0 : 0 ≤ t ∧ t ≤ 18446744073709551615 := by omega
          clear hlu ho hb HV2 HK2 ht hy hu cy
          go_wp2_with fail
          go_quiet (fail)
          go_wp2_with fail
          go_roundw
          case rel => exact ⟨q + 1, t / 4294967296, vs.set (k + q) (t % 4294967296), by omega, by go_num, by go_num, by omega, by omega, hwv.set _ (by omega), HVN, HKN, (HOB.out _ _).1, (HOB.out _ _).2⟩
          case measure => simp [intOf]; omega
        · obtain rfl : q = m := by omega
          have hlu := ho.len
          have y1 := ho.cell (k + q) (by omega)
          have f1 := ho.free (k + q)
          have HVN := hid (HRE.out cc vs (by omega) HK2.out (by have e := HV2.out; rw [valTo_stable ys q (by have := HL.out.2; omega)] at e; exact e) HV.out)
          have HKN : Hid (∀ j, k + 1 + q ≤ j → (vs.set (k + q) cc)[j]?.getD 0 = 0) := fun j hj => by
            rw [List.getElem?_set, if_neg (by omega), HK2.out j (by omega)]
            exact HK.out j (by omega)
          have HOB := hid (And.intro (ho.set (k + q) cc) (hb.setCell (p := ⟨w.heap.size, k + q, none⟩) (Nat.le_refl _) (.int .u32 cc)))
          clear hlu ho hb HV2 HK2 HV HK HRE
          go_wp2_with fail
          go_roundw
          case rel => exact ⟨k + 1, vs.set (k + q) cc, by omega, by go_num, hwv.set _ ⟨c0, c1⟩, HVN, HKN, HOB.out.1, HOB.out.2⟩
          case measure => simp [intOf]; omega
    · obtain rfl : k = n := by omega
      have hlu := ho.len
      have HF : Hid (val us = val xs * val ys) := by
        show _ = _
        have e := HV.out
        rw [valTo_stable us _ (by omega), valTo_stable xs k (by have := HL.out.1; omega)] at e
        exact e
      have HR := hid (refTrim_sl (.slice (some ⟨w.heap.size, 0, none⟩) us.length us.length) us wr (Sl.own (owns_len (show wr.ownsRow w.heap.size 94 1 (.slice (some ⟨w.heap.size, 0, none⟩) us.length us.length) us.length (us.map (Value.int .u32)) by rw [hlu]; exact ho)) hwu) (by omega))
      rw [hlu] at HR
      clear ho HV HK
      go_wp2_with fail
      refine Calls.mono HR.out ?_
      rintro e w3 ⟨v3, rfl, o3, hb3⟩
      have HO3 := hid (owns_base (owns_len o3) hb.size)
      have hbF := bt hb hb3
      clear o3 hb3
      go_wp2_with fail
      go_ret
      exact ⟨v3, _, rfl, HO3.out, hwu.trimmed, Trimmed.trimmed _, by rw [val_trimmed]; exact HF.out, hbF⟩
end Go.Proofs.YtldeiapikkebgaaGreatDoor

/- The document's own division by one word and its shifts: slackwaterref01.small, Up, Down: of every list that can be read. -/
namespace Go.Proofs.YtldeiapikkebgaaGreatDoor
open Go.RowKit
set_option linter.unusedVariables false

set_option maxHeartbeats 3200000 in
set_option maxRecDepth 100000 in
theorem refSmall_any (a : Option Addr) (n cap : Nat) (xs : List Int) (x : Int) (w : World) (h : Reads w w.heap.size a n cap xs) (hn : n ≤ 549755813888) (hx : 1 ≤ x ∧ x ≤ 4294967295) :
    Calls Tryz.prog 98 #[.slice a n cap, .int .u32 x] w fun e w' => ∃ v zs r, e = .returned (.tuple #[v, .int .u32 r]) ∧ w'.ownsRow w.heap.size 94 1 v zs.length (zs.map (Value.int .u32)) ∧ Wd zs ∧ Trimmed zs ∧ val xs = val zs * x + r ∧ 0 ≤ r ∧ r < x ∧ Below w.heap.size w w' := by
  obtain ⟨i0, hi, hz0, hz1, hz2⟩ := info_parts Tryz.infoW
  have hx1 := hx.1
  have hx2 := hx.2
  have WX := hid h.2.1
  have HL := hid h.1
  have HCX := hid h.cells
  have hcap := h.2.2.2.1
  clear h hx
  go_enter Tryz.func98, Tryz.ntmps98
  go_wp2_with (at_make; refine wpList_make_full _ rfl _ _ 24 rfl w.heap.size 94 i0 (.int .u32 0) 1 Tryz.underlying24 hi hz0 hz1 _ _ _ _ n rfl rfl (by omega) (by omega) (by rw [hz2]; omega) (by unfold maxLen; omega) (Nat.le_refl _) ?_)
  intro w1 hown hgrow
  have hbel : Below w.heap.size w w1 := (Below.refl _ _).grown hgrow (Nat.le_refl _) (fun k hk => by simp at hk)
  have HO := hid (OwnW.made hown)
  clear hown hgrow
  go_wp2_with fail
  go_loopw [7, 8] (fun c t wr => ∃ (k : Nat) (r : Int) (us : List Int), k ≤ n ∧ t = .int .i64 ((k : Int) - 1) ∧ c = .int .u64 r ∧ 0 ≤ r ∧ r < x ∧ Wd us ∧ Hid (segTo xs k (n - k) = segTo us k (n - k) * x + r) ∧ OwnW wr w.heap.size w.heap.size n us ∧ Below w.heap.size w wr) (fun _ t _ => (intOf t + 1).toNat)
  case atStart => exact ⟨n, 0, _, by omega, rfl, rfl, by omega, by omega, Wd.replicate _, show _ = _ by rw [Nat.sub_self]; simp [segTo], HO.out, hbel⟩
  case round =>
    obtain ⟨k, r, us, hk, rfl, rfl, r0, r1, hwu, HV, ho, hb⟩ := hrel
    rcases k with _ | k
    · have hlu := ho.len
      have HF : Hid (val xs = val us * x + r) := by
        show _ = _
        have e := HV.out
        rw [segTo_zero, segTo_zero, valTo_stable xs _ (by have := HL.out; omega), valTo_stable us _ (by omega)] at e
        exact e
      have HR := hid (refTrim_sl (.slice (some ⟨w.heap.size, 0, none⟩) us.length us.length) us wr (Sl.own (owns_len (show wr.ownsRow w.heap.size 94 1 (.slice (some ⟨w.heap.size, 0, none⟩) us.length us.length) us.length (us.map (Value.int .u32)) by rw [hlu]; exact ho)) hwu) (by omega))
      rw [hlu] at HR
      clear ho HV
      go_wp2_with fail
      refine Calls.mono HR.out ?_
      rintro e w3 ⟨v3, rfl, o3, hb3⟩
      have HO3 := hid (owns_base (owns_len o3) hb.size)
      have hbF := bt hb hb3
      clear o3 hb3
      go_wp2_with fail
      go_ret2
      exact ⟨v3, _, r, rfl, HO3.out, hwu.trimmed, Trimmed.trimmed _, by rw [val_trimmed]; exact HF.out, r0, r1, hbF⟩
    · have ek : (((k + 1 : Nat) : Int) - 1) = (k : Int) := by omega
      rw [ek]
      clear ek
      obtain ⟨b1, o1, rfl, l1, cx⟩ := HCX.out k (by omega)
      have x1 : wr.cell? ⟨b1, o1 + k, none⟩ = some (.int .u32 (xs[k]?.getD 0)) := (hb.cell (p := ⟨b1, o1 + k, none⟩) l1).trans cx
      have y1 := ho.cell k (by omega)
      have f1 := ho.free k
      have bu := WX.out.at k
      have hlu := ho.len
      obtain ⟨t, ht⟩ : ∃ t, t = xs[k]?.getD 0 + r * 4294967296 := ⟨_, rfl⟩
      obtain ⟨t0, q0, q1, m0, m1⟩ := div_word x r (xs[k]?.getD 0) t hx1 r0 r1 bu ht
      have t2 : t ≤ 18446744073709551615 := by omega
      have HV' := hid (div_step xs us n k x r t (by omega) hlu.symm ht HV.out)
      have HO' := hid (ho.set k (t / x))
      have HB' := hid (hb.setCell (p := ⟨w.heap.size, k, none⟩) (Nat.le_refl _) (.int .u32 (t / x)))
      have hT : r * 4294967296 + xs[k]?.getD 0 = t := by omega
      have hxz : ¬ x = 0 := by omega
      clear hlu ho hb HV ht cx
      go_wp2_with fail
      go_roundw
      case rel => exact ⟨k, t % x, us.set k (t / x), by omega, rfl, rfl, m0, m1, hwu.set k ⟨q0, q1⟩, HV', HO'.out, HB'.out⟩
      case measure => simp [intOf]

theorem up_word (x : Int) (t : Nat) (ht : t ≤ 31) (x0 : 0 ≤ x) (x1 : x ≤ 4294967295) : x * 2 ^ t % 4294967296 ≤ 4294967296 - 2 ^ t ∧ 0 ≤ x * 2 ^ t / 4294967296 ∧ x * 2 ^ t / 4294967296 < 2 ^ t := by
  have hp := two_pos t
  have hs := two_split t (by omega)
  have hr := two_pos (32 - t)
  refine ⟨?_, Int.ediv_nonneg (Int.mul_nonneg x0 (by omega)) (by omega), Int.ediv_lt_of_lt_mul (by omega) ?_⟩
  · have e : x * 2 ^ t % 4294967296 = x % 2 ^ (32 - t) * 2 ^ t := by
      rw [hs, Int.mul_comm x, Int.mul_emod_mul_of_pos _ _ hp, Int.mul_comm]
    rw [e]
    have h1 := Int.emod_lt_of_pos x hr
    have h2 : (x % 2 ^ (32 - t) + 1) * 2 ^ t ≤ 2 ^ (32 - t) * 2 ^ t := Int.mul_le_mul_of_nonneg_right (by omega) (by omega)
    rw [Int.mul_comm (2 ^ (32 - t)), ← hs] at h2
    rw [Int.add_mul] at h2
    omega
  · have h2 : x * 2 ^ t < 4294967296 * 2 ^ t := Int.mul_lt_mul_of_pos_right (by omega) hp
    rw [Int.mul_comm (2 ^ t)]
    exact h2
theorem up_step (xs us : List Int) (W k : Nat) (Q c lo hi p : Int) (hk : W + k + 1 < us.length) (hc : us[W + k]?.getD 0 = c) (hp : xs[k]?.getD 0 * Q = p) (hl : p = lo + hi * 4294967296) (h : segTo us W (k + 1) = valTo xs k * Q) :
    segTo ((us.set (W + k) (c + lo)).set (W + k + 1) hi) W (k + 1 + 1) = valTo xs (k + 1) * Q := by
  rw [show W + k + 1 = W + (k + 1) by omega, segTo_set _ W (k + 1) hi (by rw [List.length_set]; omega), segTo_set us W k _ (by omega), valTo_succ, pw_succ]
  rw [segTo_succ, hc] at h
  generalize (4294967296 : Int) ^ k = P at *
  generalize segTo us W k = S at *
  generalize valTo xs k = V at *
  generalize xs[k]?.getD 0 = X at *
  grind

set_option maxHeartbeats 3200000 in
set_option maxRecDepth 100000 in
theorem refUp_any (a : Option Addr) (n cap : Nat) (xs : List Int) (W t : Nat) (M : Int) (w : World) (h : Reads w w.heap.size a n cap xs) (hn : n ≤ 274877906944) (hn0 : 0 < n) (hW : W ≤ 274877906944) (ht : t ≤ 31) (hM : M = 32 * W + t) :
    Calls Tryz.prog 154 #[.slice a n cap, .int .i64 M] w (Ref1 w (val xs * 2 ^ t * 4294967296 ^ W)) := by
  obtain ⟨i0, hi, hz0, hz1, hz2⟩ := info_parts Tryz.infoW
  have WX := hid h.2.1
  have HL := hid h.1
  have HCX := hid h.cells
  have hcap := h.2.2.2.1
  have hq : M / 32 = (W : Int) := by omega
  have hr : M % 32 = (t : Int) := by omega
  have hM0 : 0 ≤ M := by omega
  have hM1 : M ≤ 9000000000000 := by omega
  have hnz : ((n : Int) == 0) = false := by simp; omega
  clear h hM
  go_enter Tryz.func154, Tryz.ntmps154
  go_wp2_with (at_make; refine wpList_make_full _ rfl _ _ 24 rfl w.heap.size 94 i0 (.int .u32 0) 1 Tryz.underlying24 hi hz0 hz1 _ _ _ _ (n + W + 1) rfl rfl (by omega) (by omega) (by rw [hz2]; omega) (by unfold maxLen; omega) (Nat.le_refl _) ?_)
  intro w1 hown hgrow
  have hbel : Below w.heap.size w w1 := (Below.refl _ _).grown hgrow (Nat.le_refl _) (fun k hk => by simp at hk)
  have HO := hid (OwnW.made hown)
  clear hown hgrow
  go_wp2_with fail
  go_loopw [6] (fun z wr => ∃ (k : Nat) (us : List Int), k ≤ n ∧ z = .int .i64 k ∧ Wd us ∧ Hid (us[W + k]?.getD 0 < 2 ^ t) ∧ Hid (segTo us W (k + 1) = valTo xs k * 2 ^ t) ∧ Hid (∀ j, j < W ∨ W + k + 1 ≤ j → us[j]?.getD 0 = 0) ∧ OwnW wr w.heap.size w.heap.size (n + W + 1) us ∧ Below w.heap.size w wr) (fun z _ => n - (intOf z).toNat)
  case atStart =>
    refine ⟨0, _, by omega, rfl, Wd.replicate _, ?_, ?_, fun j _ => replicate_zero _ j, HO.out, hbel⟩
    · show _ < _
      rw [replicate_zero]; exact two_pos t
    · show _ = _
      rw [segTo_succ, Nat.add_zero, replicate_zero]; simp [segTo, valTo]
  case round =>
    obtain ⟨k, us, hk, rfl, hwu, HC, HV, HK, ho, hb⟩ := hrel
    by_cases hlt : k < n
    · obtain ⟨b1, o1, rfl, l1, cx⟩ := HCX.out k (by omega)
      have x1 : wr.cell? ⟨b1, o1 + k, none⟩ = some (.int .u32 (xs[k]?.getD 0)) := (hb.cell (p := ⟨b1, o1 + k, none⟩) l1).trans cx
      have y1 := ho.cell (W + k) (by omega)
      have f1 := ho.free (W + k)
      have bx := WX.out.at k
      have hlu := ho.len
      have bc := hwu.at (W + k)
      obtain ⟨u1, u2, u3⟩ := up_word _ t ht bx.1 bx.2
      obtain ⟨q0, q1, q2, q3⟩ := shl_word _ t ht bx.1 bx.2
      have c1 := HC.out
      have HST := hid (fun c lo hi p => up_step xs us W k (2 ^ t) c lo hi p (by omega))
      have HOB : Hid (∀ A B, OwnW ((wr.setCell ⟨w.heap.size, W + k, none⟩ (.int .u32 A)).setCell ⟨w.heap.size, W + k + 1, none⟩ (.int .u32 B)) w.heap.size w.heap.size (n + W + 1) ((us.set (W + k) A).set (W + k + 1) B) ∧ Below w.heap.size w ((wr.setCell ⟨w.heap.size, W + k, none⟩ (.int .u32 A)).setCell ⟨w.heap.size, W + k + 1, none⟩ (.int .u32 B))) := fun A B =>
        ⟨(ho.set (W + k) A).set (W + k + 1) B, (hb.setCell (p := ⟨w.heap.size, W + k, none⟩) (Nat.le_refl _) _).setCell (p := ⟨w.heap.size, W + k + 1, none⟩) (Nat.le_refl _) _⟩
      have HF2 : Hid (∀ A, (wr.setCell ⟨w.heap.size, W + k, none⟩ (.int .u32 A)).cell? ⟨w.heap.size, W + k + 1, none⟩ = some (.int .u32 ((us.set (W + k) A)[W + k + 1]?.getD 0)) ∧ (wr.setCell ⟨w.heap.size, W + k, none⟩ (.int .u32 A)).frozen? ⟨w.heap.size, W + k + 1, none⟩ = false) := fun A => ⟨(ho.set (W + k) A).cell (W + k + 1) (by omega), (ho.set (W + k) A).free _⟩
      obtain ⟨X, hX⟩ : ∃ X, xs[k]?.getD 0 = X := ⟨_, rfl⟩
      obtain ⟨c, hc⟩ : ∃ c, us[W + k]?.getD 0 = c := ⟨_, rfl⟩
      rw [hX] at x1 bx HST u1 u2 u3 q0 q1
      rw [hc] at y1 c1 bc HST
      obtain ⟨p, hp⟩ : ∃ p, X * 2 ^ t = p := ⟨_, rfl⟩
      rw [hp] at u1 u2 u3 q0 q1
      obtain ⟨lo, hlo⟩ : ∃ lo, p % 4294967296 = lo := ⟨_, rfl⟩
      obtain ⟨hi', hhi⟩ : ∃ hi', p / 4294967296 = hi' := ⟨_, rfl⟩
      have hpl : p = lo + hi' * 4294967296 := by omega
      have HSV := hid (HST.out c lo hi' p rfl hp hpl HV.out)
      have HOB2 := hid (HOB.out (c + lo) hi')
      obtain ⟨g1, g2⟩ := HF2.out (c + lo)
      have lo0 : 0 ≤ lo := by omega
      rw [hlo] at u1
      rw [hhi] at u2 u3
      have hcl : c + lo ≤ 4294967295 := by omega
      have hi1 : hi' ≤ 4294967295 := by omega
      have HU3 := hid u3
      have p1 : p ≤ 18446744073709551615 := by omega
      have hkW : ((k : Int) + (W : Int)) = ((W + k : Nat) : Int) := by omega
      have hkW1 : (((W + k : Nat) : Int) + 1) = ((W + k + 1 : Nat) : Int) := by omega
      have HKN : Hid (∀ j, j < W ∨ W + (k + 1) + 1 ≤ j → ((us.set (W + k) (c + lo)).set (W + k + 1) hi')[j]?.getD 0 = 0) := fun j hj => by
        rw [List.getElem?_set, if_neg (by omega), List.getElem?_set, if_neg (by omega)]
        exact HK.out j (by omega)
      have HCN : Hid (((us.set (W + k) (c + lo)).set (W + k + 1) hi')[W + (k + 1)]?.getD 0 < 2 ^ t) := by
        show _ < _
        rw [show W + (k + 1) = W + k + 1 by omega, List.getElem?_set, if_pos rfl, if_pos (by rw [List.length_set]; omega)]
        exact HU3.out
      have HWN := hid ((hwu.set (W + k) (show 0 ≤ c + lo ∧ c + lo ≤ 4294967295 by omega)).set (W + k + 1) (show 0 ≤ hi' ∧ hi' ≤ 4294967295 by omega))
      clear hlu ho hb HV HK HC cx hX hc hpl u1 u3 q1 q2 q3 c1 HST HOB HF2
      go_wp2_with fail
      go_roundw
      case rel => exact ⟨k + 1, _, by omega, by go_num, HWN.out, HCN, HSV, HKN, HOB2.out.1, HOB2.out.2⟩
      case measure => simp [intOf]; omega
    · obtain rfl : k = n := by omega
      have hlu := ho.len
      have HF : Hid (val us = val xs * 2 ^ t * 4294967296 ^ W) := by
        show _ = _
        rw [← valTo_stable us (W + (k + 1)) (by omega), valTo_seg us W (k + 1), HV.out, valTo_stable xs k (by have := HL.out; omega), valTo_congr us [] W (fun j hj => by rw [HK.out j (.inl hj)]; rfl), valTo_stable [] _ (by simp), val_nil]
        omega
      have HR := hid (refTrim_sl (.slice (some ⟨w.heap.size, 0, none⟩) us.length us.length) us wr (Sl.own (owns_len (show wr.ownsRow w.heap.size 94 1 (.slice (some ⟨w.heap.size, 0, none⟩) us.length us.length) us.length (us.map (Value.int .u32)) by rw [hlu]; exact ho)) hwu) (by omega))
      rw [hlu] at HR
      clear ho HV HK HC
      go_wp2_with fail
      refine Calls.mono HR.out ?_
      rintro e w3 ⟨v3, rfl, o3, hb3⟩
      have HO3 := hid (owns_base (owns_len o3) hb.size)
      have hbF := bt hb hb3
      clear o3 hb3
      go_wp2_with fail
      go_ret
      exact ⟨v3, _, rfl, HO3.out, hwu.trimmed, Trimmed.trimmed _, by rw [val_trimmed]; exact HF.out, hbF⟩
end Go.Proofs.YtldeiapikkebgaaGreatDoor

/- The document's own shift down: slackwaterref01.Down: of every list that can be read. -/
namespace Go.Proofs.YtldeiapikkebgaaGreatDoor
open Go.RowKit
set_option linter.unusedVariables false

theorem Reads.behind {w : World} {B : Nat} {b o n cap : Nat} {zs : List Int} (h : Reads w B (some ⟨b, o, none⟩) n cap zs) (W : Nat) (hW : W < n) : Reads w B (some ⟨b, o + W, none⟩) (n - W) (cap - W) (zs.drop W) := by
  obtain ⟨h1, h2, h3, h4, h5, h6⟩ := h
  refine ⟨by rw [List.length_drop]; omega, h2.drop W, ?_, by omega, by omega, fun e => by simp at e⟩
  rcases h3 with h3 | ⟨b', o', ha, hlt, hc⟩
  · omega
  · right
    simp only [Option.some.injEq, Addr.mk.injEq] at ha
    obtain ⟨rfl, rfl, _⟩ := ha
    refine ⟨b, o + W, rfl, hlt, fun j hj => ?_⟩
    rw [Nat.add_assoc, hc (W + j) (by omega), List.getElem?_drop]
theorem down_val (xs us : List Int) (W m t : Nat) (wx : Wd xs) (ht : t ≤ 31) (hlen : xs.length = W + m) (hpt : ∀ j, j < m → us[j]?.getD 0 = (xs[W + j]?.getD 0 + xs[W + (j + 1)]?.getD 0 * 4294967296) / 2 ^ t % 4294967296) :
    ∀ d k, k + d = m → segTo us k d = segTo xs (W + k) d / 2 ^ t
  | 0, k, h => by show (0 : Int) = 0 / 2 ^ t; simp
  | d + 1, k, h => by
    have ih := down_val xs us W m t wx ht hlen hpt d (k + 1) (by omega)
    have bx := wx.at (W + k)
    have hw := lower_word (segTo xs (W + (k + 1)) d) (xs[W + k]?.getD 0) (xs[W + (k + 1)]?.getD 0) (2 ^ t) (2 ^ (32 - t)) (segTo_nonneg wx _ _) (by rw [segTo_low wx (W + (k + 1)) d (fun h => by rw [List.getElem?_eq_none (by omega)]; rfl)]) bx.1 bx.2 (two_pos t) (two_split t (by omega))
    rw [segTo_cons, segTo_cons, hpt k (by omega), ih, hw]
    rfl
theorem down_all (xs us : List Int) (W m t : Nat) (wx : Wd xs) (ht : t ≤ 31) (hlen : xs.length = W + m) (hlu : us.length = m) (hpt : ∀ j, j < m → us[j]?.getD 0 = (xs[W + j]?.getD 0 + xs[W + (j + 1)]?.getD 0 * 4294967296) / 2 ^ t % 4294967296) :
    val us = val xs / 4294967296 ^ W / 2 ^ t := by
  have e := down_val xs us W m t wx ht hlen hpt m 0 (by omega)
  rw [segTo_zero, Nat.add_zero, valTo_stable us _ (by omega)] at e
  rw [e, ← valTo_stable xs (W + m) (by omega), valTo_seg xs W m]
  have b := valTo_bounds wx W
  rw [Int.add_mul_ediv_right _ _ (by have := pw_pos W; omega), Int.ediv_eq_zero_of_lt b.1 b.2]
  simp

set_option maxHeartbeats 3200000 in
set_option maxRecDepth 100000 in
theorem refDown_none (a : Option Addr) (n cap : Nat) (W t : Nat) (M : Int) (w : World) (hn : n ≤ 274877906944) (hW : n ≤ W) (hW' : W ≤ 274877906944) (ht : t ≤ 31) (hM : M = 32 * W + t) :
    Calls Tryz.prog 156 #[.slice a n cap, .int .i64 M] w fun e w' => e = .returned (.slice none 0 0) ∧ w = w' := by
  have hq : M / 32 = (W : Int) := by omega
  have hM0 : 0 ≤ M := by omega
  have hM1 : M ≤ 9000000000000 := by omega
  have hle : (n : Int) ≤ (W : Int) := by omega
  clear hM
  go_enter Tryz.func156, Tryz.ntmps156
  go_wp2_with fail
  go_ret
  exact ⟨rfl, rfl⟩

set_option maxHeartbeats 3200000 in
set_option maxRecDepth 100000 in
theorem refDown_any (a : Option Addr) (n cap : Nat) (xs : List Int) (W t : Nat) (M : Int) (w : World) (h : Reads w w.heap.size a n cap xs) (hn : n ≤ 274877906944) (hW : W < n) (ht : t ≤ 31) (hM : M = 32 * W + t) :
    Calls Tryz.prog 156 #[.slice a n cap, .int .i64 M] w (Ref1 w (val xs / 4294967296 ^ W / 2 ^ t)) := by
  obtain ⟨i0, hi, hz0, hz1, hz2⟩ := info_parts Tryz.infoW
  rcases h.2.2.1 with h0 | ⟨b1, o1, rfl, hb1, hc1⟩
  · omega
  obtain ⟨m, hm⟩ : ∃ m, n = W + m := ⟨n - W, by omega⟩
  subst hm
  have WX := hid h.2.1
  have HL := hid h.1
  have HR := h.behind W hW
  have hnm : W + m - W = m := by omega
  rw [hnm] at HR
  have HRB := hid HR
  have HCX := hid hc1
  have hcap := h.2.2.2.1
  have hq : M / 32 = (W : Int) := by omega
  have hr : M % 32 = (t : Int) := by omega
  have hM0 : 0 ≤ M := by omega
  have hM1 : M ≤ 9000000000000 := by omega
  have hlt : ¬ ((W + m : Nat) : Int) ≤ (W : Int) := by omega
  have him : (((W + m : Nat) : Int) - (W : Int)) = (m : Int) := by omega
  have hcz : ¬ cap = W := by omega
  have hm0 : 0 < m := by omega
  clear h hM HR hc1
  go_enter Tryz.func156, Tryz.ntmps156
  go_wp2_with (at_make; refine wpList_make_full _ rfl _ _ 24 rfl w.heap.size 94 i0 (.int .u32 0) 1 Tryz.underlying24 hi hz0 hz1 _ _ _ _ m rfl rfl (by omega) (by omega) (by rw [hz2]; omega) (by unfold maxLen; omega) (Nat.le_refl _) ?_)
  intro w1 hown hgrow
  have hbel : Below w.heap.size w w1 := (Below.refl _ _).grown hgrow (Nat.le_refl _) (fun k hk => by simp at hk)
  have HO := hid (OwnW.made hown)
  clear hown hgrow
  go_wp2_with fail
  go_loopw [7] (fun z wr => ∃ (k : Nat) (us : List Int), k ≤ m ∧ z = .int .i64 k ∧ Wd us ∧ Hid (∀ j, j < k → us[j]?.getD 0 = (xs[W + j]?.getD 0 + xs[W + (j + 1)]?.getD 0 * 4294967296) / 2 ^ t % 4294967296) ∧ OwnW wr w.heap.size w.heap.size m us ∧ Below w.heap.size w wr) (fun z _ => m - (intOf z).toNat)
  case atStart => exact ⟨0, _, by omega, rfl, Wd.replicate _, fun j hj => by omega, HO.out, hbel⟩
  case round =>
    obtain ⟨k, us, hk, rfl, hwu, HV, ho, hb⟩ := hrel
    by_cases hlt2 : k < m
    · have x1 : wr.cell? ⟨b1, o1 + W + k, none⟩ = some (.int .u32 (xs[W + k]?.getD 0)) := by
        have e := (hb.cell (p := ⟨b1, o1 + (W + k), none⟩) hb1).trans (HCX.out (W + k) (by omega))
        rw [Nat.add_assoc]; exact e
      have y1 := ho.cell k (by omega)
      have f1 := ho.free k
      have bx := WX.out.at (W + k)
      have bz := WX.out.at (W + (k + 1))
      have hlu := ho.len
      have HW2 := hid (word_q (k + 1) (HRB.out.later hb (Nat.le_refl _)) (by omega))
      rw [List.getElem?_drop, show ((k + 1 : Nat) : Int) = (k : Int) + 1 by omega] at HW2
      have HOB : Hid (∀ j Z, OwnW ((wr.drewN j).setCell ⟨w.heap.size, k, none⟩ (.int .u32 Z)) w.heap.size w.heap.size m (us.set k Z) ∧ Below w.heap.size w ((wr.drewN j).setCell ⟨w.heap.size, k, none⟩ (.int .u32 Z))) := fun j Z =>
        ⟨OwnW.set (show OwnW (wr.drewN j) _ _ _ _ from ho) k Z, (bdw hb j).setCell (p := ⟨w.heap.size, k, none⟩) (Nat.le_refl _) _⟩
      have HPT : Hid (∀ Z, Z = (xs[W + k]?.getD 0 + xs[W + (k + 1)]?.getD 0 * 4294967296) / 2 ^ t % 4294967296 → ∀ j, j < k + 1 → (us.set k Z)[j]?.getD 0 = (xs[W + j]?.getD 0 + xs[W + (j + 1)]?.getD 0 * 4294967296) / 2 ^ t % 4294967296) := fun Z hZ j hj => by
        rw [List.getElem?_set]
        by_cases e : k = j
        · subst e
          rw [if_pos rfl, if_pos (by omega)]; exact hZ
        · rw [if_neg e]; exact HV.out j (by omega)
      obtain ⟨x, hx⟩ : ∃ x, xs[W + k]?.getD 0 = x := ⟨_, rfl⟩
      obtain ⟨z, hz⟩ : ∃ z, xs[W + (k + 1)]?.getD 0 = z := ⟨_, rfl⟩
      rw [hx] at x1 bx HPT
      rw [hz] at bz HW2 HPT
      obtain ⟨u, hu⟩ : ∃ u, z * 4294967296 + x = u := ⟨_, rfl⟩
      have u0 : 0 ≤ u ∧ u ≤ 18446744073709551615 := by omega
      have hQ := two_pos t
      have q0 : 0 ≤ u / 2 ^ t := Int.ediv_nonneg (by omega) (by omega)
      have q1 : u / 2 ^ t ≤ 18446744073709551615 := by
        have : u / 2 ^ t ≤ u := Int.ediv_le_self _ (by omega)
        omega
      obtain ⟨q, hq'⟩ : ∃ q, u / 2 ^ t = q := ⟨_, rfl⟩
      rw [hq'] at q0 q1
      have HPQ := hid (HPT.out (q % 4294967296) (by rw [← hq', ← hu, Int.add_comm x]))
      clear hlu ho hb HV HPT hx hz hQ
      go_wp2_with fail
      go_quiet ((go_at_call 169; exact Calls.quiet_of_same (HW2.out _)))
      go_wp2_with fail
      go_roundw
      case rel => exact ⟨k + 1, us.set k (q % 4294967296), by omega, by go_num, hwu.set _ (by omega), HPQ, (HOB.out _ _).1, (HOB.out _ _).2⟩
      case measure => simp [intOf]; omega
    · obtain rfl : k = m := by omega
      have hlu := ho.len
      have HF := hid (down_all xs us W k t WX.out ht HL.out hlu HV.out)
      have HR := hid (refTrim_sl (.slice (some ⟨w.heap.size, 0, none⟩) us.length us.length) us wr (Sl.own (owns_len (show wr.ownsRow w.heap.size 94 1 (.slice (some ⟨w.heap.size, 0, none⟩) us.length us.length) us.length (us.map (Value.int .u32)) by rw [hlu]; exact ho)) hwu) (by omega))
      rw [hlu] at HR
      clear ho HV
      go_wp2_with fail
      refine Calls.mono HR.out ?_
      rintro e w3 ⟨v3, rfl, o3, hb3⟩
      have HO3 := hid (owns_base (owns_len o3) hb.size)
      have hbF := bt hb hb3
      clear o3 hb3
      go_wp2_with fail
      go_ret
      exact ⟨v3, _, rfl, HO3.out, hwu.trimmed, Trimmed.trimmed _, by rw [val_trimmed]; exact HF.out, hbF⟩
end Go.Proofs.YtldeiapikkebgaaGreatDoor

/- The document's own long division, its parts: slackwaterref01.below, off, digit; its calls at any slice that can be read. -/
namespace Go.Proofs.YtldeiapikkebgaaGreatDoor
open Go.RowKit
set_option linter.unusedVariables false

theorem refLess_sl (v u : Value) (xs ys : List Int) (w : World) (h : Sl w v xs) (g : Sl w u ys) (hn : xs.length ≤ 549755813888) (hm : ys.length ≤ 549755813888) (hle : val ys ≤ val xs) : Calls Tryz.prog 181 #[v, u] w (Ref1 w (val xs - val ys)) := by
  obtain ⟨a, cap, rfl, hr⟩ := h
  obtain ⟨b, cap', rfl, gr⟩ := g
  exact refLess_any a _ cap xs b _ cap' ys w hr gr hn hm hle
theorem refTimes_sl (v u : Value) (xs ys : List Int) (w : World) (h : Sl w v xs) (g : Sl w u ys) (hn : xs.length ≤ 274877906944) (hm : ys.length ≤ 274877906944) : Calls Tryz.prog 180 #[v, u] w (Ref1 w (val xs * val ys)) := by
  obtain ⟨a, cap, rfl, hr⟩ := h
  obtain ⟨b, cap', rfl, gr⟩ := g
  exact refTimes_any a _ cap xs b _ cap' ys w hr gr hn hm
theorem refOf_val (x : Int) (w : World) (h0 : 0 ≤ x) (h1 : x ≤ 18446744073709551615) : Calls Tryz.prog 152 #[.int .u64 x] w (Ref1 w x) := by
  refine Calls.mono (refOf_any x w h0 h1) ?_
  rintro e w' ⟨v, rfl, o, hb⟩
  refine ⟨v, _, rfl, owns_len o, (of_wd x h0 h1).trimmed, Trimmed.trimmed _, ?_, hb⟩
  rw [val_trimmed, val_two]
  omega
theorem Ref1.slice {w w' : World} {t : Int} {x : Ending} (h : Ref1 w t x w') : ∃ a c zs, x = .returned (.slice a zs.length c) ∧ w'.ownsRow w.heap.size 94 1 (.slice a zs.length c) zs.length (zs.map (Value.int .u32)) ∧ Wd zs ∧ Trimmed zs ∧ val zs = t ∧ Below w.heap.size w w' := by
  obtain ⟨v, zs, rfl, o, h1, h2, h3, h4⟩ := h
  obtain ⟨a, c, hs⟩ := own_slice' o
  subst hs
  exact ⟨a, c, zs, rfl, o, h1, h2, h3, h4⟩

set_option maxHeartbeats 1600000 in
set_option maxRecDepth 100000 in
theorem refBelow_any (v u : Value) (rs ds : List Int) (x : Int) (w : World) (h : Sl w v rs) (g : Sl w u ds) (hn : rs.length ≤ 274877906944) (hm : ds.length ≤ 274877906944) (x0 : 0 ≤ x) (x1 : x ≤ 4294967295) :
    Calls Tryz.prog 170 #[v, u, .int .u64 x] w fun e w' => e = .returned (.bool (decide (val rs < val ds * x))) ∧ Below w.heap.size w w' := by
  have HO := hid (refOf_val x w x0 (by omega))
  have HX := hid h
  have HD := hid g
  have HN := hid (And.intro hn hm)
  have HX1 := hid x1
  clear h g hn hm x1
  go_enter Tryz.func170, Tryz.ntmps170
  go_wp2_with fail
  refine Calls.mono HO.out ?_
  intro e w1 h1
  obtain ⟨a1, c1, zs, rfl, o1, wz, tz, vz, hb1⟩ := h1.slice
  have lz : zs.length ≤ 1 := len_of_lt wz tz (by rw [vz]; have := HX1.out; omega)
  have HT := hid (refTimes_sl _ _ ds zs w1 (HD.out.later hb1) (Sl.own o1 wz) HN.out.2 (by omega))
  rw [vz] at HT
  have HB1 := hid hb1
  have lzd : zs.length + ds.length ≤ 274877906945 := by have := HN.out.2; omega
  clear h1 o1 wz tz vz hb1 HO
  go_wp2_with fail
  refine Calls.mono HT.out ?_
  intro e w2 h2
  obtain ⟨a2, c2, ps, rfl, o2, wp, tp, vp, hb2⟩ := h2.slice
  have HB2 := hid (bt HB1.out hb2)
  have lp : ps.length ≤ 281474976710656 := by
    have hl := val_lt HD.out.wd
    have e1 : val ps < 4294967296 ^ (ds.length + 1) := by
      rw [vp, pw_succ]
      have p := pw_pos ds.length
      have d0 := val_nonneg HD.out.wd
      have := HX1.out
      have a1 : val ds * x ≤ val ds * 4294967296 := Int.mul_le_mul_of_nonneg_left (by omega) d0
      have a2 : val ds * 4294967296 < 4294967296 ^ ds.length * 4294967296 := Int.mul_lt_mul_of_pos_right hl (by omega)
      omega
    have := len_of_lt wp tp e1
    have := HN.out
    omega
  have HC := hid (refCompare_sl _ _ rs ps w2 (HX.out.later HB2.out) (Sl.own o2 wp) (by have := HN.out; omega) lp)
  rw [vp] at HC
  clear h2 o2 wp tp vp hb2 HT lp HB1
  by_cases hlt : val rs < val ds * x
  · rw [cmpI_lt hlt] at HC
    have HE : Hid (decide (val rs < val ds * x) = true) := decide_eq_true hlt
    clear hlt
    go_wp2_with fail
    refine Calls.mono HC.out ?_
    rintro e w3 ⟨rfl, rfl⟩
    go_wp2_with fail
    go_ret
    exact ⟨ret_bool HE.out.symm, HB2.out⟩
  · have HE : Hid (decide (val rs < val ds * x) = false) := decide_eq_false hlt
    obtain ⟨c, hc, hc'⟩ : ∃ c, cmpI (val rs) (val ds * x) = c ∧ (c = 0 ∨ c = 1) := by
      by_cases e : val rs = val ds * x
      · exact ⟨0, cmpI_eq e, .inl rfl⟩
      · exact ⟨1, cmpI_gt (by omega), .inr rfl⟩
    rw [hc] at HC
    clear hlt hc
    rcases hc' with rfl | rfl
    · go_wp2_with fail
      refine Calls.mono HC.out ?_
      rintro e w3 ⟨rfl, rfl⟩
      go_wp2_with fail
      go_ret
      exact ⟨ret_bool HE.out.symm, HB2.out⟩
    · go_wp2_with fail
      refine Calls.mono HC.out ?_
      rintro e w3 ⟨rfl, rfl⟩
      go_wp2_with fail
      go_ret
      exact ⟨ret_bool HE.out.symm, HB2.out⟩

theorem valTo_mid (ys : List Int) (i l : Nat) : ∀ k, k ≤ l → valTo ((ys.drop i).take l) k = segTo ys i k
  | 0, _ => rfl
  | k + 1, h => by rw [valTo_succ, segTo_succ, valTo_mid ys i l k (by omega), List.getElem?_take, if_pos (by omega), List.getElem?_drop]
theorem val_mid (ys : List Int) (i l : Nat) (h : i + l ≤ ys.length) : val ((ys.drop i).take l) = segTo ys i l := by
  rw [← valTo_mid ys i l l (Nat.le_refl _), valTo_stable _ _ (by rw [List.length_take, List.length_drop]; omega)]
theorem OwnC.mid {w : World} {base g n cap : Nat} {ys : List Int} (h : OwnC w base g n cap ys) (hw : Wd ys) (i l c : Nat) (hil : i + l ≤ n) (hc : l ≤ c) (hcm : c ≤ maxLen) : Sl w (.slice (some ⟨g, i, none⟩) l c) ((ys.drop i).take l) := by
  have hl := h.len
  have hll : ((ys.drop i).take l).length = l := by rw [List.length_take, List.length_drop]; omega
  refine ⟨some ⟨g, i, none⟩, c, by rw [hll], ?_⟩
  rw [hll]
  refine ⟨hll, (hw.drop i).take l, .inr ⟨g, i, rfl, (World.ownsRow.lt h g rfl).2, fun j hj => ?_⟩, hc, hcm, fun e => by simp at e⟩
  rw [h.cell (i + j) (by omega), List.getElem?_take, if_pos hj, List.getElem?_drop]

set_option maxHeartbeats 3200000 in
set_option maxRecDepth 100000 in
theorem refOff_any (base g n cap i l c : Nat) (ys : List Int) (u : Value) (ds : List Int) (x : Int) (w : World) (ho : OwnC w base g n cap ys) (hwy : Wd ys) (hil : i + l ≤ n) (hc : l ≤ c) (hcm : c ≤ maxLen) (hn : n ≤ 137438953472) (hd : Sl w u ds) (hm : ds.length ≤ 137438953472) (x0 : 0 ≤ x) (x1 : x ≤ 4294967295) (hle : val ds * x ≤ segTo ys i l) :
    Calls Tryz.prog 171 #[.slice (some ⟨g, i, none⟩) l c, u, .int .u64 x] w fun e w' => ∃ us, e = .returned (.tuple #[]) ∧ OwnC w' base g n cap us ∧ Wd us ∧ (∀ j, j < i ∨ i + l ≤ j → us[j]?.getD 0 = ys[j]?.getD 0) ∧ segTo us i l = segTo ys i l - val ds * x ∧ w.grownBy w' (some g) := by
  have hgw := (World.ownsRow.lt ho g rfl).2
  have hly := ho.len
  have hll : ((ys.drop i).take l).length = l := by rw [List.length_take, List.length_drop]; omega
  have hvm := val_mid ys i l (by omega)
  have HSR := hid (ho.mid hwy i l c hil hc hcm)
  have HO := hid (refOf_val x w x0 (by omega))
  have HD := hid hd
  have HOY := hid ho
  have HX1 := hid x1
  have HLE := hid hle
  have HVM := hid hvm
  have HLL := hid hll
  clear hd x1 hle ho hvm hll
  go_enter Tryz.func171, Tryz.ntmps171
  go_wp2_with fail
  refine Calls.mono HO.out ?_
  intro e w1 h1
  obtain ⟨a1, c1, zs, rfl, o1, wz, tz, vz, hb1⟩ := h1.slice
  have lz : zs.length ≤ 1 := len_of_lt wz tz (by rw [vz]; have := HX1.out; omega)
  have HT := hid (refTimes_sl _ _ ds zs w1 (HD.out.later hb1) (Sl.own o1 wz) (by omega) (by omega))
  rw [vz] at HT
  have HB1 := hid hb1
  clear h1 o1 wz tz vz hb1 HO lz
  go_wp2_with fail
  refine Calls.mono HT.out ?_
  intro e w2 h2
  obtain ⟨a2, c2, ps, rfl, o2, wp, tp, vp, hb2⟩ := h2.slice
  have HB2 := hid (bt HB1.out hb2)
  have lp : ps.length ≤ 549755813888 := by
    have e1 : val ps < 4294967296 ^ l := by rw [vp]; have := HLE.out; have := (segTo_bounds hwy i l).2; omega
    have := len_of_lt wp tp e1
    omega
  have HF := hid (refLess_sl _ _ ((ys.drop i).take l) ps w2 (HSR.out.later HB2.out) (Sl.own o2 wp) (by rw [HLL.out]; omega) lp (by rw [vp, HVM.out]; exact HLE.out))
  rw [vp, HVM.out] at HF
  clear h2 o2 wp tp vp hb2 HT lp HB1
  go_wp2_with fail
  refine Calls.mono HF.out ?_
  intro e w3 h3
  obtain ⟨a3, c3, qs, rfl, o3, wq, tq, vq, hb3⟩ := h3.slice
  have HB3 := hid (bt HB2.out hb3)
  have lq : qs.length ≤ l := len_of_lt wq tq (by
    rw [vq]
    have h5 := (segTo_bounds hwy i l).2
    have h6 : 0 ≤ val ds * x := Int.mul_nonneg (val_nonneg HD.out.wd) x0
    omega)
  have HQ := hid o3
  have HVQ := hid vq
  have HNE : Hid ((Value.slice a3 qs.length c3).ownBlock = none ∨ (Value.slice a3 qs.length c3).ownBlock ≠ some g) := by
    cases hv : (Value.slice a3 qs.length c3).ownBlock with
    | none => exact .inl rfl
    | some k =>
      right
      intro e
      have e1 := (World.ownsRow.lt o3 k hv).1
      have e2 := HB2.out.size
      have e3 := Option.some.inj e
      omega
  have HOW : Hid (OwnC w3 base g n cap ys) := owns_later HOY.out HB3.out
  have HG3 := hid (grown_of_below HB3.out (some g))
  clear h3 o3 vq hb3 HF HB2 HB3 HOY HSR
  go_wp2_with fail
  go_loopw [7] (fun t wr => ∃ (k : Nat) (us : List Int), k ≤ l ∧ t = .int .i64 k ∧ Wd us ∧ Hid (∀ j, j < i ∨ i + k ≤ j → us[j]?.getD 0 = ys[j]?.getD 0) ∧ Hid (∀ j, j < k → us[i + j]?.getD 0 = qs[j]?.getD 0) ∧ OwnC wr base g n cap us ∧ w3.grownBy wr (some g)) (fun t _ => l - (intOf t).toNat)
  case atStart => exact ⟨0, ys, by omega, rfl, hwy, fun _ _ => rfl, fun j hj => by omega, HOW.out, World.grownBy.refl _ _⟩
  case round =>
    obtain ⟨k, us, hk, rfl, hwu, HK, HQK, hou, hg⟩ := hrel
    by_cases hlt : k < l
    · have y1 := hou.cell (i + k) (by omega)
      have f1 := hou.free (i + k)
      have hlu := hou.len
      have hsq := Sl.own (World.ownsRow.kept HQ.out hg HNE.out) wq
      obtain ⟨aq, cq, hv, hrq⟩ := hsq
      simp only [Value.slice.injEq, true_and] at hv
      obtain ⟨rfl, rfl⟩ := hv
      have HW := hid (word_any _ _ _ qs _ (k : Int) wr hrq (by omega) (by omega))
      rw [Int.toNat_natCast] at HW
      have bq := wq.at k
      have HKN : Hid (∀ j, j < i ∨ i + (k + 1) ≤ j → (us.set (i + k) (qs[k]?.getD 0))[j]?.getD 0 = ys[j]?.getD 0) := fun j hj => by
        rw [List.getElem?_set, if_neg (by omega)]
        exact HK.out j (by omega)
      have HQN : Hid (∀ j, j < k + 1 → (us.set (i + k) (qs[k]?.getD 0))[i + j]?.getD 0 = qs[j]?.getD 0) := fun j hj => by
        rw [List.getElem?_set]
        by_cases e : k = j
        · subst e; rw [if_pos rfl, if_pos (by omega)]; rfl
        · rw [if_neg (by omega)]; exact HQK.out j (by omega)
      have HO' := hid (hou.set (i + k) (qs[k]?.getD 0)).1
      have HG' := hid (grown_trans hg (hou.set (i + k) (qs[k]?.getD 0)).2)
      have hw' := hwu.set (i + k) bq
      have HW' := hid hw'
      obtain ⟨q, hq⟩ : ∃ q, qs[k]?.getD 0 = q := ⟨_, rfl⟩
      rw [hq] at HW HKN HQN HO' HG' HW' bq
      clear hlu hou hg HK HQK hq hrq hw'
      go_wp2_with fail
      refine Calls.mono HW.out ?_
      rintro e w' ⟨rfl, rfl⟩
      go_wp2_with fail
      go_roundw
      case rel => exact ⟨k + 1, us.set (i + k) q, by omega, by go_num, HW'.out, HKN, HQN, HO'.out, HG'.out⟩
      case measure => simp [intOf]; omega
    · obtain rfl : k = l := by omega
      have HS : Hid (segTo us i k = segTo ys i k - val ds * x) := by
        show _ = _
        rw [← HVQ.out, ← valTo_stable qs k lq, ← segTo_zero]
        have e : ∀ j, j ≤ k → segTo us i j = segTo qs 0 j := fun j hj => by
          induction j with
          | zero => rfl
          | succ j ih => rw [segTo_succ, segTo_succ, ih (by omega), HQK.out j (by omega), Nat.zero_add]
        exact e k (Nat.le_refl _)
      clear HQK
      go_wp2_with fail
      go_end0
      exact ⟨us, rfl, hou, hwu, HK.out, HS.out, grown_trans HG3.out hg⟩
end Go.Proofs.YtldeiapikkebgaaGreatDoor

/- The document's own long division, one word of it: slackwaterref01.digit. -/
namespace Go.Proofs.YtldeiapikkebgaaGreatDoor
open Go.RowKit
set_option linter.unusedVariables false

theorem digit_guess (P lo top dl dt q S D : Int) (hP : 0 < P) (lo1 : lo < P) (dl0 : 0 ≤ dl) (hd : 1 ≤ dt) (hS : S = lo + top * P) (hD : D = dl + dt * P) (q0 : 0 ≤ q) (hq : q * D ≤ S) : q ≤ top / dt := by
  have e1 : q * (dt * P) ≤ q * D := Int.mul_le_mul_of_nonneg_left (by omega) q0
  have e2 : q * dt * P < (top + 1) * P := by rw [Int.mul_assoc, Int.add_mul]; omega
  have e3 := Int.lt_of_mul_lt_mul_right e2 (by omega)
  exact Int.le_ediv_of_mul_le (by omega) (by omega)
theorem seg_two (ys : List Int) (i e : Nat) : segTo ys i (e + 2) = segTo ys i e + (ys[i + e]?.getD 0 + ys[i + (e + 1)]?.getD 0 * 4294967296) * 4294967296 ^ e := by
  rw [segTo_succ, segTo_succ, pw_succ]
  generalize (4294967296 : Int) ^ e = P
  grind
theorem val_top (ds : List Int) (e : Nat) (h : ds.length = e + 1) : val ds = valTo ds e + ds[e]?.getD 0 * 4294967296 ^ e := by
  unfold val; rw [h, valTo_succ]

set_option maxHeartbeats 3200000 in
set_option maxRecDepth 100000 in
theorem refDigit_any (base g n cap i e c : Nat) (ys : List Int) (b : Option Addr) (cap' : Nat) (ds : List Int) (w : World) (ho : OwnC w base g n cap ys) (hwy : Wd ys) (hil : i + (e + 2) ≤ n) (hc : e + 2 ≤ c) (hcm : c ≤ maxLen) (hn : n ≤ 137438953472) (hd : Sl w (.slice b (e + 1) cap') ds) (hlen : ds.length = e + 1) (hh : 1 ≤ ds[e]?.getD 0) (hLD : segTo ys i (e + 2) < 4294967296 * val ds) :
    Calls Tryz.prog 155 #[.slice (some ⟨g, i, none⟩) (e + 2) c, .slice b (e + 1) cap'] w fun x w' => ∃ (q : Int) (us : List Int), x = .returned (.int .u32 q) ∧ 0 ≤ q ∧ q ≤ 4294967295 ∧ OwnC w' base g n cap us ∧ Wd us ∧ (∀ j, j < i ∨ i + (e + 2) ≤ j → us[j]?.getD 0 = ys[j]?.getD 0) ∧ segTo us i (e + 2) = segTo ys i (e + 2) - q * val ds ∧ segTo us i (e + 2) < val ds ∧ w.grownBy w' (some g) := by
  have hwd := hd.wd
  have hD1 := val_top ds e hlen
  have hS1 := seg_two ys i e
  have P0 := pw_pos e
  have lob := segTo_bounds hwy i e
  have dlb := valTo_bounds hwd e
  have hD0 : 0 < val ds := by
    rw [hD1]
    have : 1 * (4294967296 : Int) ^ e ≤ ds[e]?.getD 0 * 4294967296 ^ e := Int.mul_le_mul_of_nonneg_right hh (by omega)
    omega
  have hS0 := (segTo_bounds hwy i (e + 2)).1
  obtain ⟨q, hq⟩ : ∃ q, segTo ys i (e + 2) / val ds = q := ⟨_, rfl⟩
  have q0 : 0 ≤ q := by rw [← hq]; exact Int.ediv_nonneg hS0 (by omega)
  have hq1 : q * val ds ≤ segTo ys i (e + 2) := by rw [← hq]; exact Int.ediv_mul_le _ (by omega)
  have hq2 : segTo ys i (e + 2) < (q + 1) * val ds := by rw [← hq]; exact Int.lt_ediv_add_one_mul_self _ hD0
  have q1 : q ≤ 4294967295 := by
    have : q * val ds < 4294967296 * val ds := by omega
    have := Int.lt_of_mul_lt_mul_right this (by omega)
    omega
  have bu0 := hwy.at (i + e)
  have bu1 := hwy.at (i + (e + 1))
  have bd := hwd.at e
  have y0 := ho.cell (i + e) (by omega)
  have y1 := ho.cell (i + (e + 1)) (by omega)
  have hG := digit_guess (4294967296 ^ e) (segTo ys i e) (ys[i + e]?.getD 0 + ys[i + (e + 1)]?.getD 0 * 4294967296) (valTo ds e) (ds[e]?.getD 0) q _ _ P0 lob.2 dlb.1 hh hS1 hD1 q0 hq1
  obtain ⟨bd1, od1, rfl, ldd, d1⟩ : ∃ b1 o1, b = some ⟨b1, o1, none⟩ ∧ b1 < w.heap.size ∧ w.cell? ⟨b1, o1 + e, none⟩ = some (.int .u32 (ds[e]?.getD 0)) := by
    obtain ⟨a', cap'', hv, hr⟩ := hd
    rw [hlen] at hv hr
    simp only [Value.slice.injEq, true_and] at hv
    obtain ⟨rfl, rfl⟩ := hv
    exact hr.cells e (by omega)
  have hly := ho.len
  have HBE := hid (fun ww (hb : Below w.heap.size w ww) X (h0 : 0 ≤ X) (h1 : X ≤ 4294967295) => refBelow_any _ _ ((ys.drop i).take (e + 2)) ds X ww ((ho.mid hwy i (e + 2) c hil hc hcm).later hb) (hd.later hb) (by rw [List.length_take, List.length_drop]; omega) (by omega) h0 h1)
  rw [val_mid ys i (e + 2) (by omega)] at HBE
  have HOF := hid (fun ww (hb : Below w.heap.size w ww) => refOff_any base g n cap i (e + 2) c ys _ ds q ww (owns_later ho hb) hwy hil hc hcm hn (hd.later hb) (by omega) q0 q1 (by rw [Int.mul_comm]; exact hq1))
  have HQ := hid (And.intro hq1 hq2)
  have HWY := hid hwy
  have HD0 := hid hD0
  obtain ⟨u0, hu0⟩ : ∃ u0, ys[i + e]?.getD 0 = u0 := ⟨_, rfl⟩
  obtain ⟨u1, hu1⟩ : ∃ u1, ys[i + (e + 1)]?.getD 0 = u1 := ⟨_, rfl⟩
  obtain ⟨dt, hdt⟩ : ∃ dt, ds[e]?.getD 0 = dt := ⟨_, rfl⟩
  rw [hu0] at y0 bu0 hG
  rw [hu1] at y1 bu1 hG
  rw [hdt] at d1 bd hG hh
  obtain ⟨top, htop⟩ : ∃ top, u1 * 4294967296 + u0 = top := ⟨_, rfl⟩
  have t0 : 0 ≤ top ∧ top ≤ 18446744073709551615 := by omega
  rw [show u0 + u1 * 4294967296 = top by omega] at hG
  have g0 : 0 ≤ top / dt := Int.ediv_nonneg (by omega) (by omega)
  have g1 : top / dt ≤ top := Int.ediv_le_self _ (by omega)
  have hdz : ¬ dt = 0 := by omega
  obtain ⟨G, hGG⟩ : ∃ G, top / dt = G := ⟨_, rfl⟩
  rw [hGG] at hG g0 g1
  have hei : (e : Int) + 1 - 1 = (e : Int) := by omega
  clear hwd hD1 hS1 P0 lob dlb hD0 hS0 hq hq1 hq2 ho hd hlen hLD hu0 hu1 hdt hwy hly
  by_cases hmin : G ≤ 4294967295
  · go_enter Tryz.func155, Tryz.ntmps155
    go_wp2_with fail
    go_quiet (fail)
    go_wp2_with fail
    clear hGG htop
    go_loopw [7] (fun t wr => ∃ X : Int, t = .int .u64 X ∧ q ≤ X ∧ X ≤ 4294967295 ∧ Below w.heap.size w wr) (fun t _ => (intOf t).toNat)
    case atStart => exact ⟨G, rfl, by omega, by omega, bdw (Below.refl _ _) _⟩
    case round =>
      obtain ⟨X, rfl, hX0, hX1, hb⟩ := hrel
      have HB := hid hb
      have HC := hid (HBE.out wr hb X (by omega) hX1)
      by_cases hlt : q < X
      · have hdec : decide (segTo ys i (e + 2) < val ds * X) = true := decide_eq_true (by
          have a1 := HQ.out.2
          have a2 : (q + 1) * val ds ≤ X * val ds := Int.mul_le_mul_of_nonneg_right (by omega) (Int.le_of_lt HD0.out)
          rw [Int.mul_comm (val ds)]
          omega)
        rw [hdec] at HC
        clear hb hdec
        go_wp2_with fail
        refine Calls.mono HC.out ?_
        rintro x w2 ⟨rfl, hb2⟩
        have HB2 := hid (bt HB.out hb2)
        clear hb2
        go_wp2_with fail
        go_roundw
        case rel => exact ⟨X - 1, rfl, by omega, by omega, HB2.out⟩
        case measure => simp [intOf]; omega
      · obtain rfl : X = q := by omega
        have hdec : decide (segTo ys i (e + 2) < val ds * X) = false := decide_eq_false (by
          have a1 := HQ.out.1
          rw [Int.mul_comm (val ds)]
          omega)
        rw [hdec] at HC
        clear hb hdec
        go_wp2_with fail
        refine Calls.mono HC.out ?_
        rintro x w2 ⟨rfl, hb2⟩
        have HB2 := hid (bt HB.out hb2)
        have HF := hid (HOF.out w2 HB2.out)
        clear hb2 HC HBE HOF
        go_wp2_with fail
        refine Calls.mono HF.out ?_
        rintro x w3 ⟨us, rfl, o3, w3', k3, s3, g3⟩
        have HR := hid (And.intro o3 (And.intro w3' (And.intro k3 (And.intro s3 (grown_trans (grown_of_below HB2.out (some g)) g3)))))
        clear o3 w3' k3 s3 g3 HF
        go_wp2_with fail
        go_ret
        refine ⟨X, us, rfl, q0, q1, HR.out.1, HR.out.2.1, HR.out.2.2.1, by rw [Int.mul_comm]; exact HR.out.2.2.2.1, ?_, HR.out.2.2.2.2⟩
        have a1 := HR.out.2.2.2.1
        have a2 := HQ.out.2
        rw [Int.mul_comm] at a1
        rw [Int.add_mul] at a2
        omega
  · go_enter Tryz.func155, Tryz.ntmps155
    go_wp2_with fail
    go_quiet (fail)
    go_wp2_with fail
    clear hGG htop
    go_loopw [7] (fun t wr => ∃ X : Int, t = .int .u64 X ∧ q ≤ X ∧ X ≤ 4294967295 ∧ Below w.heap.size w wr) (fun t _ => (intOf t).toNat)
    case atStart => exact ⟨4294967295, rfl, by omega, by omega, bdw (Below.refl _ _) _⟩
    case round =>
      obtain ⟨X, rfl, hX0, hX1, hb⟩ := hrel
      have HB := hid hb
      have HC := hid (HBE.out wr hb X (by omega) hX1)
      by_cases hlt : q < X
      · have hdec : decide (segTo ys i (e + 2) < val ds * X) = true := decide_eq_true (by
          have a1 := HQ.out.2
          have a2 : (q + 1) * val ds ≤ X * val ds := Int.mul_le_mul_of_nonneg_right (by omega) (Int.le_of_lt HD0.out)
          rw [Int.mul_comm (val ds)]
          omega)
        rw [hdec] at HC
        clear hb hdec
        go_wp2_with fail
        refine Calls.mono HC.out ?_
        rintro x w2 ⟨rfl, hb2⟩
        have HB2 := hid (bt HB.out hb2)
        clear hb2
        go_wp2_with fail
        go_roundw
        case rel => exact ⟨X - 1, rfl, by omega, by omega, HB2.out⟩
        case measure => simp [intOf]; omega
      · obtain rfl : X = q := by omega
        have hdec : decide (segTo ys i (e + 2) < val ds * X) = false := decide_eq_false (by
          have a1 := HQ.out.1
          rw [Int.mul_comm (val ds)]
          omega)
        rw [hdec] at HC
        clear hb hdec
        go_wp2_with fail
        refine Calls.mono HC.out ?_
        rintro x w2 ⟨rfl, hb2⟩
        have HB2 := hid (bt HB.out hb2)
        have HF := hid (HOF.out w2 HB2.out)
        clear hb2 HC HBE HOF
        go_wp2_with fail
        refine Calls.mono HF.out ?_
        rintro x w3 ⟨us, rfl, o3, w3', k3, s3, g3⟩
        have HR := hid (And.intro o3 (And.intro w3' (And.intro k3 (And.intro s3 (grown_trans (grown_of_below HB2.out (some g)) g3)))))
        clear o3 w3' k3 s3 g3 HF
        go_wp2_with fail
        go_ret
        refine ⟨X, us, rfl, q0, q1, HR.out.1, HR.out.2.1, HR.out.2.2.1, by rw [Int.mul_comm]; exact HR.out.2.2.2.1, ?_, HR.out.2.2.2.2⟩
        have a1 := HR.out.2.2.2.1
        have a2 := HQ.out.2
        rw [Int.mul_comm] at a1
        rw [Int.add_mul] at a2
        omega
end Go.Proofs.YtldeiapikkebgaaGreatDoor

/- The document's own quotient and rest: slackwaterref01.Over. -/
namespace Go.Proofs.YtldeiapikkebgaaGreatDoor
open Go.RowKit
set_option linter.unusedVariables false

def Ref2 (w : World) (xs ys : List Int) (x : Ending) (w' : World) : Prop := ∃ v zs u rs, x = .returned (.tuple #[v, u]) ∧ w'.ownsRow w.heap.size 94 1 v zs.length (zs.map (Value.int .u32)) ∧ w'.ownsRow w.heap.size 94 1 u rs.length (rs.map (Value.int .u32)) ∧ Wd zs ∧ Wd rs ∧ Trimmed zs ∧ Trimmed rs ∧ val xs = val zs * val ys + val rs ∧ val rs < val ys ∧ Below w.heap.size w w'
theorem refDown_zero (v : Value) (xs : List Int) (t : Nat) (w : World) (h : Sl w v xs) (hn : xs.length ≤ 274877906944) (ht : t ≤ 31) :
    Calls Tryz.prog 156 #[v, .int .i64 (t : Int)] w (Ref1 w (val xs / 2 ^ t)) := by
  obtain ⟨a, cap, rfl, hr⟩ := h
  by_cases h0 : xs.length = 0
  · refine Calls.mono (refDown_none a xs.length cap 0 t (t : Int) w hn (by omega) (by omega) ht (by omega)) ?_
    rintro e w' ⟨rfl, rfl⟩
    have hx : xs = [] := List.eq_nil_of_length_eq_zero h0
    refine ⟨_, [], rfl, World.ownsRow_nil _ _ _ _, Wd.nil, Trimmed.nil, ?_, Below.refl _ _⟩
    rw [hx, val_nil]; simp
  · have e := refDown_any a xs.length cap xs 0 t (t : Int) w hr hn (by omega) ht (by omega)
    rw [Int.pow_zero, Int.ediv_one] at e
    exact e
theorem refUp_zero (v : Value) (xs : List Int) (t : Nat) (w : World) (h : Sl w v xs) (hn : xs.length ≤ 274877906944) (h0 : 0 < xs.length) (ht : t ≤ 31) :
    Calls Tryz.prog 154 #[v, .int .i64 (t : Int)] w (Ref1 w (val xs * 2 ^ t)) := by
  obtain ⟨a, cap, rfl, hr⟩ := h
  have e := refUp_any a xs.length cap xs 0 t (t : Int) w hr hn h0 (by omega) ht (by omega)
  rw [Int.pow_zero, Int.mul_one] at e
  exact e
theorem seg_end {vs : List Int} (wv : Wd vs) (k m : Nat) {D : Int} (hD : D < 4294967296 ^ m) (h : segTo vs k (m + 1) < D) : vs[k + m]?.getD 0 = 0 := by
  have hb := wv.at (k + m)
  have sb := segTo_nonneg wv k m
  by_cases c : vs[k + m]?.getD 0 = 0
  · exact c
  · have : 1 * (4294967296 : Int) ^ m ≤ vs[k + m]?.getD 0 * 4294967296 ^ m := Int.mul_le_mul_of_nonneg_right (by omega) (Int.le_of_lt (pw_pos m))
    rw [segTo_succ] at h
    omega
theorem bits_gap {ys : List Int} (hy : Trimmed ys) (e : Nat) (hl : ys.length = e + 2) (h1 : ys[e + 1]?.getD 0 ≤ 4294967295) : 32 * ((e : Int) + 2) - (bitsOf ys : Int) = ((32 - Lib.bitLen (ys[e + 1]?.getD 0).toNat : Nat) : Int) := by
  have hs : sz ys = e + 2 := by rw [← hl]; exact hy
  have hb := bitLen_le32 _ h1
  unfold bitsOf
  rw [hs, if_neg (by omega), show e + 2 - 1 = e + 1 by omega]
  omega
theorem len_of_ge {zs : List Int} (hw : Wd zs) {L : Nat} (h : (4294967296 : Int) ^ L ≤ val zs) : L < zs.length := by
  by_cases c : L < zs.length
  · exact c
  · have h1 := val_lt hw
    have h2 := pw_le (show zs.length ≤ L by omega)
    omega
theorem val_snoc_zero (ls : List Int) : val (ls ++ [0]) = val ls := by
  refine val_eq_of fun j => ?_
  rw [List.getElem?_append]
  split
  · rfl
  · rw [List.getElem?_eq_none (l := ls) (by omega)]
    by_cases e : j - ls.length = 0
    · rw [e]; rfl
    · rw [List.getElem?_eq_none (by simp; omega)]
theorem own_shape0 {w : World} {base e n : Nat} {v : Value} {xs : List Value} (h : w.ownsRow base e 1 v n xs) (hn : 0 < n) : ∃ g cap, v = .slice (some ⟨g, 0, none⟩) n cap ∧ base ≤ g ∧ g < w.heap.size ∧ n ≤ cap ∧ cap ≤ maxLen := by
  obtain ⟨g, cap, rfl, h1, h2⟩ := own_shape' h hn
  have := World.ownsRow.lt h g rfl
  exact ⟨g, cap, rfl, this.1, this.2, h1, h2⟩

set_option maxHeartbeats 1600000 in
set_option maxRecDepth 100000 in
theorem refOver_less (v u : Value) (xs ys : List Int) (w : World) (h : Sl w v xs) (g : Sl w u ys) (hn : xs.length ≤ 8200) (hm : ys.length ≤ 8200) (hlt : val xs < val ys) :
    Calls Tryz.prog 124 #[v, u] w (Ref2 w xs ys) := by
  have HC := hid (refCompare_sl _ _ xs ys w h g (by omega) (by omega))
  rw [cmpI_lt hlt] at HC
  have HT := hid (refTrim_sl _ xs w h (by omega))
  have HLT := hid hlt
  have HW := hid h.wd
  clear h g hlt
  go_enter Tryz.func124, Tryz.ntmps124
  go_wp2_with fail
  refine Calls.mono HC.out ?_
  rintro e w1 ⟨rfl, rfl⟩
  go_wp2_with fail
  refine Calls.mono HT.out ?_
  rintro e w2 ⟨v2, rfl, o2, hb2⟩
  have HO := hid (And.intro (owns_len o2) hb2)
  clear o2 hb2
  go_wp2_with fail
  go_ret2
  exact ⟨_, [], v2, _, rfl, World.ownsRow_nil _ _ _ _, HO.out.1, Wd.nil, HW.out.trimmed, Trimmed.nil, Trimmed.trimmed _, by rw [val_trimmed, val_nil]; omega, by rw [val_trimmed]; exact HLT.out, HO.out.2⟩

set_option maxHeartbeats 1600000 in
set_option maxRecDepth 100000 in
theorem refOver_word (v u : Value) (xs : List Int) (y : Int) (w : World) (h : Sl w v xs) (g : Sl w u [y]) (hn : xs.length ≤ 8200) (hy : 1 ≤ y) (hge : y ≤ val xs) :
    Calls Tryz.prog 124 #[v, u] w (Ref2 w xs [y]) := by
  have HC := hid (refCompare_sl _ _ xs [y] w h g (by omega) (by simp))
  have by' := g.wd.at 0
  simp at by'
  obtain ⟨a, cap, rfl, hr⟩ := h
  obtain ⟨b, cap', rfl, gr⟩ := g
  obtain ⟨b1, o1, rfl, l1, c1⟩ := gr.cells 0 (by simp)
  simp at c1
  have hcap := gr.2.2.2.1
  simp at hcap
  have HS := hid (refSmall_any a _ cap xs y w hr (by omega) ⟨hy, by omega⟩)
  rw [val_one] at HC
  obtain ⟨cc, hcc, hcv⟩ : ∃ c, cmpI (val xs) y = c ∧ (c = 0 ∨ c = 1) := by
    by_cases e : val xs = y
    · exact ⟨0, cmpI_eq e, .inl rfl⟩
    · exact ⟨1, cmpI_gt (by omega), .inr rfl⟩
  rw [hcc] at HC
  have hl1 : List.length [y] = 1 := rfl
  rw [hl1] at HC ⊢
  clear hr gr hge hcc hl1
  rcases hcv with rfl | rfl
  all_goals
    go_enter Tryz.func124, Tryz.ntmps124
    go_wp2_with fail
    refine Calls.mono HC.out ?_
    rintro e w1 ⟨rfl, rfl⟩
    go_wp2_with fail
    refine Calls.mono HS.out ?_
    rintro e w2 ⟨v2, zs, r, rfl, o2, wz, tz, hv, r0, r1, hb2⟩
    have r2 : r ≤ 4294967295 := by omega
    have HO := hid (refOf_val r w2 r0 (by omega))
    have HR := hid (And.intro o2 (And.intro hb2 (And.intro hv r1)))
    clear o2 hb2 hv HC HS r1
    go_wp2_with fail
    refine Calls.mono HO.out ?_
    rintro e w3 ⟨v3, rs, rfl, o3, wr, tr, hvr, hb3⟩
    have HQ := hid (And.intro (owns_base o3 HR.out.2.1.size) (And.intro (owns_later HR.out.1 hb3) (And.intro (bt HR.out.2.1 hb3) hvr)))
    clear o3 hb3 hvr HO
    go_wp2_with fail
    go_ret2
    exact ⟨v2, zs, v3, rs, rfl, HQ.out.2.1, HQ.out.1, wz, wr, tz, tr, by rw [HQ.out.2.2.2, val_one]; exact HR.out.2.2.1, by rw [HQ.out.2.2.2, val_one]; exact HR.out.2.2.2, HQ.out.2.2.1⟩
end Go.Proofs.YtldeiapikkebgaaGreatDoor

/- The document's own long division, whole: slackwaterref01.Over of any two numbers. -/
namespace Go.Proofs.YtldeiapikkebgaaGreatDoor
open Go.RowKit
set_option linter.unusedVariables false

theorem grown_set' (w : World) (p : Addr) (v : Value) : w.grownBy (w.setCell p v) (some p.block) :=
  ⟨rfl, rfl, rfl, by simp [World.setCell], fun k _ hne => Below.heap_setCell w p v k (fun e => hne (by rw [e]))⟩

set_option maxHeartbeats 12800000 in
set_option maxRecDepth 100000 in
theorem refOver_long (v u : Value) (xs ys : List Int) (e : Nat) (w : World) (h : Sl w v xs) (g : Sl w u ys) (hn : xs.length ≤ 8200) (hm : ys.length ≤ 8200) (hx : Trimmed xs) (hy : Trimmed ys) (hl : ys.length = e + 2) (hge : val ys ≤ val xs) :
    Calls Tryz.prog 124 #[v, u] w (Ref2 w xs ys) := by
  obtain ⟨i0, hi, hz0, hz1, hz2⟩ := info_parts Tryz.infoW
  have wx := h.wd
  have wy := g.wd
  have hyx := len_of_lt wy hy (L := xs.length) (by have := val_lt wx; omega)
  obtain ⟨s1, s2, s3, s4, s5⟩ := normal wy hy e hl
  have hgap := bits_gap hy e hl s2
  obtain ⟨t, ht⟩ : ∃ t, 32 - Lib.bitLen (ys[e + 1]?.getD 0).toNat = t := ⟨_, rfl⟩
  rw [ht] at s3 s4 s5 hgap
  have HC := hid (refCompare_sl _ _ xs ys w h g (by omega) (by omega))
  obtain ⟨cc, hcc, hcv⟩ : ∃ c, cmpI (val xs) (val ys) = c ∧ (c = 0 ∨ c = 1) := by
    by_cases e : val xs = val ys
    · exact ⟨0, cmpI_eq e, .inl rfl⟩
    · exact ⟨1, cmpI_gt (by omega), .inr rfl⟩
  rw [hcc] at HC
  have HB := hid (refBits_sl _ ys w g (by omega))
  have HSX := hid h
  have HSY := hid g
  have HN := hid (And.intro s4 (And.intro s5 (And.intro hge hl)))
  have hyn : e + 2 ≤ xs.length := by omega
  obtain ⟨a, cap, rfl, hr⟩ := h
  obtain ⟨b, cap', rfl, gr⟩ := g
  rw [hl] at HC HB ⊢
  obtain ⟨B, hB⟩ : ∃ B, bitsOf ys = B := ⟨_, rfl⟩
  rw [hB] at HB hgap
  have hB0 : (B : Int) ≤ 1000000 := by omega
  have HY' : Hid (Sl w (.slice b (e + 2) cap') ys) := by have e1 := HSY.out; rw [hl] at e1; exact e1
  clear hr gr hcc s1 s2 s4 s5 ht hge hl hB HSY hm hyx
  have hnl : ¬ cc < 0 := by omega
  have hc1 : cc ≤ 1 := by omega
  clear hcv
  skip
  · skip
    go_enter Tryz.func124, Tryz.ntmps124
    go_wp2_with fail
    refine Calls.mono HC.out ?_
    rintro x w' ⟨rfl, rfl⟩
    clear HC
    go_wp2_with fail
    refine Calls.mono HB.out ?_
    rintro x wB ⟨rfl, hbB⟩
    have HU1 := hid (refUp_zero _ ys t wB (HY'.out.later hbB) (by have := HN.out.2.2.2; omega) (by have := HN.out.2.2.2; omega) s3)
    have HBB := hid hbB
    clear hbB HB
    go_wp2_with fail
    refine Calls.mono HU1.out ?_
    intro x w1 h1
    obtain ⟨a1, c1, ds, rfl, oD, wD, tD, vD, hb1⟩ := h1.slice
    have hDl : ds.length = e + 2 := by
      have l1 := len_of_lt wD tD (L := e + 2) (by rw [vD]; exact HN.out.1)
      have l2 := len_of_ge wD (L := e + 1) (by
        rw [vD]
        have q1 := HN.out.2.1
        have q2 : (4294967296 : Int) ^ (e + 2) = 4294967296 ^ (e + 1) * 4294967296 := pw_succ (e + 1)
        have q3 := pw_pos (e + 1)
        omega)
      omega
    have hDt := top_one wD e hDl (by rw [vD]; exact HN.out.2.1)
    have HDG : Hid ((4294967296 : Int) ^ (e + 1) ≤ val ds) := by
      show _ ≤ _
      rw [vD]
      have q1 := HN.out.2.1
      have q2 : (4294967296 : Int) ^ (e + 2) = 4294967296 ^ (e + 1) * 4294967296 := pw_succ (e + 1)
      have q3 := pw_pos (e + 1)
      omega
    have HDM : Hid (val ds < 4294967296 ^ (e + 2)) := by show _ < _; rw [vD]; exact HN.out.1
    have HB1 := hid (bt HBB.out hb1)
    have HD := hid (Sl.own oD wD)
    rw [hDl] at HD
    have HU2 := hid (refUp_zero _ xs t w1 (HSX.out.later HB1.out) (by omega) (by omega) s3)
    have HVD := hid vD
    have HDl := hid hDl
    have HDt := hid hDt
    have HWD := hid wD
    rw [hDl]
    clear h1 oD wD tD vD hb1 hDl hDt HU1 HBB
    go_wp2_with fail
    refine Calls.mono HU2.out ?_
    intro x w2 h2
    obtain ⟨a2, c2, ls, rfl, oL, wL, tL, vL, hb2⟩ := h2.slice
    have hLl : e + 2 ≤ ls.length := by
      have := len_of_ge wL (L := e + 1) (by
        rw [vL]
        have q1 := HN.out.2.1
        have q2 : (4294967296 : Int) ^ (e + 2) = 4294967296 ^ (e + 1) * 4294967296 := pw_succ (e + 1)
        have q3 := pw_pos (e + 1)
        have q4 : val ys * 2 ^ t ≤ val xs * 2 ^ t := Int.mul_le_mul_of_nonneg_right HN.out.2.2.1 (Int.le_of_lt (two_pos t))
        omega)
      omega
    have hLm : ls.length ≤ 8201 := len_of_lt wL tL (by
      rw [vL]
      have q1 := val_lt wx
      have q2 : (4294967296 : Int) ^ (xs.length + 1) ≤ 4294967296 ^ 8201 := pw_le (by omega)
      have q3 : (2 : Int) ^ t ≤ 2 ^ 32 := two_le (by omega)
      have q4 : val xs * 2 ^ t ≤ val xs * 2 ^ 32 := Int.mul_le_mul_of_nonneg_left q3 (val_nonneg wx)
      rw [pw_succ] at q2
      generalize (4294967296 : Int) ^ 8201 = Z at *
      generalize (4294967296 : Int) ^ xs.length = Y at *
      have q5 : (2 : Int) ^ 32 = 4294967296 := by decide
      rw [q5] at q4
      omega)
    have hs2 := hb2.size
    have HVL := hid vL
    have HB2 := hid hb2
    have HWL := hid wL
    have oL' := oL
    obtain ⟨R, hR⟩ : ∃ R, R = ls.map (Value.int .u32) := ⟨_, rfl⟩
    obtain ⟨L, hL⟩ : ∃ L, ls.length = L := ⟨_, rfl⟩
    rw [← hR, hL] at oL
    rw [hL] at hLl hLm ⊢
    have HRL : Hid (R ++ [.int .u32 0] = (ls ++ [0]).map (Value.int .u32)) := by show _ = _; rw [hR]; simp
    have HLL := hid hL
    clear h2 oL' vL hb2 HU2 hR hL tL wL
    go_wp2_with (at_builtin; refine wpList_append_own _ rfl _ _ 24 rfl w1.heap.size 94 i0 (.int .u32 0) 1 4 Tryz.underlying24 hi hz0 hz1 hz2 rfl (by decide) _ _ _ rfl (oL.alloc _) ⟨w2.heap.size, 0, none⟩ 1 1 [.int .u32 0] rfl rfl (cell_one_new _ _ _) (by simp [Value.oneCell']) (by unfold maxLen; omega) (by omega) (by simp; omega) ?_)
    intro v3 w3 o3 hg3 _
    have hb3 : Below w1.heap.size w1 w3 := (HB2.out.alloc (by omega) _).grown hg3 (by simp; omega) (fun g hg => (oL.lt g hg).1)
    clear hg3 oL
    rw [HRL.out] at o3
    obtain ⟨gR, cR, hv3, gb, gl, cl, cm⟩ := own_shape0 o3 (by omega)
    subst hv3
    obtain ⟨K, hK1, hK2⟩ : ∃ K, L + 1 ≤ K + (e + 2) ∧ K + (e + 2) ≤ L + 1 := ⟨L + 1 - (e + 2), by omega, by omega⟩
    have HO3 : Hid (OwnC w3 w1.heap.size gR (L + 1) cR (ls ++ [0])) := o3
    have HB3 := hid hb3
    have hs3 := hb3.size
    have hKi : ((L : Int) + 1 - ((e : Int) + 2)) = (K : Int) := by omega
    clear o3 hb3 HRL
    go_wp2_with (at_make; refine wpList_make_full _ rfl _ _ 24 rfl w3.heap.size 94 i0 (.int .u32 0) 1 Tryz.underlying24 hi hz0 hz1 _ _ _ _ K rfl rfl (by omega) (by omega) (by rw [hz2]; omega) (by unfold maxLen; omega) (Nat.le_refl _) ?_)
    intro w4 hown hgrow
    have hbel4 : Below w3.heap.size w3 w4 := (Below.refl _ _).grown hgrow (Nat.le_refl _) (fun k hk => by simp at hk)
    have HOQ := hid (OwnW.made hown)
    have HB4 := hid hbel4
    clear hown hgrow hbel4
    go_wp2_with fail
    go_loopw [12] (fun z wr => ∃ (k : Nat) (us qs : List Int), k ≤ K ∧ z = .int .i64 ((k : Int) - 1) ∧ Wd us ∧ Wd qs ∧ Hid (val ls = valTo us (k + (e + 2)) + segTo qs k (K - k) * val ds * 4294967296 ^ k) ∧ Hid (segTo us k (e + 2) < val ds) ∧ Hid (∀ j, k + (e + 2) ≤ j → us[j]?.getD 0 = 0) ∧
      OwnC wr w1.heap.size gR (L + 1) cR us ∧ OwnW wr w3.heap.size w3.heap.size K qs ∧ Below w1.heap.size w1 wr) (fun z _ => (intOf z + 1).toNat)
    case atStart =>
      have hl0 : (ls ++ [0]).length = L + 1 := by rw [List.length_append, HLL.out]; rfl
      have hw0 : Wd (ls ++ [0]) := HWL.out.append (Wd.one (by omega))
      have hz0' : (ls ++ [0])[K + (e + 1)]?.getD 0 = 0 := by
        rw [List.getElem?_append, if_neg (by have := HLL.out; omega), show K + (e + 1) - ls.length = 0 by have := HLL.out; omega]; rfl
      refine ⟨K, ls ++ [0], List.replicate K 0, Nat.le_refl _, rfl, hw0, Wd.replicate _, ?_, ?_, ?_, owns_later HO3.out HB4.out, HOQ.out, HB3.out.trans (HB4.out.mono hs3)⟩
      · show _ = _
        rw [valTo_stable _ _ (by rw [hl0]; omega), val_snoc_zero, Nat.sub_self]
        simp [segTo]
      · show _ < _
        have q1 := (segTo_bounds hw0 K (e + 1)).2
        have q2 := HDG.out
        rw [show e + 2 = e + 1 + 1 by omega, segTo_succ, hz0', Int.zero_mul]
        omega
      · intro j hj
        rw [List.getElem?_eq_none (by rw [hl0]; omega)]; rfl
    case round =>
      obtain ⟨k, us, qs, hk, rfl, wu, wq, HV, HS, HZ, oU, oQ, hb⟩ := hrel
      have hbs := hb.size
      have hqb := oQ.base
      have hub := (World.ownsRow.lt oU gR rfl)
      have hlu := oU.len
      have hlq := oQ.len
      rcases k with _ | k
      · have hval : val us = valTo us (e + 2) := by
          have e1 : ∀ m, e + 2 ≤ m → valTo us m = valTo us (e + 2) := fun m hm => by
            induction m with
            | zero => omega
            | succ m ih =>
              by_cases c : e + 2 = m + 1
              · rw [c]
              · rw [valTo_succ, HZ.out m (by omega), ih (by omega)]; omega
          rw [← valTo_stable us (L + 1) (by omega)]
          exact e1 (L + 1) (by omega)
        have HF : Hid (val xs = val qs * val ys + val us / 2 ^ t ∧ val us / 2 ^ t < val ys) := by
          have e1 := HV.out
          have e2 := HS.out
          rw [segTo_zero, ← hval] at e2
          rw [segTo_zero, Nat.zero_add, Nat.sub_zero, valTo_stable qs K (by omega), Int.pow_zero, Int.mul_one, HVL.out, HVD.out, ← hval, ← Int.mul_assoc] at e1
          rw [HVD.out] at e2
          have hp := two_pos t
          have e3 : val us = (val xs - val qs * val ys) * 2 ^ t := by rw [Int.sub_mul]; omega
          have e4 : val us / 2 ^ t = val xs - val qs * val ys := by rw [e3]; exact Int.mul_ediv_cancel _ (by omega)
          refine ⟨by rw [e4]; omega, Int.ediv_lt_of_lt_mul hp e2⟩
        have hsQ : Sl wr (.slice (some ⟨w3.heap.size, 0, none⟩) K K) qs := by
          have e1 := Sl.own oQ wq
          exact e1
        have HTQ := hid (refTrim_sl _ qs wr hsQ (by omega))
        have HUO := hid oU
        have HBW : Hid (Below w.heap.size w wr) := HB1.out.trans (hb.mono HB1.out.size)
        clear HV HS HZ oU oQ hsQ hval hb
        go_wp2_with fail
        refine Calls.mono HTQ.out ?_
        rintro x w5 ⟨v5, rfl, o5, hb5⟩
        have HT5 := hid (And.intro o5 hb5)
        have HTR := hid (refTrim_sl _ us w5 (Sl.own (owns_later HUO.out hb5) wu) (by omega))
        clear o5 hb5 HTQ
        go_wp2_with fail
        refine Calls.mono HTR.out ?_
        rintro x w6 ⟨v6, rfl, o6, hb6⟩
        have HDN := hid (refDown_zero v6 (trimmed us) t w6 (Sl.own o6 wu.trimmed) (by rw [length_trimmed]; have := sz_le us; omega) s3)
        rw [val_trimmed] at HDN
        have HB6 := hid hb6
        clear o6 hb6 HTR
        go_wp2_with fail
        refine Calls.mono HDN.out ?_
        rintro x w7 ⟨v7, rs, rfl, o7, w7', t7, hv7, hb7⟩
        have HE := hid (And.intro o7 (And.intro hv7 hb7))
        clear o7 hv7 hb7 HDN
        go_wp2_with fail
        go_ret2
        have hb57 := bt HB6.out HE.out.2.2
        have hb07 := bt HBW.out (bt HT5.out.2 hb57)
        refine ⟨v5, _, v7, rs, rfl, owns_base (owns_len (owns_later HT5.out.1 hb57)) HBW.out.size, owns_base HE.out.1 (by have := HBW.out.size; have := HT5.out.2.size; have := HB6.out.size; omega), wq.trimmed, w7', Trimmed.trimmed _, t7, ?_, ?_, hb07⟩
        · rw [val_trimmed, HE.out.2.1]; exact HF.out.1
        · rw [HE.out.2.1]; exact HF.out.2
      · have ek : (((k + 1 : Nat) : Int) - 1) = (k : Int) := by omega
        rw [ek]
        clear ek
        have hs1 : segTo us k (e + 2 + 1) < 4294967296 * val ds := by
          have b0 := wu.at k
          have q := HS.out
          rw [segTo_cons]
          omega
        have HDG2 := hid (refDigit_any w1.heap.size gR (L + 1) cR k (e + 1) (cR - k) us a1 c1 ds wr oU wu (by omega) (by omega) (by omega) (by omega) (HD.out.later hb) HDl.out HDt.out hs1)
        have HOQ2 := hid oQ
        have HB5 := hid hb
        have hck : ¬ cR = k := by omega
        have HLS := hid (fun vs q wv => long_step us vs qs (e + 2) K k (val ls) (val ds) q (by omega) hlq wv HDM.out HV.out)
        have HZ2 := hid HZ.out
        clear oU oQ hb hs1 HV HS HZ
        go_wp2_with fail
        rw [show k + (e + 2) + 1 - k = e + 1 + 2 by omega]
        refine Calls.mono HDG2.out ?_
        rintro x w5 ⟨q, vs, rfl, q0, q1, oV, wv, kV, sV, ltV, gV⟩
        have hnq : (w3.heap.size : Nat) ≠ gR := by omega
        have oQ5 : OwnW w5 w3.heap.size w3.heap.size K qs := World.ownsRow.kept HOQ2.out gV (.inr (fun e => hnq (Option.some.inj e)))
        have y1 := oQ5.cell k (by omega)
        have f1 := oQ5.free k
        have HQ6 := hid (oQ5.set k q)
        have HR6 : Hid (OwnC (w5.setCell ⟨w3.heap.size, k, none⟩ (.int .u32 q)) w1.heap.size gR (L + 1) cR vs) := World.ownsRow.kept oV (grown_set' w5 ⟨w3.heap.size, k, none⟩ (.int .u32 q)) (.inr (fun e => hnq (Option.some.inj e).symm))
        have HB6 : Hid (Below w1.heap.size w1 (w5.setCell ⟨w3.heap.size, k, none⟩ (.int .u32 q))) := (HB5.out.grown gV hbs (fun g hg => by have := Option.some.inj hg; omega)).setCell (p := ⟨w3.heap.size, k, none⟩) hs3 _
        obtain ⟨r1, r2⟩ := HLS.out vs q wv (fun j hj => kV j (.inl hj)) sV ltV
        have HR := hid (And.intro r1 r2)
        have HZN : Hid (∀ j, k + (e + 2) ≤ j → vs[j]?.getD 0 = 0) := fun j hj => by
          by_cases c : j = k + (e + 2)
          · rw [c]; exact seg_end wv k (e + 2) HDM.out ltV
          · rw [kV j (.inr (by omega))]; exact HZ2.out j (by omega)
        clear oV kV sV ltV gV oQ5 r1 r2 HLS HZ2 HDG2
        go_wp2_with fail
        go_roundw
        case rel => exact ⟨k, vs, qs.set k q, by omega, rfl, wv, wq.set k ⟨q0, q1⟩, HR.out.1, HR.out.2, HZN, HR6.out, HQ6.out, HB6.out⟩
        case measure => simp [intOf]

theorem refOver_any (v u : Value) (xs ys : List Int) (w : World) (h : Sl w v xs) (g : Sl w u ys) (hn : xs.length ≤ 8200) (hm : ys.length ≤ 8200) (hx : Trimmed xs) (hy : Trimmed ys) (h0 : 0 < ys.length) :
    Calls Tryz.prog 124 #[v, u] w (Ref2 w xs ys) := by
  by_cases hlt : val xs < val ys
  · exact refOver_less v u xs ys w h g hn hm hlt
  · by_cases h1 : ys.length = 1
    · obtain ⟨y, rfl⟩ := List.length_eq_one_iff.1 h1
      have hy1 : 1 ≤ y := by
        have b := g.wd.head
        by_cases c : y = 0
        · subst c; exact absurd hy (by unfold Trimmed; decide)
        · omega
      rw [val_one] at hlt
      exact refOver_word v u xs y w h g hn hy1 (by omega)
    · exact refOver_long v u xs ys (ys.length - 2) w h g hn hm hx hy (by omega) (by omega)
end Go.Proofs.YtldeiapikkebgaaGreatDoor

/- The document's own greatest common divisor: slackwaterref01.Common. -/
namespace Go.Proofs.YtldeiapikkebgaaGreatDoor
open Go.RowKit
set_option linter.unusedVariables false

set_option maxHeartbeats 3200000 in
set_option maxRecDepth 100000 in
theorem refCommon_any (v u : Value) (xs ys : List Int) (w : World) (h : Sl w v xs) (g : Sl w u ys) (hn : xs.length ≤ 8200) (hm : ys.length ≤ 8200) (hx : Trimmed xs) (hy : Trimmed ys) :
    Calls Tryz.prog 97 #[v, u] w (Ref1 w (gcdI (val xs) (val ys))) := by
  have HS := hid (And.intro h g)
  obtain ⟨a, cap, rfl, hr⟩ := h
  obtain ⟨b, cap', rfl, gr⟩ := g
  clear hr gr
  go_enter Tryz.func97, Tryz.ntmps97
  go_wp2_with fail
  go_loopg [0, 1] (val ys).toNat (fun k s0 s1 wr => ∃ (a : Option Addr) (c : Nat) (us : List Int) (b : Option Addr) (d : Nat) (vs : List Int), s0 = .slice a us.length c ∧ s1 = .slice b vs.length d ∧ us.length ≤ 8200 ∧ vs.length ≤ 8200 ∧ Hid (Sl wr (.slice a us.length c) us ∧ Sl wr (.slice b vs.length d) vs ∧ Trimmed us ∧ Trimmed vs ∧ (k : Int) = val vs ∧ gcdI (val us) (val vs) = gcdI (val xs) (val ys)) ∧ Below w.heap.size w wr)
  case atStart => exact ⟨a, cap, xs, b, cap', ys, rfl, rfl, hn, hm, ⟨HS.out.1, HS.out.2, hx, hy, by have := val_nonneg HS.out.2.wd; omega, rfl⟩, Below.refl _ _⟩
  case round =>
    obtain ⟨a1, c1, us, b1, d1, vs, rfl, rfl, lu, lv, HR, hb⟩ := hrel
    by_cases h0 : vs.length = 0
    · have HF : Hid (val us = gcdI (val xs) (val ys)) := by
        have e1 : vs = [] := List.eq_nil_of_length_eq_zero h0
        have e2 := HR.out.2.2.2.2.2
        rw [e1, val_nil, gcdI_zero _ (val_nonneg HR.out.1.wd)] at e2
        exact e2
      have HT := hid (refTrim_sl _ us wr HR.out.1 (by omega))
      have HW := hid HR.out.1.wd
      rw [h0]
      clear HR HS h0 lv
      go_wp2_with fail
      refine Calls.mono HT.out ?_
      rintro e w3 ⟨v3, rfl, o3, hb3⟩
      have HO3 := hid (owns_base (owns_len o3) hb.size)
      have hbF := bt hb hb3
      clear o3 hb3
      go_wp2_with fail
      go_ret
      exact ⟨v3, _, rfl, HO3.out, HW.out.trimmed, Trimmed.trimmed _, by rw [val_trimmed]; exact HF.out, hbF⟩
    · have hpos : (0 : Int) < (vs.length : Int) := by omega
      have HO := hid (refOver_any _ _ us vs wr HR.out.1 HR.out.2.1 lu lv HR.out.2.2.1 HR.out.2.2.2.1 (by omega))
      have HB := hid hb
      clear hb HS
      go_wp2_with fail
      refine Calls.mono HO.out ?_
      rintro e w2 ⟨v2, zs, v3, rs, rfl, o2, o3, wz, wr', tz, tr, hv, hlt, hb2⟩
      obtain ⟨a3, c3, hs⟩ := own_slice' o3
      subst hs
      have lr : rs.length ≤ 8200 := by
        have := len_of_lt wr' tr (L := vs.length) (by have := val_lt HR.out.2.1.wd; omega)
        omega
      have HN : Hid (Sl w2 (.slice b1 vs.length d1) vs ∧ Sl w2 (.slice a3 rs.length c3) rs ∧ Trimmed vs ∧ Trimmed rs ∧ ((val rs).toNat : Int) = val rs ∧ gcdI (val vs) (val rs) = gcdI (val xs) (val ys)) :=
        ⟨HR.out.2.1.later hb2, Sl.own o3 wr', HR.out.2.2.2.1, tr, by have := val_nonneg wr'; omega, by rw [← HR.out.2.2.2.2.2]; exact (gcdI_rest hv).symm⟩
      have HM : Hid ((val rs).toNat < (val vs).toNat) := by have := val_nonneg wr'; show _ < _; omega
      have HBN := hid (bt HB.out hb2)
      have HKK := hid HR.out.2.2.2.2.1
      clear o2 o3 hv hlt hb2 HR HO HB
      go_wp2_with fail
      go_roundg (val rs).toNat
      case rel => exact ⟨b1, d1, vs, a3, c3, rs, rfl, rfl, lv, lr, HN, HBN.out⟩
      case measure => have := HM.out; have := HKK.out; omega
end Go.Proofs.YtldeiapikkebgaaGreatDoor

/- The document's told: a number, if it is not too long. -/
namespace Go.Proofs.YtldeiapikkebgaaGreatDoor
open Go.RowKit
set_option linter.unusedVariables false

set_option maxHeartbeats 800000 in
set_option maxRecDepth 100000 in
theorem refTold_ok (a : Option Addr) (n c : Nat) (w : World) (h : n ≤ 8192) :
    Calls Tryz.prog 96 #[.slice a n c] w fun e w' => e = .returned (.tuple #[.slice a n c, .int .i64 0]) ∧ w = w' := by
  have h' : ¬ (8192 : Int) < (n : Int) := by omega
  go_enter Tryz.func96, Tryz.ntmps96
  go_wp2_with fail
  go_ret2
  exact ⟨rfl, rfl⟩
set_option maxHeartbeats 800000 in
set_option maxRecDepth 100000 in
theorem refTold_long (a : Option Addr) (n c : Nat) (w : World) (h : 8192 < n) :
    Calls Tryz.prog 96 #[.slice a n c] w fun e w' => e = .returned (.tuple #[.slice none 0 0, .int .i64 3]) ∧ w = w' := by
  have h' : (8192 : Int) < (n : Int) := by omega
  go_enter Tryz.func96, Tryz.ntmps96
  go_wp2_with fail
  go_ret2
  exact ⟨rfl, rfl⟩
theorem trimmed_wide {zs : List Int} {t : Int} (hw : Wd zs) (ht : Trimmed zs) (hv : val zs = t) : 8192 < zs.length ↔ wide ≤ t := by
  rw [← hv, ← wide_iff hw]
  have e : sz zs = zs.length := ht
  rw [e]
end Go.Proofs.YtldeiapikkebgaaGreatDoor

/- The document's own calls that may refuse: slackwaterref01.both, told, Add, Sub, Mul, DivMod, Gcd: of every two lists that can be read. -/
namespace Go.Proofs.YtldeiapikkebgaaGreatDoor
open Go.RowKit
set_option linter.unusedVariables false

set_option maxHeartbeats 800000 in
set_option maxRecDepth 100000 in
theorem refBoth_sl (v u : Value) (xs ys : List Int) (w : World) (h : Sl w v xs) (g : Sl w u ys) (hn : xs.length ≤ 281474976710656) (hm : ys.length ≤ 281474976710656) :
    Calls Tryz.prog 95 #[v, u] w fun e w' => e = .returned (.int .i64 (both xs ys)) ∧ w = w' := by
  have H1 := hid (refCheck_sl v xs w h hn)
  have H2 := hid (refCheck_sl u ys w g hm)
  by_cases hc : chk xs = 0
  · have HE : Hid (both xs ys = chk ys) := by show _ = _; unfold both; rw [if_pos hc]
    rw [hc] at H1
    clear h g hc
    go_enter Tryz.func95, Tryz.ntmps95
    go_wp2_with fail
    refine Calls.mono H1.out ?_
    rintro e w1 ⟨rfl, rfl⟩
    go_wp2_with fail
    refine Calls.mono H2.out ?_
    rintro e w1 ⟨rfl, rfl⟩
    go_wp2_with fail
    go_ret
    exact ⟨ret_int HE.out.symm, rfl⟩
  · have HE : Hid (both xs ys = chk xs) := by show _ = _; unfold both; rw [if_neg hc]
    have hc' : (chk xs == 0) = false := by simpa using hc
    clear h g hc
    go_enter Tryz.func95, Tryz.ntmps95
    go_wp2_with fail
    refine Calls.mono H1.out ?_
    rintro e w1 ⟨rfl, rfl⟩
    go_wp2_with fail
    go_ret
    exact ⟨ret_int HE.out.symm, rfl⟩
set_option maxHeartbeats 1600000 in
set_option maxRecDepth 100000 in
theorem refGcd_sl (v u : Value) (xs ys : List Int) (w : World) (h : Sl w v xs) (g : Sl w u ys) (hn : xs.length ≤ 281474976710656) (hm : ys.length ≤ 281474976710656) :
    Calls Tryz.prog 70 #[v, u] w (Told w (both xs ys) (gcdI (val xs) (val ys))) := by
  by_cases hb : both xs ys = 0
  · have HB := hid (refBoth_sl v u xs ys w h g hn hm)
    rw [hb] at HB
    obtain ⟨k1, k2⟩ := both_ok hb
    obtain ⟨lx, tx⟩ := chk_ok k1
    obtain ⟨ly, ty⟩ := chk_ok k2
    have HP := hid (refCommon_any v u xs ys w h g (by omega) (by omega) tx ty)
    rw [hb]
    clear h g hb k1 k2
    go_enter Tryz.func70, Tryz.ntmps70
    go_wp2_with fail
    refine Calls.mono HB.out ?_
    rintro e w1 ⟨rfl, rfl⟩
    go_wp2_with fail
    refine Calls.mono HP.out ?_
    intro e w2 h2
    obtain ⟨a2, c2, zs, rfl, o2, wz, tz, vz, hb2⟩ := h2.slice
    have hwd := trimmed_wide wz tz vz
    have HR := hid (And.intro o2 (And.intro wz (And.intro tz (And.intro vz (And.intro hwd hb2)))))
    by_cases hlen : 8192 < zs.length
    · have HT := hid (refTold_long a2 zs.length c2 w2 hlen)
      have HL := hid (hwd.1 hlen)
      clear h2 o2 wz tz vz hwd hb2 hlen
      go_wp2_with fail
      refine Calls.mono HT.out ?_
      rintro e w3 ⟨rfl, rfl⟩
      go_wp2_with fail
      go_ret2
      exact ⟨_, [], 3, rfl, World.ownsRow_nil _ _ _ _, Tells.tooLong HL.out, HR.out.2.2.2.2.2⟩
    · have HT := hid (refTold_ok a2 zs.length c2 w2 (by omega))
      have HL := hid (Int.not_le.1 fun h => hlen (hwd.2 h))
      clear h2 o2 wz tz vz hwd hb2 hlen
      go_wp2_with fail
      refine Calls.mono HT.out ?_
      rintro e w3 ⟨rfl, rfl⟩
      go_wp2_with fail
      go_ret2
      exact ⟨_, zs, 0, rfl, HR.out.1, Tells.ok HR.out.2.1 HR.out.2.2.1 HR.out.2.2.2.1 HL.out, HR.out.2.2.2.2.2⟩
  · have HB := hid (refBoth_sl v u xs ys w h g hn hm)
    have hb' : (both xs ys == 0) = false := by simpa using hb
    have HE := hid hb
    clear h g hb
    go_enter Tryz.func70, Tryz.ntmps70
    go_wp2_with fail
    refine Calls.mono HB.out ?_
    rintro e w1 ⟨rfl, rfl⟩
    go_wp2_with fail
    go_ret2
    exact ⟨_, [], _, rfl, World.ownsRow_nil _ _ _ _, Tells.err HE.out, Below.refl _ _⟩

set_option maxHeartbeats 1600000 in
set_option maxRecDepth 100000 in
theorem refDivMod_any (v u : Value) (xs ys : List Int) (w : World) (h : Sl w v xs) (g : Sl w u ys) (lx : xs.length ≤ 8192) (ly : ys.length ≤ 8192) (tx : Trimmed xs) (ty : Trimmed ys) (h0 : 0 < ys.length) :
    Calls Tryz.prog 140 #[v, u] w fun e w' => ∃ v1 u1 q r, e = .returned (.tuple #[v1, u1, .int .i64 0]) ∧ w'.ownsRow w.heap.size 94 1 v1 q.length (q.map (Value.int .u32)) ∧ w'.ownsRow w.heap.size 94 1 u1 r.length (r.map (Value.int .u32)) ∧ Wd q ∧ Wd r ∧ Trimmed q ∧ Trimmed r ∧ val xs = val q * val ys + val r ∧ val r < val ys ∧ Below w.heap.size w w' := by
  have HB := hid (refBoth_sl v u xs ys w h g (by omega) (by omega))
  have HP := hid (refOver_any v u xs ys w h g (by omega) (by omega) tx ty h0)
  rw [both_good (chk_good lx tx) (chk_good ly ty)] at HB
  obtain ⟨a, cap, rfl, hr⟩ := h
  obtain ⟨b, cap', rfl, gr⟩ := g
  have h1 : ((ys.length : Int) == 0) = false := by simp; exact fun e => by rw [e] at h0; simp at h0
  clear hr gr
  go_enter Tryz.func140, Tryz.ntmps140
  go_wp2_with fail
  refine Calls.mono HB.out ?_
  rintro e w1 ⟨rfl, rfl⟩
  go_wp2_with fail
  refine Calls.mono HP.out ?_
  rintro e w2 ⟨v2, zs, v3, rs, rfl, o2, o3, wz, wr', tz, tr, hv, hlt, hb2⟩
  have HR := hid (And.intro o2 (And.intro o3 (And.intro hv (And.intro hlt hb2))))
  clear o2 o3 hv hlt hb2 HP HB
  go_wp2_with fail
  go_ret3
  exact ⟨v2, v3, zs, rs, rfl, HR.out.1, HR.out.2.1, wz, wr', tz, tr, HR.out.2.2.1, HR.out.2.2.2.1, HR.out.2.2.2.2⟩
end Go.Proofs.YtldeiapikkebgaaGreatDoor

/- The laws of layer 2: lives (two of the chapter's examples hold); the document's own made, Of. -/
namespace Go.Proofs.YtldeiapikkebgaaGreatDoor
open Go.RowKit
set_option linter.unusedVariables false

theorem wlim_big : (18446744073709551616 : Int) ≤ wlim := by
  have : (4294967296 : Int) ^ 2 ≤ 4294967296 ^ 2048 := pw_le (by omega)
  unfold wlim
  have e : (4294967296 : Int) ^ 2 = 18446744073709551616 := by decide
  rw [e] at this
  exact this
end Go.Proofs.YtldeiapikkebgaaGreatDoor

/- The document's own whole numbers: slackwaterref02.Check, Product. -/
namespace Go.Proofs.YtldeiapikkebgaaGreatDoor
open Go.RowKit
set_option linter.unusedVariables false

end Go.Proofs.YtldeiapikkebgaaGreatDoor

/- The document's own fractions: over, trimmed, whole, one, size. -/
namespace Go.Proofs.YtldeiapikkebgaaGreatDoor
open Go.RowKit
set_option linter.unusedVariables false

set_option maxHeartbeats 800000 in
set_option maxRecDepth 100000 in
theorem over3_any (v u : Value) (xs ys : List Int) (w : World) (h : Sl w v xs) (g : Sl w u ys) (lx : xs.length ≤ 8192) (ly : ys.length ≤ 8192) (tx : Trimmed xs) (ty : Trimmed ys) (h0 : 0 < ys.length) :
    Calls Tryz.prog 110 #[v, u] w (Told1 w (val xs / val ys)) := by
  have HH := hid (refDivMod_any v u xs ys w h g lx ly tx ty h0)
  obtain ⟨a, cap, rfl, hr⟩ := h
  obtain ⟨b, cap', rfl, gr⟩ := g
  clear hr gr
  go_enter Tryz.func110, Tryz.ntmps110
  go_wp2_with fail
  refine Calls.mono HH.out ?_
  rintro e w1 ⟨v1, v2, q, r, rfl, o1, o2, wq, wr, tq, tr, hq, hr, hb1⟩
  have hv : val q = val xs / val ys := by
    have r0 := val_nonneg wr
    rw [hq, Int.add_comm, Int.add_mul_ediv_right _ _ (by omega), Int.ediv_eq_zero_of_lt r0 hr]
    omega
  obtain ⟨a1, c1, hs1⟩ := own_slice' o1
  subst hs1
  obtain ⟨a2, c2, hs2⟩ := own_slice' o2
  subst hs2
  have HE := hid (And.intro o1 (And.intro wq (And.intro tq (And.intro hv hb1))))
  clear o1 o2 wq wr tq tr hq hr hb1 hv HH
  go_wp2_with fail
  go_ret
  exact ⟨_, q, rfl, HE.out.1, HE.out.2.1, HE.out.2.2.1, HE.out.2.2.2.1, HE.out.2.2.2.2⟩

set_option maxHeartbeats 1600000 in
set_option maxRecDepth 100000 in
theorem trimmed3_any (v : Value) (xs : List Int) (w : World) (h : Sl w v xs) (hn : xs.length ≤ 281474976710656) :
    Calls Tryz.prog 69 #[v] w fun e w' => e = .returned (.bool (decide (sz xs = xs.length))) ∧ Below w.heap.size w w' := by
  have wx := h.wd
  obtain ⟨a, cap, rfl, hr⟩ := h
  have HCL := hid hr.cells
  have hcap := hr.2.2.2.1
  have hcap2 := hr.2.2.2.2.1
  have HB := hid (Below.refl w.heap.size w)
  clear hr
  have hcl : Trimmed xs ↔ xs.length = 0 ∨ ¬ xs[xs.length - 1]?.getD 0 = 0 := by rw [← sz_eq_iff]; exact Iff.rfl
  obtain ⟨k, hk⟩ : ∃ k, xs.length = k := ⟨_, rfl⟩
  rw [hk] at hcl
  by_cases h0 : k = 0
  · subst h0
    have HW : Hid (decide (sz xs = xs.length) = true) := by show _ = _; exact decide_eq_true (hcl.2 (.inl rfl))
    rw [HW.out, hk]
    clear hk hcl HCL wx
    go_enter Tryz.func69, Tryz.ntmps69
    go_wp2_with fail
    go_ret
    exact ⟨rfl, HB.out⟩
  · obtain ⟨m, hm⟩ : ∃ m, k = m + 1 := ⟨k - 1, by omega⟩
    subst hm
    have bx := wx.at m
    rw [show m + 1 - 1 = m by omega] at hcl
    have hkz : ((m : Int) + 1 == 0) = false := beq_eq_false_iff_ne.2 (by omega)
    have hm1 : (m : Int) ≤ 281474976710656 := by omega
    rw [hk] at HCL hcap ⊢
    obtain ⟨b1, o1, rfl, l1, cx⟩ := HCL.out m (by omega)
    have him : ((m + 1 : Nat) : Int) - 1 = (m : Int) := by omega
    by_cases hz : xs[m]?.getD 0 = 0
    · have HW : Hid (decide (sz xs = xs.length) = false) := by show _ = _; exact decide_eq_false (fun h => (hcl.1 h).elim (fun e => by omega) (fun e => e hz))
      rw [hk] at HW
      rw [HW.out]
      rw [hz] at cx
      clear hk hcl HCL hz bx wx
      go_enter Tryz.func69, Tryz.ntmps69
      go_wp2_with fail
      go_ret
      exact ⟨rfl, HB.out⟩
    · have HW : Hid (decide (sz xs = xs.length) = true) := by show _ = _; exact decide_eq_true (hcl.2 (.inr hz))
      rw [hk] at HW
      rw [HW.out]
      obtain ⟨X, hX⟩ : ∃ X, xs[m]?.getD 0 = X := ⟨_, rfl⟩
      rw [hX] at cx hz bx
      have hzb : (X != 0) = true := by simp [hz]
      clear hk hcl HCL hX wx
      go_enter Tryz.func69, Tryz.ntmps69
      go_wp2_with fail
      go_ret
      exact ⟨rfl, HB.out⟩

theorem one3_any (w : World) : Calls Tryz.prog 46 #[] w fun e w' => ∃ g, e = .returned (.slice (some ⟨g, 0, none⟩) 1 1) ∧ w'.ownsRow w.heap.size 94 1 (.slice (some ⟨g, 0, none⟩) 1 1) 1 ([(1 : Int)].map (Value.int .u32)) ∧ Below w.heap.size w w' := by
  have HO : Hid ((w.alloc (.cells #[.int .u32 1] 94)).ownsRow w.heap.size 94 1 (.slice (some ⟨w.heap.size, 0, none⟩) 1 1) 1 ([(1 : Int)].map (Value.int .u32))) := ⟨rfl, .inr ⟨w.heap.size, 1, #[.int .u32 1], rfl, Nat.le_refl _, Box.made w _ _, Nat.le_refl _, by unfold maxLen; simp, rfl, rfl⟩⟩
  have HB := hid (alloc_later w (.cells #[.int .u32 1] 94))
  go_enter Tryz.func46, Tryz.ntmps46
  go_wp2_with fail
  go_ret
  exact ⟨w.heap.size, rfl, HO.out, HB.out⟩
end Go.Proofs.YtldeiapikkebgaaGreatDoor

/- The document's own fractions: Of: a fraction of a sign and two sizes, in its one form. -/
namespace Go.Proofs.YtldeiapikkebgaaGreatDoor
open Go.RowKit
set_option linter.unusedVariables false

theorem rt_zero (n : Bool) (ys : List Int) : RTells 0 (Rat.divInt (sg n (val [])) (val ys)) false [] [1] 0 := by
  have e : Rat.divInt (sg n (val [])) (val ys) = Rat.divInt 0 1 := by cases n <;> simp [sg, val, valTo]
  rw [e]
  obtain ⟨e1, e2⟩ := fr_num (x := 0) (d := 1) (by omega) (by decide)
  have hk : rchk false [] [1] = 0 := rchk_good (by simp) (by simp) rfl rfl (by simp) (.inl rfl) (by decide)
  refine ⟨Wd.nil, Wd.one (by omega), fun h => absurd rfl h, fun _ hl => ?_, fun _ _ => ⟨rfl, hk, ?_⟩⟩
  · exfalso
    unfold rlong at hl
    rw [e1, e2] at hl
    have := wlim_big
    simp at hl
    omega
  · unfold rq
    rfl
theorem RTold.later {w W W' : World} {e : Int} {q : Rat} {x : Ending} (h : RTold w e q x W) (hb : Below W.heap.size W W') : RTold w e q x W' := by
  obtain ⟨n, v, xs, u, ys, code, rfl, o1, o2, t, hbw⟩ := h
  exact ⟨n, v, xs, u, ys, code, rfl, owns_later o1 hb, owns_later o2 hb, t, bt hbw hb⟩
theorem rt_rlong {n : Bool} {zs ds : List Int} (wz : Wd zs) (tz : Trimmed zs) (wd : Wd ds) (td : Trimmed ds) (hd : 0 < val ds) (hg : gcdI (val zs) (val ds) = 1) : rlong (Rat.divInt (sg n (val zs)) (val ds)) ↔ 2048 < max zs.length ds.length := by
  have hz0 := val_nonneg wz
  obtain ⟨e1, e2⟩ := fr_num (x := sg n (val zs)) hd (by rw [gcd_sg]; exact hg)
  unfold rlong
  rw [e1, e2, abs_sg n hz0, ← len2048 wz tz, ← len2048 wd td]
  omega
theorem rt_good {n : Bool} {zs ds : List Int} (wz : Wd zs) (tz : Trimmed zs) (wd : Wd ds) (td : Trimmed ds) (hz : 0 < zs.length) (hd : 0 < val ds) (hg : gcdI (val zs) (val ds) = 1) (l1 : zs.length ≤ 2048) (l2 : ds.length ≤ 2048) : RTells 0 (Rat.divInt (sg n (val zs)) (val ds)) n zs ds 0 := by
  have hl := rt_rlong (n := n) wz tz wd td hd hg
  have hd0 : 0 < ds.length := by
    by_cases c : 0 < ds.length
    · exact c
    · have := trimmed_zero' (us := ds) (by omega); omega
  exact ⟨wz, wd, fun h => absurd rfl h, fun _ h' => absurd (hl.1 h') (by omega), fun _ _ => ⟨rfl, rchk_good l1 l2 tz td hd0 (.inr hz) hg, rfl⟩⟩
theorem rt_long {n : Bool} {zs ds : List Int} (wz : Wd zs) (tz : Trimmed zs) (wd : Wd ds) (td : Trimmed ds) (hd : 0 < val ds) (hg : gcdI (val zs) (val ds) = 1) (h : 2048 < zs.length ∨ 2048 < ds.length) : RTells 0 (Rat.divInt (sg n (val zs)) (val ds)) false [] [] 3 := by
  have hl := rt_rlong (n := n) wz tz wd td hd hg
  exact ⟨Wd.nil, Wd.nil, fun h => absurd rfl h, fun _ _ => ⟨rfl, rfl, rfl, rfl⟩, fun _ h' => absurd (hl.2 (by omega)) h'⟩

set_option maxHeartbeats 3200000 in
set_option maxRecDepth 100000 in
theorem of3_any (n : Bool) (a : Option Addr) (ca : Nat) (xs : List Int) (b : Option Addr) (cb : Nat) (ys : List Int) (w : World) (h : Sl w (.slice a xs.length ca) xs) (g : Sl w (.slice b ys.length cb) ys) (lx : xs.length ≤ 8192) (ly : ys.length ≤ 8192) (tx : Trimmed xs) (ty : Trimmed ys) (h0 : 0 < ys.length) :
    Calls Tryz.prog 80 #[.bool n, .slice a xs.length ca, .slice b ys.length cb] w (RTold w 0 (Rat.divInt (sg n (val xs)) (val ys))) := by
  have wx := h.wd
  have wy := g.wd
  have HB : Hid (Below w.heap.size w (w.alloc (.cells #[.bool false, .slice none 0 0, .slice none 0 0] 26))) := alloc_later _ _
  have HZ : Hid (Box (w.alloc (.cells #[.bool false, .slice none 0 0, .slice none 0 0] 26)) w.heap.size 26 #[.bool false, .slice none 0 0, .slice none 0 0]) := Box.made w _ _
  have HLT : Hid (w.heap.size < (w.alloc (.cells #[.bool false, .slice none 0 0, .slice none 0 0] 26)).heap.size) := HZ.out.lt
  by_cases hx : xs.length = 0
  · obtain rfl : xs = [] := List.eq_nil_of_length_eq_zero hx
    obtain ⟨K, hK⟩ : ∃ K, K = ([] : List Int).length := ⟨_, rfl⟩
    have hK0 : ((K : Int) == 0) = true := by rw [hK]; rfl
    have HT := hid (rt_zero n ys)
    have HO := hid (one3_any (w.alloc (.cells #[.bool false, .slice none 0 0, .slice none 0 0] 26)))
    rw [← hK]
    obtain ⟨q, hq⟩ : ∃ q, q = Rat.divInt (sg n (val [])) (val ys) := ⟨_, rfl⟩
    rw [← hq] at HT ⊢
    clear hx hK h g hq
    go_enter Tryz.func80, Tryz.ntmps80
    go_wp2_with fail
    refine Calls.mono HO.out ?_
    generalize (w.alloc (.cells #[.bool false, .slice none 0 0, .slice none 0 0] 26)) = X at *
    rintro e w1 ⟨g1, rfl, o1, hb1⟩
    obtain ⟨y0, y1, y2, f0, f1, f2⟩ := res_box3 HZ.out hb1
    have HR : Hid (w1.ownsRow X.heap.size 94 1 (.slice none 0 0) ([] : List Int).length (([] : List Int).map (Value.int .u32)) ∧ w1.ownsRow X.heap.size 94 1 (.slice (some ⟨g1, 0, none⟩) 1 1) [(1 : Int)].length ([(1 : Int)].map (Value.int .u32)) ∧ RTells 0 q false [] [1] 0) := ⟨World.ownsRow_nil _ _ _ _, o1, HT.out⟩
    have HBW := hid (bt HB.out hb1)
    clear o1 hb1 HO
    go_wp2_with fail
    refine bodyPost_ret (v := .tuple #[.agg #[.bool false, .slice none 0 0, .slice (some ⟨g1, 0, none⟩) 1 1], .int .i64 0]) (by simp [results, Tryz.results80, go_sem, y0, y1, y2]) rfl ?_
    exact RTold.put HR.out w.heap.size HLT.out (Nat.le_refl _) HBW.out _ _ _
  · have hx' : ((xs.length : Int) == 0) = false := beq_eq_false_iff_ne.2 (by omega)
    have hz := both_good (chk_good lx tx) (chk_good ly ty)
    have HW := hid (gcd_wide wx wy hz)
    have HG := hid (refGcd_sl _ _ xs ys (w.alloc (.cells #[.bool false, .slice none 0 0, .slice none 0 0] 26)) (h.later HB.out) (g.later HB.out) (by omega) (by omega))
    rw [hz] at HG
    have HS := hid (And.intro (h.later HB.out) (g.later HB.out))
    have HPY : Hid (0 < val ys) := by have := val_pos' wy ty h0; show _ < _; omega
    have HPX : Hid (0 < val xs) := by have := val_pos' wx tx (by omega); show _ < _; omega
    have HMP := hid (make_parts (n := n) (m := false) (val_nonneg wx) HPY.out)
    have HGP : Hid (0 < gcdI (val xs) (val ys) ∧ gcdI (val xs) (val ys) ≤ val ys ∧ gcdI (val xs) (val ys) ≤ val xs) := ⟨gcd_pos_right HPY.out, gcd_le_right HPY.out, Int.le_of_dvd HPX.out (Int.gcd_dvd_left ..)⟩
    have hnf : (n != false) = n := by cases n <;> rfl
    rw [hnf] at HMP
    have HTT := hid (And.intro tx ty)
    have HWY := hid (And.intro wx wy)
    obtain ⟨q, hq⟩ : ∃ q, q = Rat.divInt (sg n (val xs)) (val ys) := ⟨_, rfl⟩
    rw [← hq]
    have HQ := hid hq
    clear hx hz h g hq hnf tx ty wx wy
    go_enter Tryz.func80, Tryz.ntmps80
    go_wp2_with fail
    refine Calls.mono HG.out ?_
    generalize (w.alloc (.cells #[.bool false, .slice none 0 0, .slice none 0 0] 26)) = X at *
    rintro e w1 ⟨v1, z1, c1, rfl, o1, t1, hb1⟩
    obtain ⟨rfl, hv1⟩ := t1.good rfl HW.out
    obtain ⟨a1, k1, hs1⟩ := own_slice' o1
    subst hs1
    have l1 : z1.length ≤ 8192 := by
      refine Nat.le_trans (len_of_lt t1.wd t1.trim (L := ys.length) ?_) ly
      rw [hv1]
      have := HGP.out
      have := val_lt HWY.out.2
      omega
    have p1 : 0 < z1.length := by
      by_cases c : 0 < z1.length
      · exact c
      · have := trimmed_zero' (us := z1) (by omega)
        have := HGP.out
        omega
    have HS1 := hid (Sl.own o1 t1.wd)
    have HO1 := hid (over3_any _ _ xs z1 w1 (HS.out.1.later hb1) HS1.out lx l1 HTT.out.1 t1.trim p1)
    have HO2 := hid (fun ww (hb : Below w1.heap.size w1 ww) => over3_any _ _ ys z1 ww ((HS.out.2.later hb1).later hb) (HS1.out.later hb) ly l1 HTT.out.2 t1.trim p1)
    rw [hv1] at HO1 HO2
    have HB1 := hid hb1
    clear o1 t1 hv1 hb1 HG
    go_wp2_with fail
    refine Calls.mono HO1.out ?_
    rintro e w2 ⟨v2, z2, rfl, o2, wd2, tr2, hv2, hb2⟩
    obtain ⟨a2, k2, hs2⟩ := own_slice' o2
    subst hs2
    have HC2 := hid (HO2.out w2 hb2)
    have HN2 := hid (And.intro (owns_base o2 HB1.out.size) (And.intro wd2 (And.intro tr2 hv2)))
    have HB2 := hid (bt HB1.out hb2)
    clear o2 wd2 tr2 hv2 hb2 HO1 HO2 HS1
    go_wp2_with fail
    refine Calls.mono HC2.out ?_
    rintro e w3 ⟨v3, z3, rfl, o3, wd3, tr3, hv3, hb3⟩
    obtain ⟨a3, k3, hs3⟩ := own_slice' o3
    subst hs3
    have HN3 := hid (And.intro (owns_later HN2.out.1 hb3) (And.intro (owns_base o3 HB2.out.size) (And.intro wd3 (And.intro tr3 hv3))))
    have HB3 := hid (bt HB2.out hb3)
    have HBR := hid (bt HB3.out (alloc_later w3 (.cells #[.bool n, .slice a2 z2.length k2, .slice a3 z3.length k3] 26)))
    obtain ⟨y0, y1, y2, f0, f1, f2⟩ := res_box3 HZ.out HB3.out
    have hlt : w.heap.size < w3.heap.size := Nat.lt_of_lt_of_le HLT.out HB3.out.size
    have HGZ : Hid (gcdI (val z2) (val z3) = 1 ∧ 0 < val z3 ∧ 0 < z2.length) := by
      refine ⟨by rw [HN2.out.2.2.2, hv3]; exact HMP.out.2.1, by rw [hv3]; exact HMP.out.1, ?_⟩
      by_cases c : 0 < z2.length
      · exact c
      · have e0 := trimmed_zero' (us := z2) (by omega)
        have e1 := HN2.out.2.2.2
        have e2 := HGP.out
        have e3 : 1 ≤ val xs / gcdI (val xs) (val ys) := Int.le_ediv_of_mul_le e2.1 (by omega)
        omega
    have HQQ : Hid (q = Rat.divInt (sg n (val z2)) (val z3)) := by
      show _ = _
      rw [HQ.out, HN2.out.2.2.2, hv3]
      exact HMP.out.2.2.symm
    clear o3 wd3 tr3 hv3 hb3 HC2
    by_cases hl2 : 2048 < z2.length
    · have hl2' : (2048 : Int) < (z2.length : Int) := by omega
      have HR : Hid (w3.ownsRow X.heap.size 94 1 (.slice none 0 0) ([] : List Int).length (([] : List Int).map (Value.int .u32)) ∧ w3.ownsRow X.heap.size 94 1 (.slice none 0 0) ([] : List Int).length (([] : List Int).map (Value.int .u32)) ∧ RTells 0 q false [] [] 3) := ⟨World.ownsRow_nil _ _ _ _, World.ownsRow_nil _ _ _ _, by rw [HQQ.out]; exact rt_long HN2.out.2.1 HN2.out.2.2.1 HN3.out.2.2.1 HN3.out.2.2.2.1 HGZ.out.2.1 HGZ.out.1 (.inl hl2)⟩
      clear hl2 HW HMP HGP HTT HWY HQ HS HPX HPY HN2 HN3 HGZ HQQ HBR l1 p1 lx ly h0
      go_wp2_with fail
      refine bodyPost_ret (v := .tuple #[.agg #[.bool false, .slice none 0 0, .slice none 0 0], .int .i64 3]) (by simp [results, Tryz.results80, go_sem, y0, y1, y2, hlt]) rfl ?_
      exact (RTold.put HR.out w.heap.size HLT.out (Nat.le_refl _) (bt HB.out HB3.out) _ _ _).later (alloc_later _ _)
    · have hl2' : ¬ (2048 : Int) < (z2.length : Int) := by omega
      by_cases hl3 : 2048 < z3.length
      · have hl3' : (2048 : Int) < (z3.length : Int) := by omega
        have HR : Hid (w3.ownsRow X.heap.size 94 1 (.slice none 0 0) ([] : List Int).length (([] : List Int).map (Value.int .u32)) ∧ w3.ownsRow X.heap.size 94 1 (.slice none 0 0) ([] : List Int).length (([] : List Int).map (Value.int .u32)) ∧ RTells 0 q false [] [] 3) := ⟨World.ownsRow_nil _ _ _ _, World.ownsRow_nil _ _ _ _, by rw [HQQ.out]; exact rt_long HN2.out.2.1 HN2.out.2.2.1 HN3.out.2.2.1 HN3.out.2.2.2.1 HGZ.out.2.1 HGZ.out.1 (.inr hl3)⟩
        clear hl2 hl3 HW HMP HGP HTT HWY HQ HS HPX HPY HN2 HN3 HGZ HQQ HBR l1 p1 lx ly h0
        go_wp2_with fail
        refine bodyPost_ret (v := .tuple #[.agg #[.bool false, .slice none 0 0, .slice none 0 0], .int .i64 3]) (by simp [results, Tryz.results80, go_sem, y0, y1, y2, hlt]) rfl ?_
        exact (RTold.put HR.out w.heap.size HLT.out (Nat.le_refl _) (bt HB.out HB3.out) _ _ _).later (alloc_later _ _)
      · have hl3' : ¬ (2048 : Int) < (z3.length : Int) := by omega
        have HR : Hid (w3.ownsRow X.heap.size 94 1 (.slice a2 z2.length k2) z2.length (z2.map (Value.int .u32)) ∧ w3.ownsRow X.heap.size 94 1 (.slice a3 z3.length k3) z3.length (z3.map (Value.int .u32)) ∧ RTells 0 q n z2 z3 0) := ⟨HN3.out.1, HN3.out.2.1, by rw [HQQ.out]; exact rt_good HN2.out.2.1 HN2.out.2.2.1 HN3.out.2.2.1 HN3.out.2.2.2.1 HGZ.out.2.2 HGZ.out.2.1 HGZ.out.1 (by omega) (by omega)⟩
        clear hl2 hl3 HW HMP HGP HTT HWY HQ HS HPX HPY HN2 HN3 HGZ HQQ HBR l1 p1 lx ly h0
        go_wp2_with fail
        refine bodyPost_ret (v := .tuple #[.agg #[.bool n, .slice a2 z2.length k2, .slice a3 z3.length k3], .int .i64 0]) (by simp [results, Tryz.results80, go_sem, y0, y1, y2, hlt]) rfl ?_
        exact (RTold.put HR.out w.heap.size HLT.out (Nat.le_refl _) (bt HB.out HB3.out) _ _ _).later (alloc_later _ _)
end Go.Proofs.YtldeiapikkebgaaGreatDoor

/- Fractions: ratio.Small. -/
namespace Go.Proofs.YtldeiapikkebgaaGreatDoor
open Go.RowKit
set_option linter.unusedVariables false

end Go.Proofs.YtldeiapikkebgaaGreatDoor

/- The document's own fractions: Make, size, Small. -/
namespace Go.Proofs.YtldeiapikkebgaaGreatDoor
open Go.RowKit
set_option linter.unusedVariables false

end Go.Proofs.YtldeiapikkebgaaGreatDoor

/- The document's own fractions: Small; two fractions with the same words. -/
namespace Go.Proofs.YtldeiapikkebgaaGreatDoor
open Go.RowKit
set_option linter.unusedVariables false

set_option maxHeartbeats 1600000 in
set_option maxRecDepth 100000 in
theorem sameRatio_eq (n : Bool) (v u v' u' : Value) (xs ys : List Int) (w : World) (h : Sl w v xs) (g : Sl w u ys) (h' : Sl w v' xs) (g' : Sl w u' ys) (lx : xs.length ≤ 281474976710656) (ly : ys.length ≤ 281474976710656) :
    Calls Tryz.prog 81 #[.agg #[.bool n, v, u], .agg #[.bool n, v', u']] w fun e w' => e = .returned (.bool true) ∧ Below w.heap.size w w' := by
  have HB : Hid (Below w.heap.size w ((w.alloc (.cells #[.bool n, v, u] 26)).alloc (.cells #[.bool n, v', u'] 26))) := bt (alloc_later _ _) (alloc_later _ _)
  have HN : Hid (Box ((w.alloc (.cells #[.bool n, v, u] 26)).alloc (.cells #[.bool n, v', u'] 26)) w.heap.size 26 #[.bool n, v, u]) := Box.later (Box.made w _ _) (alloc_later _ _) (by simp)
  have HM : Hid (Box ((w.alloc (.cells #[.bool n, v, u] 26)).alloc (.cells #[.bool n, v', u'] 26)) (w.heap.size + 1) 26 #[.bool n, v', u']) := by
    have e := Box.made (w.alloc (.cells #[.bool n, v, u] 26)) 26 #[.bool n, v', u']
    simp at e
    exact e
  have H1 := hid (same_sl v v' xs xs _ (h.later HB.out) (h'.later HB.out) lx lx)
  rw [decide_eq_true rfl] at H1
  have H2 := hid (fun ww (hb : Below _ ((w.alloc (.cells #[.bool n, v, u] 26)).alloc (.cells #[.bool n, v', u'] 26)) ww) => same_sl u u' ys ys ww ((g.later HB.out).later hb) ((g'.later HB.out).later hb) ly ly)
  rw [decide_eq_true rfl] at H2
  have hbb : (n == n) = true := by simp
  obtain ⟨a, ca, rfl, hr⟩ := h
  obtain ⟨b, cb, rfl, gr⟩ := g
  obtain ⟨a', ca', rfl, hr'⟩ := h'
  obtain ⟨b', cb', rfl, gr'⟩ := g'
  clear hr gr hr' gr'
  go_enter Tryz.func81, Tryz.ntmps81
  go_wp2_with fail
  refine Calls.mono H1.out ?_
  generalize ((w.alloc (.cells #[.bool n, .slice a xs.length ca, .slice b ys.length cb] 26)).alloc (.cells #[.bool n, .slice a' xs.length ca', .slice b' ys.length cb'] 26)) = X at *
  rintro e w1 ⟨rfl, hb1⟩
  obtain ⟨p0, p1, p2, _, _, _⟩ := res_box3 HN.out hb1
  obtain ⟨q0, q1, q2, _, _, _⟩ := res_box3 HM.out hb1
  have HC := hid (H2.out w1 hb1)
  have HB1 := hid (bt HB.out hb1)
  clear hb1 H1 H2
  go_wp2_with fail
  refine Calls.mono HC.out ?_
  rintro e w2 ⟨rfl, hb2⟩
  have HBN := hid (bt HB1.out hb2)
  clear hb2 HC
  go_wp2_with fail
  go_ret
  exact ⟨rfl, HBN.out⟩
end Go.Proofs.YtldeiapikkebgaaGreatDoor

