/- My texts on the way to RotorLists, one behind the other: contracts of the program and of the document's answers. -/
import Derived.Test.YtkkehddpblkegaaJ1
import Derived.BigQuiet
import Derived.Handy
import Derived.Deep.CutRange
import Derived.Deep.LoopGhost
import Derived.Deep.Cut
import Derived.Deep.RegionHeld3
import Derived.Laws.ResultCell
import Derived.Deep.QuietTactic
import Derived.Deep.RegionLaw
import Derived.Laws.AppendOwnNone
/- nat.look: the leap that the highest bits of two numbers tell. -/
namespace Go.Proofs.Ytkkehddpblkegaa
open Go.RowKit
set_option linter.unusedVariables false

theorem lead_fit (x : Int) (h0 : 1 ≤ x) (h1 : x ≤ 4294967295) (t : Nat) (ht : 32 - Lib.bitLen x.toNat = t) : t ≤ 31 ∧ ∀ y : Int, 0 ≤ y → y ≤ x → y * 2 ^ t < 4294967296 := by
  obtain ⟨a, b, c⟩ := bitLen_bounds x h0 h1
  have h2 := bitLen_le32 x h1
  refine ⟨by omega, fun y hy hyx => ?_⟩
  have e := two_split (Lib.bitLen x.toNat) h2
  rw [ht] at e
  have hp := two_pos t
  have e1 : (y + 1) * 2 ^ t ≤ 2 ^ Lib.bitLen x.toNat * 2 ^ t := Int.mul_le_mul_of_nonneg_right (by omega) (by omega)
  rw [Int.add_mul] at e1
  omega

/-- What look tells. -/
def Looked (w : World) (X Y : Int) (x : Ending) (w' : World) : Prop := ∃ s a b c d : Int, x = .returned (.agg #[.int .i64 s, .int .i64 a, .int .i64 b, .int .i64 c, .int .i64 d]) ∧ 0 ≤ s ∧ s ≤ 4611686018427387904 ∧ (s = 0 ∨ (1 ≤ s ∧ Leaps X Y a b c d)) ∧ Below w.heap.size w w'

theorem Box.put5 {w : World} {b t : Nat} {z0 z1 z2 z3 z4 : Value} (h : Box w b t #[z0, z1, z2, z3, z4]) (v0 v1 v2 v3 v4 : Value) :
    Box (((((w.setCell ⟨b, 0, none⟩ v0).setCell ⟨b, 1, none⟩ v1).setCell ⟨b, 2, none⟩ v2).setCell ⟨b, 3, none⟩ v3).setCell ⟨b, 4, none⟩ v4) b t #[v0, v1, v2, v3, v4] :=
  ((((h.set 0 v0).set 1 v1).set 2 v2).set 3 v3).set 4 v4
theorem below_put5 {B : Nat} {a w : World} (h : Below B a w) (b : Nat) (hb : B ≤ b) (v0 v1 v2 v3 v4 : Value) :
    Below B a (((((w.setCell ⟨b, 0, none⟩ v0).setCell ⟨b, 1, none⟩ v1).setCell ⟨b, 2, none⟩ v2).setCell ⟨b, 3, none⟩ v3).setCell ⟨b, 4, none⟩ v4) :=
  ((((h.setCell (p := ⟨b, 0, none⟩) hb _).setCell (p := ⟨b, 1, none⟩) hb _).setCell (p := ⟨b, 2, none⟩) hb _).setCell (p := ⟨b, 3, none⟩) hb _).setCell (p := ⟨b, 4, none⟩) hb _

theorem new_box {wr w5 : World} {vs : Array Value} {t : Nat} (hb : Below (wr.alloc (.cells vs t)).drew.heap.size (wr.alloc (.cells vs t)).drew w5) : Box w5 wr.heap.size t vs ∧ Below wr.heap.size wr w5 := by
  have h1 : Below (wr.alloc (.cells vs t)).heap.size (wr.alloc (.cells vs t)) w5 := (Below.refl _ (wr.alloc (.cells vs t))).drew.trans hb
  exact ⟨(Box.made wr t vs).later h1 (by simp), bt (alloc_later _ _) h1⟩
theorem Box.put5_other {w : World} {b t b' : Nat} {vs : Array Value} (h : Box w b t vs) (hne : b ≠ b') (v0 v1 v2 v3 v4 : Value) :
    Box (((((w.setCell ⟨b', 0, none⟩ v0).setCell ⟨b', 1, none⟩ v1).setCell ⟨b', 2, none⟩ v2).setCell ⟨b', 3, none⟩ v3).setCell ⟨b', 4, none⟩ v4) b t vs :=
  ((((h.other ⟨b', 0, none⟩ _ hne).other ⟨b', 1, none⟩ _ hne).other ⟨b', 2, none⟩ _ hne).other ⟨b', 3, none⟩ _ hne).other ⟨b', 4, none⟩ _ hne

theorem top_le {xs ys : List Int} (wx : Wd xs) (wy : Wd ys) (n : Nat) (lx : xs.length = n + 1) (ly : ys.length = n + 1) (h : val ys ≤ val xs) : ys[n]?.getD 0 ≤ xs[n]?.getD 0 := by
  by_cases c : ys[n]?.getD 0 ≤ xs[n]?.getD 0
  · exact c
  · have := val_lt_of wx wy n (by omega) (fun j hj => by rw [List.getElem?_eq_none (by omega), List.getElem?_eq_none (by omega)])
    omega

/-- The sizes that a step's factors have. -/
theorem step_sizes {s g A B C D p q a b c d Q : Int} (h : Lp s g A B C D) (hQ : 1 ≤ Q) (hD : B + Q * D ≤ 4611686018427387903) (ha : a = g * A) (hb : b = -(g * B)) (hc : c = -(g * C)) (hd : d = g * D) :
    IntKind.i64.wrap (Q * c) = Q * c ∧ IntKind.i64.wrap (Q * d) = Q * d ∧ IntKind.i64.wrap (a - Q * c) = a - Q * c ∧ IntKind.i64.wrap (b - Q * d) = b - Q * d ∧ d = -(-g * D) ∧ c = -g * C ∧ a - Q * c = -(-g * (A + Q * C)) ∧ b - Q * d = -g * (B + Q * D) := by
  obtain ⟨a0, b0, c0, cd, d1, det, sgn, way⟩ := h
  have q1 : 0 ≤ Q * C := Int.mul_nonneg (by omega) c0
  have q2 : Q * C ≤ Q * D := Int.mul_le_mul_of_nonneg_left cd (by omega)
  have q3 : 0 ≤ Q * D := Int.mul_nonneg (by omega) (by omega)
  have q4 : 1 * D ≤ Q * D := Int.mul_le_mul_of_nonneg_right hQ (by omega)
  have hA : A ≤ B + Q * D := by rcases way with ⟨_, e1, _, _, e4⟩ | ⟨_, w2, _, _, _⟩ <;> omega
  have f1 : d = -(-g * D) := by rw [hd, Int.neg_mul, Int.neg_neg]
  have f2 : c = -g * C := by rw [hc, Int.neg_mul]
  have f3 : a - Q * c = -(-g * (A + Q * C)) := by
    rw [ha, hc, Int.neg_mul, Int.neg_neg, Int.mul_neg, Int.mul_add, ← Int.mul_assoc Q, ← Int.mul_assoc g Q, Int.mul_comm Q g]; omega
  have f4 : b - Q * d = -g * (B + Q * D) := by
    rw [hb, hd, Int.neg_mul, Int.mul_add, ← Int.mul_assoc Q, ← Int.mul_assoc g Q, Int.mul_comm Q g]; omega
  have bb : (-4611686018427387903 ≤ Q * c ∧ Q * c ≤ 4611686018427387903) ∧ (-4611686018427387903 ≤ Q * d ∧ Q * d ≤ 4611686018427387903) ∧ (-4611686018427387903 ≤ a ∧ a ≤ 4611686018427387903) ∧ (-4611686018427387903 ≤ b ∧ b ≤ 4611686018427387903) := by
    rcases sgn with rfl | rfl
    · rw [Int.one_mul] at ha hb hc hd
      rw [hc, hd, ha, hb, Int.mul_neg]
      omega
    · rw [Int.neg_mul, Int.one_mul] at ha hb hc hd
      rw [Int.neg_neg] at hb hc
      rw [hc, hd, ha, hb, Int.mul_neg]
      omega
  exact ⟨IntWalk.i64_in _ (by omega), IntWalk.i64_in _ (by omega), IntWalk.i64_in _ (by omega), IntWalk.i64_in _ (by omega), f1, f2, f3, f4⟩

theorem abs_of {g A a : Int} (h : 0 ≤ A) (sgn : g = 1 ∨ g = -1) (ha : a = g * A ∨ a = -(g * A)) : (a.natAbs : Int) = A := by
  rcases sgn with rfl | rfl
  · simp only [Int.one_mul] at ha; omega
  · simp only [Int.neg_mul, Int.one_mul] at ha; omega

set_option maxHeartbeats 3200000 in
set_option maxRecDepth 100000 in
theorem look_any (a : Option Addr) (e cap : Nat) (xs : List Int) (b : Option Addr) (cap' : Nat) (ys : List Int) (w : World) (h : Reads w w.heap.size a (e + 3) cap xs) (g : Reads w w.heap.size b (e + 3) cap' ys) (hn : e ≤ 8192) (htop : 1 ≤ xs[e + 2]?.getD 0) (hle : val ys ≤ val xs) :
    Calls Try.prog 56 #[.slice a (e + 3) cap, .slice b (e + 3) cap'] w (Looked w (val xs) (val ys)) := by
  have bt0 := h.2.1.at (e + 2)
  have bt1 := g.2.1.at (e + 2)
  have hty := top_le h.2.1 g.2.1 (e + 2) h.1 g.1 hle
  obtain ⟨t, ht⟩ : ∃ t, 32 - Lib.bitLen (xs[e + 2]?.getD 0).toNat = t := ⟨_, rfl⟩
  obtain ⟨t31, hfit⟩ := lead_fit _ htop bt0.2 t ht
  have HLD := hid (fun ww => lead_any (xs[e + 2]?.getD 0) ww htop bt0.2)
  rw [ht] at HLD
  have HX := hid (fun ww (hb : Below w.heap.size w ww) => highest_any a e cap xs t ww (h.later hb hb.size) hn t31 (hfit _ (by omega) (Int.le_refl _)))
  have HY := hid (fun ww (hb : Below w.heap.size w ww) => highest_any b e cap' ys t ww (g.later hb hb.size) hn t31 (hfit _ bt1.1 hty))
  -- the highest bits, and what is below them
  have nx := val_nonneg h.2.1
  have ny := val_nonneg g.2.1
  have kp : (0 : Int) < 4294967296 ^ e * 2 ^ (34 - t) := Int.mul_pos (pw_pos e) (two_pos _)
  have dx : val xs / 4294967296 ^ e / 2 ^ (34 - t) = val xs / (4294967296 ^ e * 2 ^ (34 - t)) := Int.ediv_ediv_of_nonneg (Int.le_of_lt (pw_pos e))
  have dy : val ys / 4294967296 ^ e / 2 ^ (34 - t) = val ys / (4294967296 ^ e * 2 ^ (34 - t)) := Int.ediv_ediv_of_nonneg (Int.le_of_lt (pw_pos e))
  rw [dx] at HX
  rw [dy] at HY
  obtain ⟨K, hK⟩ : ∃ K : Int, 4294967296 ^ e * 2 ^ (34 - t) = K := ⟨_, rfl⟩
  rw [hK] at HX HY kp
  have mx := Int.mul_ediv_add_emod (val xs) K
  have my := Int.mul_ediv_add_emod (val ys) K
  have lx := Int.emod_lt_of_pos (val xs) kp
  have ly := Int.emod_lt_of_pos (val ys) kp
  have lx0 := Int.emod_nonneg (val xs) (show K ≠ 0 by omega)
  have ly0 := Int.emod_nonneg (val ys) (show K ≠ 0 by omega)
  have pq : val ys / K ≤ val xs / K := Int.ediv_le_ediv kp hle
  have q00 : 0 ≤ val ys / K := Int.ediv_nonneg ny (by omega)
  obtain ⟨p0, hp0⟩ : ∃ p, val xs / K = p := ⟨_, rfl⟩
  obtain ⟨q0, hq0⟩ : ∃ p, val ys / K = p := ⟨_, rfl⟩
  rw [hp0] at HX mx pq
  rw [hq0] at HY my pq q00
  have HK := hid (And.intro kp (And.intro mx (And.intro my (And.intro lx (And.intro ly (And.intro lx0 ly0))))))
  rcases h.2.2.1 with h0 | ⟨b2, o2, rfl, hb2, hc2⟩
  · omega
  have hc0 := hc2 (e + 2) (by omega)
  clear dx dy hK mx my lx ly lx0 ly0 hp0 hq0 kp hc2 h g hfit ht hty bt1 nx ny hle
  generalize xs[e + 2]?.getD 0 = top at *
  go_enter Try.func56, Try.ntmps56
  go_wp2_with fail
  refine Calls.mono (HLD.out _) ?_
  rintro x w' ⟨rfl, rfl⟩
  go_wp2_with fail
  refine Calls.mono (HX.out _ (alloc_later _ _)) ?_
  rintro x w2 ⟨rfl, p00, p01, hb2'⟩
  have hbA := bt (alloc_later _ _) hb2'
  have HR2 := hid (Box.later (Box.made w 92 #[.int .i64 0, .int .i64 0, .int .i64 0, .int .i64 0, .int .i64 0]) hb2' (by simp))
  go_wp2_with fail
  refine Calls.mono (HY.out _ hbA) ?_
  rintro x w3 ⟨rfl, _, q01, hb3⟩
  have hbB := bt hbA hb3
  have HR3 := hid (Box.later HR2.out hb3 HR2.out.lt)
  have hs3 := HR3.out.lt
  have HBB := hid hbB
  clear hb3 hb2' hbA hbB HR2 HX HY HLD hc0
  go_wp2_with fail
  go_loopw [6, 7] (fun c1 c2 wr => ∃ (s f A B C D p q a b c d : Int), c1 = .int .i64 p ∧ c2 = .int .i64 q ∧ 0 ≤ q ∧ q ≤ p ∧ p ≤ 4611686018427387903 ∧ 0 ≤ s ∧ s + q ≤ 4611686018427387903 ∧ Hid (Lp s f A B C D) ∧ Hid (p0 = D * p + B * q ∧ q0 = C * p + A * q) ∧ Hid (a = f * A ∧ b = -(f * B) ∧ c = -(f * C) ∧ d = f * D) ∧ Hid (s = 0 ∨ (D ≤ q ∧ B + D ≤ p - q)) ∧
    Box wr w3.heap.size 92 #[.int .i64 s, .int .i64 a, .int .i64 b, .int .i64 c, .int .i64 d] ∧ Box wr w.heap.size 92 #[.int .i64 0, .int .i64 0, .int .i64 0, .int .i64 0, .int .i64 0] ∧ Below w.heap.size w wr) (fun _ c2 _ => (intOf c2).toNat)
  case atStart => exact ⟨0, 1, 1, 0, 0, 1, p0, q0, 1, 0, 0, 1, rfl, rfl, q00, pq, by omega, by omega, by omega, Lp.first, show _ ∧ _ by omega, show _ ∧ _ by omega, .inl rfl, Box.made _ _ _, HR3.out.later (alloc_later _ _) hs3, bt HBB.out (alloc_later _ _)⟩
  case round =>
    obtain ⟨s, f, A, B, C, D, p, q, a', b', c', d', rfl, rfl, qa, qb, pa, sa, sq, HLP, HPQ, HAB, HH, box, res, hbel⟩ := hrel
    have k0 : wr.cell? ⟨w3.heap.size, 0, none⟩ = some (.int .i64 s) := box.cell 0
    have k1 : wr.cell? ⟨w3.heap.size, 1, none⟩ = some (.int .i64 a') := box.cell 1
    have k2 : wr.cell? ⟨w3.heap.size, 2, none⟩ = some (.int .i64 b') := box.cell 2
    have k3 : wr.cell? ⟨w3.heap.size, 3, none⟩ = some (.int .i64 c') := box.cell 3
    have k4 : wr.cell? ⟨w3.heap.size, 4, none⟩ = some (.int .i64 d') := box.cell 4
    have HFIN : Hid (s = 0 ∨ (1 ≤ s ∧ Leaps (val xs) (val ys) a' b' c' d')) := by
      rcases HH.out with h0 | ⟨h1, h2⟩
      · exact .inl h0
      · by_cases hs0 : s = 0
        · exact .inl hs0
        · right
          obtain ⟨e1, e2, e3, e4⟩ := HAB.out
          obtain ⟨kp, mx, my, lx, ly, lx0, ly0⟩ := HK.out
          refine ⟨by omega, ?_⟩
          rw [e1, e2, e3, e4]
          exact leaps_of HLP.out (by omega) (by omega) lx0 lx ly0 ly (by rw [← HPQ.out.1, Int.mul_comm]; exact mx.symm) (by rw [← HPQ.out.2, Int.mul_comm]; exact my.symm) (HLP.out.held h1 h2 HPQ.out.1 (by omega)) h1 h2
    by_cases hq : q = 0
    · subst hq
      have r0 : wr.cell? ⟨w.heap.size, 0, none⟩ = some (.int .i64 0) := res.cell 0
      have r1 : wr.cell? ⟨w.heap.size, 1, none⟩ = some (.int .i64 0) := res.cell 1
      have r2 : wr.cell? ⟨w.heap.size, 2, none⟩ = some (.int .i64 0) := res.cell 2
      have r3 : wr.cell? ⟨w.heap.size, 3, none⟩ = some (.int .i64 0) := res.cell 3
      have r4 : wr.cell? ⟨w.heap.size, 4, none⟩ = some (.int .i64 0) := res.cell 4
      have g0 := res.free 0
      have g1 := res.free 1
      have g2 := res.free 2
      have g3 := res.free 3
      have g4 := res.free 4
      go_wp2_with fail
      refine bodyPost_ret (v := .agg #[.int .i64 s, .int .i64 a', .int .i64 b', .int .i64 c', .int .i64 d']) (by simp [results, Try.results56, go_sem, r0, r1, r2, r3, r4]) rfl ?_
      exact ⟨s, a', b', c', d', rfl, sa, by omega, HFIN.out, ((((hbel.setCell (p := ⟨w.heap.size, 0, none⟩) (Nat.le_refl _) _).setCell (p := ⟨w.heap.size, 1, none⟩) (Nat.le_refl _) _).setCell (p := ⟨w.heap.size, 2, none⟩) (Nat.le_refl _) _).setCell (p := ⟨w.heap.size, 3, none⟩) (Nat.le_refl _) _).setCell (p := ⟨w.heap.size, 4, none⟩) (Nat.le_refl _) _⟩
    · have q1 : 1 ≤ q := by omega
      have hne : (q != 0) = true := by simp [hq]
      have Q1 : 1 ≤ p / q := (Int.le_ediv_iff_mul_le (by omega)).2 (by omega)
      have hpe := Int.mul_ediv_add_emod p q
      have m0' : 0 ≤ p % q := Int.emod_nonneg _ hq
      have m1 : p % q < q := Int.emod_lt_of_pos _ (by omega)
      have td : p.tdiv q = p / q := Int.tdiv_eq_ediv_of_nonneg (by omega)
      have tm : p.tmod q = p % q := Int.tmod_eq_emod_of_nonneg (by omega)
      have Qp : p / q ≤ p := Int.ediv_le_self _ (by omega)
      obtain ⟨Q, hQ⟩ : ∃ Q, p / q = Q := ⟨_, rfl⟩
      obtain ⟨r, hr⟩ : ∃ r, p % q = r := ⟨_, rfl⟩
      rw [hQ] at Q1 hpe td Qp
      rw [hr] at m0' m1 hpe tm
      have wQ : IntKind.i64.wrap Q = Q := IntWalk.i64_in _ (by omega)
      have ps := pair_step (Q := Q) (q := q) (r := r) (by rw [Int.mul_comm]; exact hpe.symm) HPQ.out.1 HPQ.out.2
      have lp' := HLP.out.step Q1
      have hD := lp'.small q1 m0' ps.1 (by omega)
      obtain ⟨e1, e2, e3, e4⟩ := HAB.out
      obtain ⟨w1', w2', w3', w4', f1, f2, f3, f4⟩ := step_sizes (p := p) (q := q) HLP.out Q1 hD e1 e2 e3 e4
      have HST := hid (fun ww => Calls.mono (step_any s a' b' c' d' Q ww ⟨sa, by omega⟩ w1' w2' w3' w4') (R' := fun e w' => e = .returned (.agg #[.int .i64 (s + 1), .int .i64 c', .int .i64 d', .int .i64 (a' - Q * c'), .int .i64 (b' - Q * d')]) ∧ Below ww.heap.size ww w' ∧
        (wr.heap.size < ww.heap.size → ∀ j, w'.cell? ⟨wr.heap.size, j, none⟩ = ww.cell? ⟨wr.heap.size, j, none⟩) ∧ (wr.heap.size < ww.heap.size → ∀ j, w'.frozen? ⟨wr.heap.size, j, none⟩ = ww.frozen? ⟨wr.heap.size, j, none⟩)) (fun _ _ h => ⟨h.1, h.2, fun hlt j => h.2.cell hlt, fun hlt j => h.2.frozen hlt⟩))
      obtain ⟨c2, hc2⟩ : ∃ c2, a' - Q * c' = c2 := ⟨_, rfl⟩
      obtain ⟨d2, hd2⟩ : ∃ d2, b' - Q * d' = d2 := ⟨_, rfl⟩
      rw [hc2] at f3 HST
      rw [hd2] at f4 HST
      obtain ⟨C2, hC2⟩ : ∃ C2, A + Q * C = C2 := ⟨_, rfl⟩
      obtain ⟨D2, hD2⟩ : ∃ D2, B + Q * D = D2 := ⟨_, rfl⟩
      rw [hC2] at lp' ps f3
      rw [hD2] at lp' ps f4 hD
      have ad := abs_of (a := d') lp'.b0 lp'.sgn (.inr f1)
      have ad2 := abs_of (a := d2) (by have := lp'.d1; omega) lp'.sgn (.inl f4)
      have lD : D ≤ D2 := by
        rcases lp'.way with ⟨x0, _⟩ | ⟨_, _, _, x3, _⟩
        · omega
        · exact x3
      have lD0 := lp'.b0
      have HHO := hid (fun ww => holds_any (s + 1) c' d' c2 d2 q r ww (by omega) (by omega) (by omega) (by omega) (by omega))
      rw [ad, ad2] at HHO
      have HLP' := hid lp'
      have HPS := hid ps
      have HAB' : Hid (c' = -f * C ∧ d' = -(-f * D) ∧ c2 = -(-f * C2) ∧ d2 = -f * D2) := ⟨f2, f1, f3, f4⟩
      have hbs := box.lt
      have hrs := res.lt
      have HBX := hid box
      have HRS := hid res
      have HBL := hid hbel
      clear lp' ps f1 f2 f3 f4 e1 e2 e3 e4 ad ad2 hC2 hD2 hc2 hd2 w1' w2' w3' w4' hpe box res hbel HLP HPQ HAB HH lD lD0 hD
      go_upto_region 5 with fail
      go_cut [9, 10] from 25 to 42 (fun n9 n10 wx => ∃ b9 : Nat, n9 = .pointer (some ⟨b9, 0, none⟩) ∧ n10 = .int .i64 r ∧ Box wx b9 92 #[.int .i64 (s + 1), .int .i64 c', .int .i64 d', .int .i64 c2, .int .i64 d2] ∧ wr.heap.size ≤ b9 ∧ Below wr.heap.size wr wx)
      case first =>
        go_region_with (go_at_call 64; with_reducible refine Calls.mono (HST.out _) ?_; rintro e w5 ⟨rfl, hb5, hx5, hy5⟩)
        all_goals
          go_wp2_with fail
          go_meet
        · exact ⟨_, rfl, rfl, Box.made _ _ _, hb5.size, bt ((Below.refl _ wr).drew.trans hb5) (alloc_later _ _)⟩
        · exact ⟨_, rfl, rfl, (new_box hb5).1.put5 _ _ _ _ _, Nat.le_refl _, below_put5 (new_box hb5).2 _ (Nat.le_refl _) _ _ _ _ _⟩
        · exact ⟨_, rfl, rfl, (new_box hb5).1.put5 _ _ _ _ _, Nat.le_refl _, below_put5 (new_box hb5).2 _ (Nat.le_refl _) _ _ _ _ _⟩
      case rest =>
        obtain ⟨b9, rfl, rfl, box9, hb9, hbw⟩ := hcut
        have n0 : wc.cell? ⟨b9, 0, none⟩ = some (.int .i64 (s + 1)) := box9.cell 0
        have n1 : wc.cell? ⟨b9, 1, none⟩ = some (.int .i64 c') := box9.cell 1
        have n2 : wc.cell? ⟨b9, 2, none⟩ = some (.int .i64 d') := box9.cell 2
        have n3 : wc.cell? ⟨b9, 3, none⟩ = some (.int .i64 c2) := box9.cell 3
        have n4 : wc.cell? ⟨b9, 4, none⟩ = some (.int .i64 d2) := box9.cell 4
        go_wp2_with fail
        refine Calls.mono (HHO.out _) ?_
        rintro e w6 ⟨rfl, hb6⟩
        have box8 := (HBX.out.later hbw hbs).later hb6 (HBX.out.later hbw hbs).lt
        have res8 := (HRS.out.later hbw hrs).later hb6 (HRS.out.later hbw hrs).lt
        have box6 := box9.later hb6 box9.lt
        have hbel : Below w.heap.size w w6 := bt HBL.out (bt hbw hb6)
        have hne6 : ¬ b9 = w3.heap.size := by omega
        have hne7 : ¬ w3.heap.size = b9 := by omega
        clear n0 n1 n2 n3 n4 k0 k1 k2 k3 k4 HST
        by_cases hh : D2 ≤ r ∧ D + D2 ≤ q - r
        · have hdec : decide (D2 ≤ r ∧ D + D2 ≤ q - r) = true := decide_eq_true hh
          rw [hdec]
          clear hdec
          have n0 : w6.cell? ⟨b9, 0, none⟩ = some (.int .i64 (s + 1)) := box6.cell 0
          have n1 : w6.cell? ⟨b9, 1, none⟩ = some (.int .i64 c') := box6.cell 1
          have n2 : w6.cell? ⟨b9, 2, none⟩ = some (.int .i64 d') := box6.cell 2
          have n3 : w6.cell? ⟨b9, 3, none⟩ = some (.int .i64 c2) := box6.cell 3
          have n4 : w6.cell? ⟨b9, 4, none⟩ = some (.int .i64 d2) := box6.cell 4
          have f0 := box8.free 0
          have f1 := box8.free 1
          have f2 := box8.free 2
          have f3 := box8.free 3
          have f4 := box8.free 4
          have m0 : w6.cell? ⟨w3.heap.size, 0, none⟩ = some (.int .i64 s) := box8.cell 0
          have m1 : w6.cell? ⟨w3.heap.size, 1, none⟩ = some (.int .i64 a') := box8.cell 1
          have m2 : w6.cell? ⟨w3.heap.size, 2, none⟩ = some (.int .i64 b') := box8.cell 2
          have m3 : w6.cell? ⟨w3.heap.size, 3, none⟩ = some (.int .i64 c') := box8.cell 3
          have m4 : w6.cell? ⟨w3.heap.size, 4, none⟩ = some (.int .i64 d') := box8.cell 4
          have HNX := hid (box8.put5 (.int .i64 (s + 1)) (.int .i64 c') (.int .i64 d') (.int .i64 c2) (.int .i64 d2))
          have HRX := hid (res8.put5_other (show w.heap.size ≠ w3.heap.size by omega) (.int .i64 (s + 1)) (.int .i64 c') (.int .i64 d') (.int .i64 c2) (.int .i64 d2))
          have HBX' := hid (below_put5 hbel w3.heap.size (by omega) (.int .i64 (s + 1)) (.int .i64 c') (.int .i64 d') (.int .i64 c2) (.int .i64 d2))
          have HHD := hid hh
          clear box6 box8 res8 box9 hbel hh hbw hb6
          go_wp2_with fail
          go_roundw
          case rel => exact ⟨s + 1, -f, C, D, C2, D2, q, r, c', d', c2, d2, rfl, rfl, m0', by omega, by omega, by omega, by omega, HLP', HPS, HAB', .inr HHD.out, HNX.out, HRX.out, HBX'.out⟩
          case measure => simp [intOf]; omega
        · have hdec : decide (D2 ≤ r ∧ D + D2 ≤ q - r) = false := decide_eq_false hh
          rw [hdec]
          clear hdec
          have m0 : w6.cell? ⟨w3.heap.size, 0, none⟩ = some (.int .i64 s) := box8.cell 0
          have m1 : w6.cell? ⟨w3.heap.size, 1, none⟩ = some (.int .i64 a') := box8.cell 1
          have m2 : w6.cell? ⟨w3.heap.size, 2, none⟩ = some (.int .i64 b') := box8.cell 2
          have m3 : w6.cell? ⟨w3.heap.size, 3, none⟩ = some (.int .i64 c') := box8.cell 3
          have m4 : w6.cell? ⟨w3.heap.size, 4, none⟩ = some (.int .i64 d') := box8.cell 4
          have r0 : w6.cell? ⟨w.heap.size, 0, none⟩ = some (.int .i64 0) := res8.cell 0
          have r1 : w6.cell? ⟨w.heap.size, 1, none⟩ = some (.int .i64 0) := res8.cell 1
          have r2 : w6.cell? ⟨w.heap.size, 2, none⟩ = some (.int .i64 0) := res8.cell 2
          have r3 : w6.cell? ⟨w.heap.size, 3, none⟩ = some (.int .i64 0) := res8.cell 3
          have r4 : w6.cell? ⟨w.heap.size, 4, none⟩ = some (.int .i64 0) := res8.cell 4
          have g0 := res8.free 0
          have g1 := res8.free 1
          have g2 := res8.free 2
          have g3 := res8.free 3
          have g4 := res8.free 4
          clear box6 box8 res8 box9 hh hbw hb6
          go_wp2_with fail
          refine bodyPost_ret (v := .agg #[.int .i64 s, .int .i64 a', .int .i64 b', .int .i64 c', .int .i64 d']) (by simp [results, Try.results56, go_sem, r0, r1, r2, r3, r4]) rfl ?_
          exact ⟨s, a', b', c', d', rfl, sa, by omega, HFIN.out, below_put5 hbel w.heap.size (Nat.le_refl _) _ _ _ _ _⟩
end Go.Proofs.Ytkkehddpblkegaa

/- nat.replace: a number in own memory becomes its rest by another one. -/
namespace Go.Proofs.Ytkkehddpblkegaa
open Go.RowKit
set_option linter.unusedVariables false

/-- Words set to nought, one behind the other. -/
theorem clear_cells {base g n cap : Nat} : ∀ (k o : Nat) (w : World) (zs : List Int), OwnC w base g n cap zs →
    ∃ us, OwnC (w.setCells g o (List.replicate k (.int .u32 0))) base g n cap us ∧ (∀ j, o ≤ j → j < o + k → us[j]?.getD 0 = 0) ∧ (∀ j, j < o → us[j]?.getD 0 = zs[j]?.getD 0) ∧ w.grownBy (w.setCells g o (List.replicate k (.int .u32 0))) (some g)
  | 0, o, w, zs, h => ⟨zs, h, fun j h1 h2 => by omega, fun _ _ => rfl, World.grownBy.refl _ _⟩
  | k + 1, o, w, zs, h => by
    obtain ⟨h1, hg⟩ := OwnC.set h o 0
    obtain ⟨us, h2, h3, h4, h5⟩ := clear_cells k (o + 1) _ _ h1
    refine ⟨us, h2, fun j a b => ?_, fun j a => ?_, grown_trans hg h5⟩
    · by_cases e : j = o
      · rw [h4 j (by omega), e, List.getElem?_set, if_pos rfl]
        split <;> rfl
      · exact h3 j (by omega) (by omega)
    · rw [h4 j (by omega), List.getElem?_set, if_neg (by omega)]

/-- A copy into an own row. -/
theorem copy_into {w : World} {ops : Array Oper} {rest : List Oper} {o : Oper} {a : Act} {Q : Exit → Act → World → Prop} (hgd : o.guard = none) (d s : Operand) (ho : o.op = .call { callee := .builtin .copy, args := #[d, s], argTypes := #[31, 31] })
    (base g n cap : Nat) (zs : List Int) (sp : Option Addr) (m scap B : Nat) (rs : List Int) (hd : a.eval d = .slice (some ⟨g, 0, none⟩) n cap) (hs : a.eval s = .slice sp m scap) (hO : OwnC w base g n cap zs) (wz : Wd zs) (hR : Reads w B sp m scap rs) (hm : m ≤ n)
    (h : ∀ w' us, Hid (OwnC w' base g n cap us) → Hid (∀ j, us[j]?.getD 0 = if j < m then rs[j]?.getD 0 else zs[j]?.getD 0) → Wd us → w.grownBy w' (some g) → wpList Try.prog ops Q rest (a.put o.dst (goInt m)) w') :
    wpList Try.prog ops Q (o :: rest) a w := by
  obtain ⟨i0, hi, hz0, hz1, hz2⟩ := info_parts Try.infoW
  have hlr := hR.1
  have hlz := hO.len
  by_cases h0 : m = 0
  · subst h0
    refine wpList_copy_nothing hgd d s _ _ ho 45 Try.underlying31 (by rw [hi]; simp [hz1]) _ sp n cap 0 scap hd hs (Nat.zero_min _) ?_
    exact h w zs hO (fun j => by rw [if_neg (by omega)]) wz (World.grownBy.refl _ _)
  · obtain ⟨ad, rfl, hcs⟩ := copy_cells hR m (Nat.le_refl _) (by omega)
    rw [List.take_of_length_le (by omega)] at hcs
    rcases hO.2 with ⟨h', _⟩ | ⟨g', cap', cur, h', hb, hg, hnc, hcm, hsz, ht⟩
    · simp at h'
    · simp only [Value.slice.injEq, Option.some.injEq, Addr.mk.injEq, and_true, true_and] at h'
      obtain ⟨rfl, rfl⟩ := h'
      have hlen : (rs.map (Value.int .u32)).length = m := by simp [hlr]
      have hzl : (zs.map (Value.int .u32)).length = n := by simp [hlz]
      rw [Nat.mul_one] at ht hsz
      refine wpList_copy_own hgd d s _ _ ho 45 Try.underlying31 (by rw [hi]; simp [hz1]) g 0 n cap ad m scap hd hs cur 45 hg (rs.map (Value.int .u32)) (by rw [hlen]; exact (Nat.min_eq_left hm).symm) hcs (by rw [hlen, hsz]; omega) (ints_oneCell _ _) ?_
      rw [hlen]
      refine h _ (rs ++ zs.drop m) ?_ (fun j => ?_) (hR.2.1.append (wz.drop m)) ?_
      · refine ⟨by simp; omega, .inr ⟨g, cap, _, rfl, hb, setRow_heap w g cur _ _ _ hg, hnc, hcm, by simp [hsz, hlr]; omega, ?_⟩⟩
        rw [Nat.mul_one]
        simp only [List.take_zero, List.nil_append, Nat.zero_add]
        rw [List.map_append, List.map_drop, ← ht]
        have e1 : n = (rs.map (Value.int .u32)).length + (n - m) := by rw [hlen]; omega
        conv => lhs; rw [e1]
        rw [List.take_length_add_append, ← List.drop_take]
      · rw [List.getElem?_append, hlr]
        by_cases c : j < m
        · rw [if_pos c, if_pos c]
        · rw [if_neg c, if_neg c, List.getElem?_drop, show m + (j - m) = j by omega]
      · exact ⟨rfl, rfl, rfl, by simp [World.setRow], fun k hk hne => setRow_other w g k _ (fun e => hne (by rw [e]))⟩

theorem OwnC.reads {w : World} {base g n cap : Nat} {ys : List Int} (h : OwnC w base g n cap ys) (hw : Wd ys) : Reads w w.heap.size (some ⟨g, 0, none⟩) n cap ys := by
  obtain ⟨a, c, hv, hr⟩ := Reads.own h hw
  simp only [Value.slice.injEq] at hv
  obtain ⟨rfl, _, rfl⟩ := hv
  exact hr
theorem OwnC.sl {w : World} {base g n cap : Nat} {ys : List Int} (h : OwnC w base g n cap ys) (hw : Wd ys) : Sl w (.slice (some ⟨g, 0, none⟩) n cap) ys := by
  have e := h.len
  subst e
  exact ⟨_, _, rfl, h.reads hw⟩

set_option maxHeartbeats 1600000 in
set_option maxRecDepth 100000 in
theorem replace_any (base gx gy n capx capy : Nat) (xs ys : List Int) (w : World) (hx : OwnC w base gx n capx xs) (hy : OwnC w base gy n capy ys) (hne : gx ≠ gy) (wx : Wd xs) (wy : Wd ys) (hn : n ≤ 8192) (tx : Trimmed xs) (h0 : 0 < sz ys) :
    Calls Try.prog 58 #[.slice (some ⟨gx, 0, none⟩) n capx, .slice (some ⟨gy, 0, none⟩) n capy] w fun e w' => ∃ (us : List Int) (q : Int), e = .returned (.tuple #[]) ∧ OwnC w' base gx n capx us ∧ OwnC w' base gy n capy ys ∧ Wd us ∧
      val xs = q * val ys + val us ∧ val us < val ys ∧ Below base w w' := by
  have bx := hx.base
  have by' := hy.base
  have cx := hx.cap
  have cy := hy.cap
  have lx := hx.len
  have ly := hy.len
  have sy := sz_le ys
  unfold maxLen at cx cy
  have HSZ := hid (size_any _ _ _ ys _ w (hy.reads wy) (by omega))
  have hyt : OwnC w base gy (sz ys) capy (trimmed ys) := hy.take (sz ys) (by omega)
  have HDV := hid (divide_any _ _ xs (trimmed ys) w (hx.sl wx) (hyt.sl wy.trimmed) (by omega) (by rw [length_trimmed]; omega) tx (Trimmed.trimmed _) (by rw [length_trimmed]; exact h0))
  have HOX := hid hx
  have HOY := hid hy
  have hszn : sz ys ≤ n := by omega
  have hsc : sz ys ≤ capy := by omega
  have n0 : 0 < n := by omega
  have hvl : val ys < 4294967296 ^ n := by have := val_lt wy; rw [ly] at this; exact this
  have HVL := hid hvl
  have HVT := hid (val_trimmed ys)
  clear hx hy hyt lx ly sy hvl
  obtain ⟨S, hS⟩ : ∃ S, sz ys = S := ⟨_, rfl⟩
  rw [hS] at HSZ HDV hszn hsc h0
  clear hS
  go_enter Try.func58, Try.ntmps58
  go_wp2_with fail
  refine Calls.mono HSZ.out ?_
  rintro e w' ⟨rfl, rfl⟩
  go_wp2_with fail
  refine Calls.mono HDV.out ?_
  rintro e w1 ⟨v1, u1, q, r, c, rfl, oq, orr, _, _, _, _, wq, wR, tq, tr, hv, hlt, hb1⟩
  rw [HVT.out] at hv hlt
  obtain ⟨a1, c1, rfl, hrr⟩ := Reads.own orr wR
  have lr : r.length ≤ n := len_of_lt wR tr (by have := HVL.out; omega)
  have ox1 : OwnC w1 base gx n capx xs := owns_later HOX.out hb1
  have oy1 : OwnC w1 base gy n capy ys := owns_later HOY.out hb1
  have hs1 := hb1.size
  obtain ⟨us, ou, hu0, _, hgu⟩ := clear_cells n 0 w1 xs ox1
  have hcl : ∀ ty, (Builtin.clear_ #[31] ty #[.slice (some ⟨gx, 0, none⟩) n capx]).run Try.prog w1 = .ok (.tuple #[]) (w1.setCells gx 0 (List.replicate n (.int .u32 0))) := fun ty =>
    Go.Lib.run_clear_slice w1 31 45 ty (.int .u32 0) Try.underlying31 (fun w => Try.zeroValue45 w) rfl rfl gx 0 n capx n0 (fun j hj => by rw [Nat.zero_add, ox1.cell j hj]; rfl) (fun j hj => by rw [Nat.zero_add]; exact ox1.free j)
  have oy2 := World.ownsRow.kept oy1 hgu (by right; intro e; simp [Value.ownBlock] at e; omega)
  have hb2 : Below base w1 (w1.setCells gx 0 (List.replicate n (.int .u32 0))) := (Below.refl _ _).grown hgu (by omega) (fun k hk => by simp at hk; omega)
  have hrr2 : Reads (w1.setCells gx 0 (List.replicate n (.int .u32 0))) w1.heap.size a1 r.length c1 r := by
    obtain ⟨r1, r2, r3, r4⟩ := hrr
    refine ⟨r1, r2, r3.imp id ?_, r4⟩
    rintro ⟨b, o, rfl, hb, hc⟩
    refine ⟨b, o, rfl, hb, fun j hj => ?_⟩
    have hbb := orr.lt b rfl
    exact hgu.cell (hc j hj) (by intro e; simp at e; omega)
  have hul := ou.len
  have hus : ∀ j : Nat, us[j]?.getD 0 = 0 := fun j => by
    by_cases cj : j < n
    · exact hu0 j (Nat.zero_le _) (by omega)
    · rw [List.getElem?_eq_none (by omega)]; rfl
  have wu : Wd us := fun z hz => by
    obtain ⟨j, hj, rfl⟩ := List.mem_iff_getElem.1 hz
    have := hus j
    rw [List.getElem?_eq_getElem hj] at this
    simp at this
    omega
  have hbB : Below base w (w1.setCells gx 0 (List.replicate n (.int .u32 0))) := (hb1.mono (by omega)).trans hb2
  have HUS := hid hus
  have HOU := hid ou
  have HOY2 := hid oy2
  have HRR := hid hrr2
  have HBB := hid hbB
  have HV := hid (And.intro hv hlt)
  have hs2 := hgu.size
  generalize w1.setCells gx 0 (List.replicate n (.int .u32 0)) = w2 at *
  clear oq orr hv hlt hb1 hrr ox1 oy1 ou hu0 hgu oy2 hb2 hrr2 hul hus hbB HOX HOY HSZ HDV
  go_wp2_with (refine copy_into rfl (.tmp 16) (.tmp 17) rfl base gx n capx us a1 r.length c1 _ r rfl rfl HOU.out wu HRR.out lr ?_)
  intro w3 ts HO3 HE3 wt hg3
  have HF : Hid (OwnC w3 base gy n capy ys) := World.ownsRow.kept HOY2.out hg3 (by right; intro e; simp [Value.ownBlock] at e; omega)
  have hb3 : Below base w w3 := HBB.out.trans ((Below.refl _ _).grown hg3 (by omega) (fun k hk => by simp at hk; omega))
  have HVV : Hid (val ts = val r) := val_eq_of (fun j => by
    rw [HE3.out j]
    split
    · rfl
    · rw [HUS.out j, List.getElem?_eq_none (by omega)]; rfl)
  clear hg3
  go_wp2_with fail
  go_end0
  exact ⟨ts, val q, rfl, HO3.out, HF.out, wt, by rw [HVV.out]; exact HV.out.1, by rw [HVV.out]; exact HV.out.2, hb3⟩
end Go.Proofs.Ytkkehddpblkegaa

/- nat.commonDivisor, nat.Gcd: the greatest common divisor of every two numbers, in new memory. -/
namespace Go.Proofs.Ytkkehddpblkegaa
open Go.RowKit
set_option linter.unusedVariables false

theorem val_take {zs : List Int} (k : Nat) (h : sz zs ≤ k) : val (zs.take k) = val zs := val_eq_of fun j => by
  rw [List.getElem?_take]
  split
  · rfl
  · rw [sz_behind zs j (by omega)]; rfl
theorem sz_mono {us vs : List Int} (wu : Wd us) (wv : Wd vs) (h : val vs ≤ val us) : sz vs ≤ sz us := by
  have := len_le_of_val wu.trimmed wv.trimmed (Trimmed.trimmed vs) (by rw [val_trimmed, val_trimmed]; exact h)
  rwa [length_trimmed, length_trimmed] at this
theorem list_same {us xs : List Int} (hl : us.length = xs.length) (h : ∀ j : Nat, us[j]?.getD 0 = xs[j]?.getD 0) : us = xs := by
  refine List.ext_getElem hl (fun j h1 h2 => ?_)
  have := h j
  rwa [List.getElem?_eq_getElem h1, List.getElem?_eq_getElem h2] at this

/-- Two new rows of noughts. -/
theorem two_made (wc : World) (base n : Nat) (M : Array Value) (hb : base ≤ wc.heap.size) (hn : n ≤ 8192) (hM : M = ((List.replicate n (0 : Int)).map (Value.int .u32)).toArray) :
    OwnC ((wc.alloc (.cells M 45)).alloc (.cells M 45)).drew base wc.heap.size n n (List.replicate n 0) ∧ OwnC ((wc.alloc (.cells M 45)).alloc (.cells M 45)).drew base (wc.heap.size + 1) n n (List.replicate n 0) ∧ Below wc.heap.size wc ((wc.alloc (.cells M 45)).alloc (.cells M 45)).drew := by
  subst hM
  have m : n ≤ maxLen := by unfold maxLen; omega
  have h1 : OwnC (wc.alloc (.cells ((List.replicate n (0 : Int)).map (Value.int .u32)).toArray 45)) base wc.heap.size n n (List.replicate n 0) := whole_row (Box.made wc _ _) (by simp) hb m
  have h2 : OwnC ((wc.alloc (.cells ((List.replicate n (0 : Int)).map (Value.int .u32)).toArray 45)).alloc (.cells ((List.replicate n (0 : Int)).map (Value.int .u32)).toArray 45)) base (wc.heap.size + 1) n n (List.replicate n 0) := by
    have := Box.made (wc.alloc (.cells ((List.replicate n (0 : Int)).map (Value.int .u32)).toArray 45)) 45 ((List.replicate n (0 : Int)).map (Value.int .u32)).toArray
    rw [show (wc.alloc (.cells ((List.replicate n (0 : Int)).map (Value.int .u32)).toArray 45)).heap.size = wc.heap.size + 1 by simp] at this
    exact whole_row this (by simp) (by omega) m
  exact ⟨owns_later h1 (alloc_later _ _).drew, h2, (bt (alloc_later _ _) (alloc_later _ _)).drew⟩

set_option maxHeartbeats 3200000 in
set_option maxRecDepth 100000 in
theorem commonDivisor_any (v u : Value) (xs ys : List Int) (w : World) (h : Sl w v xs) (g : Sl w u ys) (hn : xs.length ≤ 8192) (hm : ys.length ≤ 8192) (hx : Trimmed xs) (hy : Trimmed ys) :
    Calls Try.prog 46 #[v, u] w (Told1 w (gcdI (val xs) (val ys))) := by
  obtain ⟨i0, hi, hz0, hz1, hz2⟩ := info_parts Try.infoW
  have CC := hid (compare_sl v u xs ys w h g (by omega) (by omega))
  have wx := h.wd
  have wy := g.wd
  obtain ⟨a, cap, rfl, hr⟩ := h
  obtain ⟨b, cap', rfl, gr⟩ := g
  obtain ⟨c, hc⟩ : ∃ c, cmpI (val xs) (val ys) = c := ⟨_, rfl⟩
  rw [hc] at CC
  have HC := hid hc
  have HX := hid hr
  have HY := hid gr
  clear hc hr gr
  go_enter Try.func46, Try.ntmps46
  go_upto_if 12 with (go_at_call 54; refine Calls.mono CC.out ?_; rintro x w1 ⟨rfl, hb1⟩)
  go_cut [0, 1] from 13 to 14 (fun s0 s1 wx => ∃ (a0 : Option Addr) (n cp : Nat) (b0 : Option Addr) (m cp' : Nat) (x1 y1 : List Int), s0 = .slice a0 n cp ∧ s1 = .slice b0 m cp' ∧ Hid (Reads wx w.heap.size a0 n cp x1) ∧ Hid (Reads wx w.heap.size b0 m cp' y1) ∧ Hid (Trimmed x1) ∧ n ≤ 8192 ∧ m ≤ n ∧ Hid (val y1 ≤ val x1) ∧ Hid (gcdI (val x1) (val y1) = gcdI (val xs) (val ys)) ∧ Below w.heap.size w wx)
  case first =>
    have HB1 := hid hb1
    by_cases hlt : val xs < val ys
    · have hc1 : c = -1 := by rw [← HC.out, cmpI_lt hlt]
      have HL := hid hlt
      clear hlt
      subst hc1
      go_wp2_with fail
      go_meet
      case rel => exact ⟨_, _, _, _, _, _, ys, xs, rfl, rfl, HY.out.later HB1.out (Nat.le_refl _), HX.out.later HB1.out (Nat.le_refl _), hy, hm, len_le_of_val wy wx hx (Int.le_of_lt HL.out), Int.le_of_lt HL.out, gcdI_comm _ _, HB1.out⟩
    · have hci : 0 ≤ c := by rw [← HC.out]; unfold cmpI; rw [if_neg hlt]; split <;> omega
      have HL : Hid (val ys ≤ val xs) := by show _ ≤ _; omega
      clear hlt
      go_wp2_with fail
      go_meet
      case rel => exact ⟨_, _, _, _, _, _, xs, ys, rfl, rfl, HX.out.later HB1.out (Nat.le_refl _), HY.out.later HB1.out (Nat.le_refl _), hx, hn, len_le_of_val wx wy hy HL.out, HL.out, rfl, HB1.out⟩
  case rest =>
    obtain ⟨a0, n, cp, b0, m, cp', x1, y1, rfl, rfl, HR1, HR2, HT1, n8, hmn, HLE, HG, hbel⟩ := hcut
    clear HX HY CC HC wx wy hn hm hx hy
    go_upto_region 3 with fail
    go_cut [5, 6] from 15 to 20 (fun s5 s6 wx => ∃ g1 g2 : Nat, s5 = .slice (some ⟨g1, 0, none⟩) n n ∧ s6 = .slice (some ⟨g2, 0, none⟩) n n ∧ g1 ≠ g2 ∧ OwnC wx w.heap.size g1 n n (List.replicate n 0) ∧ OwnC wx w.heap.size g2 n n (List.replicate n 0) ∧ Below wc.heap.size wc wx)
    case first =>
      obtain ⟨M, hM⟩ : ∃ M, madeCells #[Value.int .u32 0] n = M := ⟨_, rfl⟩
      have hmk : ∀ ww, (Instr.makeSlice 31 (.int .i64 (n : Int)) (.int .i64 (n : Int))).run Try.prog ww = .ok (.slice (some ⟨ww.heap.size, 0, none⟩) n n) (ww.alloc (.cells M 45)) := fun ww => by
        have := run_make (P := Try.prog) ww 31 45 i0 (.int .u32 0) Try.underlying31 hi hz0 .i64 .i64 (n : Int) (n : Int) (by omega) (by omega) (by rw [hz2]; omega) (by omega)
        rw [hz1, Int.toNat_natCast, Nat.mul_one, show (Value.int .u32 0).cells = #[Value.int .u32 0] from rfl, hM] at this
        exact this
      have HM : Hid (M = ((List.replicate n (0 : Int)).map (Value.int .u32)).toArray) := by
        show _ = _
        rw [← made_words, hM]
      clear hM
      have HTM := hid (two_made wc w.heap.size n M hbel.size n8 HM.out)
      clear HM
      go_region
      all_goals go_wp2_with fail
      all_goals go_meet
      · exact ⟨_, _, rfl, rfl, by omega, HTM.out.1, HTM.out.2.1, HTM.out.2.2⟩
      · exact ⟨_, _, rfl, rfl, by omega, HTM.out.2.1, HTM.out.1, HTM.out.2.2⟩
    case rest =>
      rename World => w5
      obtain ⟨g1, g2, rfl, rfl, hne, o1, o2, hb2⟩ := hcut
      have hbA := hbel.trans (hb2.mono hbel.size)
      have HR1' := hid (HR1.out.later (hb2.mono hbel.size) (Nat.le_refl _))
      have HR2' := hid (HR2.out.later (hb2.mono hbel.size) (Nat.le_refl _))
      have l1 := HR1.out.1
      have l2 := HR2.out.1
      have wx1 := HR1.out.2.1
      have wy1 := HR2.out.2.1
      have b1 := o1.base
      have b2 := o2.base
      have HO1 := hid o1
      have HO2 := hid o2
      clear o1 o2 hbel hb2 HR1 HR2 hb1
      go_wp2_with (refine copy_into rfl (.tmp 21) (.tmp 22) rfl w.heap.size g1 n n (List.replicate n 0) a0 n cp _ x1 rfl rfl HO1.out (Wd.replicate n) HR1'.out (Nat.le_refl _) ?_)
      intro w6 us HU HUE wu hg6
      have hus : us = x1 := list_same (by rw [HU.out.len, l1]) (fun j => by
        rw [HUE.out j]
        split
        · rfl
        · rw [List.getElem?_eq_none (by simp; omega), List.getElem?_eq_none (by omega)])
      subst hus
      have hb6 : Below w.heap.size w5 w6 := (Below.refl _ _).grown hg6 (by omega) (fun k hk => by simp at hk; omega)
      have o2' : OwnC w6 w.heap.size g2 n n (List.replicate n 0) := World.ownsRow.kept HO2.out hg6 (by right; intro e; simp [Value.ownBlock] at e; omega)
      have HO2' := hid o2'
      have hbB := hbA.trans hb6
      have HR2b := hid (HR2'.out.later hb6 (Nat.le_refl _))
      have hs6 := hb6.size
      clear o2' hb6 hg6 HUE hbA HO1 HO2 HR1' HR2'
      go_wp2_with (refine copy_into rfl (.tmp 24) (.tmp 25) rfl w.heap.size g2 n n (List.replicate n 0) b0 m cp' _ y1 rfl rfl HO2'.out (Wd.replicate n) HR2b.out hmn ?_)
      intro w7 vs HVO HVE wv hg7
      have hvv : val vs = val y1 := val_eq_of (fun j => by
        rw [HVE.out j]
        split
        · rfl
        · rw [List.getElem?_eq_none (by omega : y1.length ≤ j), List.getElem?_replicate]
          split <;> rfl)
      have o1' : OwnC w7 w.heap.size g1 n n us := World.ownsRow.kept HU.out hg7 (by right; intro e; simp [Value.ownBlock] at e; omega)
      have hbC := hbB.trans ((Below.refl _ w6).grown hg7 (by omega) (fun k hk => by simp at hk; omega))
      have HO1 := hid o1'
      rw [← hvv] at HLE HG
      clear o1' hg7 HVE hbB HO2' HR2b HU hvv b1 b2 hs6
      generalize hGG : gcdI (val xs) (val ys) = G at *
      clear hGG
      go_wp2_with fail
      go_loopg [5, 6] (val us + val vs).toNat (fun k s5 s6 wr => ∃ (g1 g2 q : Nat) (us vs : List Int), s5 = .slice (some ⟨g1, 0, none⟩) q n ∧ s6 = .slice (some ⟨g2, 0, none⟩) q n ∧ q ≤ n ∧ g1 ≠ g2 ∧ OwnC wr w.heap.size g1 q n us ∧ OwnC wr w.heap.size g2 q n vs ∧ Wd us ∧ Wd vs ∧ Hid (Trimmed us) ∧ Hid (val vs ≤ val us) ∧ Hid ((k : Int) = val us + val vs) ∧ Hid (gcdI (val us) (val vs) = G) ∧ Below w.heap.size w wr)
      case atStart =>
        have n1 := val_nonneg wu
        have n2 := val_nonneg wv
        exact ⟨g1, g2, n, us, vs, rfl, rfl, Nat.le_refl _, hne, HO1.out, HVO.out, wu, wv, HT1, HLE, (show _ = _ by omega), HG, hbC⟩
      case round =>
        clear HO1 HVO HT1 HLE HG hbC wu wv hne wx1 wy1 l1 l2
        obtain ⟨h1, h2, q, xx, yy, rfl, rfl, hq, hne, o1, o2, wxx, wyy, HT, HLE, HK, HG, hbel⟩ := hrel
        have b1 := o1.base
        have b2 := o2.base
        have l1 := o1.len
        have l2 := o2.len
        have sy := sz_le yy
        rw [l2] at sy
        have HSZ := hid (fun ww (hb : Below wr.heap.size wr ww) => size_any _ _ _ yy _ ww ((o2.reads wyy).later hb hb.size) (by omega))
        by_cases hs : 2 < sz yy
        · obtain ⟨e, rfl⟩ : ∃ e, q = e + 3 := ⟨q - 3, by omega⟩
          have ht3 : sz xx = e + 3 := by have := HT.out; unfold Trimmed at this; omega
          have tb := wxx.at (e + 2)
          have tt := sz_top xx (by omega)
          rw [ht3, show e + 3 - 1 = e + 2 by omega] at tt
          have HLK := hid (look_any _ e n xx _ n yy wr (o1.reads wxx) (o2.reads wyy) (by omega) (by omega) HLE.out)
          have hs' : (2 : Int) < (sz yy : Int) := by omega
          have HSY := hid hs
          have nx := val_nonneg wxx
          have ny := val_nonneg wyy
          have HO1 := hid o1
          have HO2 := hid o2
          have HL1 := hid l1
          have HL2 := hid l2
          have hvx : val xx < 4294967296 ^ (e + 3) := by have := val_lt wxx; rw [l1] at this; exact this
          have HVX := hid hvx
          have HT3 := hid ht3
          clear tb tt o1 o2 hs hvx ht3 l1 l2
          obtain ⟨S, hS⟩ : ∃ S, sz yy = S := ⟨_, rfl⟩
          rw [hS] at HSZ hs' HSY sy
          have HS := hid hS
          clear hS
          go_wp2_with fail
          refine Calls.mono (HSZ.out _ (Below.refl _ _)) ?_
          rintro x w' ⟨rfl, rfl⟩
          go_wp2_with fail
          refine Calls.mono HLK.out ?_
          rintro x w8 ⟨s, a, b, c, d, rfl, s0, s1, hss, hb8⟩
          have hb9 : Below wr.heap.size wr (w8.alloc (.cells #[.int .i64 s, .int .i64 a, .int .i64 b, .int .i64 c, .int .i64 d] 92)) := bt hb8 (alloc_later _ _)
          have hs9 := hb9.size
          have o1' : OwnC _ w.heap.size h1 (e + 3) n xx := owns_later HO1.out hb9
          have o2' : OwnC _ w.heap.size h2 (e + 3) n yy := owns_later HO2.out hb9
          rcases hss with h0 | ⟨hs1, lp⟩
          · subst h0
            have HRP := hid (replace_any w.heap.size h1 h2 (e + 3) n n xx yy _ o1' o2' hne wxx wyy (by omega) HT.out (by have := HS.out; have := HSY.out; omega))
            have HB9 := hid (bt hbel hb9)
            clear o1' o2' hb9 HLK HSZ
            go_wp2_with fail
            refine Calls.mono HRP.out ?_
            rintro x w10 ⟨rs, qt, rfl, p1, p2, wrs, hv, hlt, hb10⟩
            have HSZ2 := hid (size_any _ _ _ yy _ w10 (p2.reads wyy) (by omega))
            rw [HS.out] at HSZ2
            have hbD : Below w.heap.size w w10 := HB9.out.trans hb10
            have hrs : sz rs ≤ S := by have := sz_mono wyy wrs (Int.le_of_lt hlt); rw [HS.out] at this; exact this
            have q1 : ∀ k, OwnC (w10.drewN k) w.heap.size h2 S n (yy.take S) := fun k => (p2.take S sy).drewN k
            have q2 : ∀ k, OwnC (w10.drewN k) w.heap.size h1 S n (rs.take S) := fun k => (p1.take S sy).drewN k
            have HQ1 := hid q1
            have HQ2 := hid q2
            have HV1 : Hid (val (yy.take S) = val yy) := val_take S (by rw [HS.out]; exact Nat.le_refl _)
            have HV2 : Hid (val (rs.take S) = val rs) := val_take S hrs
            have HTS : Hid (Trimmed (yy.take S)) := by
              have := Trimmed.trimmed yy
              unfold trimmed at this
              rw [HS.out] at this
              exact this
            have HGG : Hid (gcdI (val yy) (val rs) = G) := by show _ = _; rw [← HG.out]; exact (gcdI_rest hv).symm
            have HLT := hid hlt
            have hSn : S ≤ n := by omega
            have nr := val_nonneg wrs
            have hne2 : h2 ≠ h1 := fun e => hne e.symm
            clear p1 p2 hv hlt hb10 q1 q2 hrs HRP
            go_wp2_with fail
            refine Calls.mono HSZ2.out ?_
            rintro x w' ⟨rfl, rfl⟩
            go_wp2_with fail
            go_quiet (fail)
            go_wp2_with fail
            go_roundg (val yy + val rs).toNat
            case rel => exact ⟨h2, h1, S, yy.take S, rs.take S, rfl, rfl, hSn, hne2, HQ1.out _, HQ2.out _, wyy.take S, wrs.take S, HTS, (show _ ≤ _ by rw [HV1.out, HV2.out]; exact Int.le_of_lt HLT.out), (show _ = _ by rw [HV1.out, HV2.out]; omega), (show _ = _ by rw [HV1.out, HV2.out]; exact HGG.out), bdn hbD _⟩
            case measure => have := HK.out; have := HLE.out; have := HLT.out; omega
          · have HAP := hid (apply_any w.heap.size h1 h2 (e + 3) n n xx yy s a b c d _ o1' o2' hne wxx wyy (by omega) lp.ab lp.cd (by have := lp.pos; have := lp.lt; omega) (by have := lp.le; have := HVX.out; omega) lp.pos (by have := lp.lt; have := lp.le; have := HVX.out; omega))
            have HB9 := hid (bt hbel hb9)
            have HLP := hid lp
            clear o1' o2' hb9 HLK HSZ lp
            go_wp2_with fail
            refine Calls.mono HAP.out ?_
            rintro x w10 ⟨us, vs, rfl, p1, p2, wus, wvs, hv1, hv2, hb10⟩
            have hbD : Below w.heap.size w w10 := HB9.out.trans hb10
            have HSZ2 := hid (size_any _ _ _ us _ w10 (p1.reads wus) (by omega))
            have su := sz_le us
            rw [p1.len] at su
            obtain ⟨T, hT⟩ : ∃ T, sz us = T := ⟨_, rfl⟩
            rw [hT] at HSZ2 su
            have hvs : sz vs ≤ T := by rw [← hT]; exact sz_mono wus wvs (by rw [hv1, hv2]; exact Int.le_of_lt HLP.out.lt)
            have q1 : ∀ k, OwnC (w10.drewN k) w.heap.size h1 T n (us.take T) := fun k => (p1.take T su).drewN k
            have q2 : ∀ k, OwnC (w10.drewN k) w.heap.size h2 T n (vs.take T) := fun k => (p2.take T su).drewN k
            have HQ1 := hid q1
            have HQ2 := hid q2
            have HV1 : Hid (val (us.take T) = a * val xx + b * val yy) := by show _ = _; rw [val_take T (by omega), hv1]
            have HV2 : Hid (val (vs.take T) = c * val xx + d * val yy) := by show _ = _; rw [val_take T hvs, hv2]
            have HTS : Hid (Trimmed (us.take T)) := by
              have := Trimmed.trimmed us
              unfold trimmed at this
              rw [hT] at this
              exact this
            have hSn : T ≤ n := by omega
            have n1 := val_nonneg wus
            have n2 := val_nonneg wvs
            rw [hv1] at n1
            rw [hv2] at n2
            have HN := hid (And.intro n1 n2)
            clear p1 p2 hv1 hv2 hb10 q1 q2 hvs HAP hT n1 n2
            go_wp2_with fail
            refine Calls.mono HSZ2.out ?_
            rintro x w' ⟨rfl, rfl⟩
            go_wp2_with fail
            go_quiet (fail)
            go_wp2_with fail
            go_roundg ((a * val xx + b * val yy) + (c * val xx + d * val yy)).toNat
            case rel => exact ⟨h1, h2, T, us.take T, vs.take T, rfl, rfl, hSn, hne, HQ1.out _, HQ2.out _, wus.take T, wvs.take T, HTS, (show _ ≤ _ by rw [HV1.out, HV2.out]; exact Int.le_of_lt HLP.out.lt), (show _ = _ by rw [HV1.out, HV2.out]; have := HN.out; omega), (show _ = _ by rw [HV1.out, HV2.out, HLP.out.same]; exact HG.out), bdn hbD _⟩
            case measure => have := HK.out; have := HLP.out.less; have := HN.out; omega
        · have hs' : ¬ (2 : Int) < (sz yy : Int) := by omega
          have ot : OwnC wr w.heap.size h2 (sz yy) n (trimmed yy) := o2.take (sz yy) (by omega)
          have HSD := hid (smallDivisor_any _ _ xx (trimmed yy) wr (o1.sl wxx) (ot.sl wyy.trimmed) (by omega) HT.out (Trimmed.trimmed _) (by rw [length_trimmed]; omega))
          rw [val_trimmed, HG.out] at HSD
          have hsq : sz yy ≤ n := by omega
          clear ot o1 o2
          obtain ⟨S, hS⟩ : ∃ S, sz yy = S := ⟨_, rfl⟩
          rw [hS] at HSZ hs' HSD sy hsq
          clear hS
          go_wp2_with fail
          refine Calls.mono (HSZ.out _ (Below.refl _ _)) ?_
          rintro x w' ⟨rfl, rfl⟩
          go_wp2_with fail
          refine Calls.mono (HSZ.out _ (Below.refl _ _)) ?_
          rintro x w' ⟨rfl, rfl⟩
          go_wp2_with fail
          refine Calls.mono HSD.out ?_
          rintro x w9 ⟨v9, zs, rfl, o9, w9', t9, hv9, hb9⟩
          have HO9 := hid (owns_base o9 hbel.size)
          have hb := bt hbel hb9
          clear o9 HSD HSZ
          go_wp2_with fail
          go_ret
          exact ⟨v9, zs, rfl, HO9.out, w9', t9, hv9, hb⟩

theorem gcdI_le {x y : Int} (hx : 0 ≤ x) (hy : 0 ≤ y) : gcdI x y ≤ x ∨ gcdI x y ≤ y := by
  by_cases h : x = 0
  · subst h; right; rw [gcdI_comm, gcdI_zero y hy]; exact Int.le_refl _
  · left; exact Int.le_of_dvd (by omega) (Int.gcd_dvd_left ..)
set_option maxHeartbeats 800000 in
set_option maxRecDepth 100000 in
theorem gcd_sl (v u : Value) (xs ys : List Int) (w : World) (h : Sl w v xs) (g : Sl w u ys) (hn : xs.length ≤ 281474976710656) (hm : ys.length ≤ 281474976710656) :
    Calls Try.prog 41 #[v, u] w (Told w (both xs ys) (gcdI (val xs) (val ys))) := by
  by_cases hb : both xs ys = 0
  · have HB := hid (checkBoth_sl v u xs ys w h g hn hm)
    rw [hb] at HB ⊢
    obtain ⟨c1, c2⟩ := both_ok hb
    obtain ⟨lx, tx⟩ := chk_ok c1
    obtain ⟨ly, ty⟩ := chk_ok c2
    have HD := hid (commonDivisor_any v u xs ys w h g lx ly tx ty)
    have HW : Hid (gcdI (val xs) (val ys) < wide) := by
      show _ < _
      have a1 := lt_wide (val_lt h.wd) lx
      have a2 := lt_wide (val_lt g.wd) ly
      rcases gcdI_le (val_nonneg h.wd) (val_nonneg g.wd) with e | e <;> omega
    clear h g hb c1 c2 tx ty
    go_enter Try.func41, Try.ntmps41
    go_wp2_with fail
    refine Calls.mono HB.out ?_
    rintro e w' ⟨rfl, rfl⟩
    go_wp2_with fail
    refine Calls.mono HD.out ?_
    rintro e w1 ⟨v1, zs, rfl, o1, wz, tz, hv, hbel⟩
    have HO := hid o1
    have HV := hid hv
    clear o1 hv HD HB
    go_wp2_with fail
    go_ret2
    exact ⟨v1, zs, 0, rfl, HO.out, Tells.ok wz tz HV.out HW.out, hbel⟩
  · have HB := hid (checkBoth_sl v u xs ys w h g hn hm)
    have HT := hid (Tells.err (t := gcdI (val xs) (val ys)) hb)
    have hbb : (both xs ys != 0) = true := by simp [hb]
    obtain ⟨e, he⟩ : ∃ e, both xs ys = e := ⟨_, rfl⟩
    rw [he] at HB HT hbb hb ⊢
    clear h g he
    go_enter Try.func41, Try.ntmps41
    go_wp2_with fail
    refine Calls.mono HB.out ?_
    rintro e w' ⟨rfl, rfl⟩
    go_wp2_with fail
    go_ret2
    exact ⟨_, [], e, rfl, World.ownsRow_nil _ _ _ _, HT.out, Below.refl _ _⟩
end Go.Proofs.Ytkkehddpblkegaa

/- Fractions: ratio.words, isOne, inOneForm, Check, checkBoth, told: of every fraction whose words can be read. -/
namespace Go.Proofs.Ytkkehddpblkegaa
open Go.RowKit
set_option linter.unusedVariables false

/-- A fraction is in its one form. -/
def rform (n : Bool) (xs ys : List Int) : Prop := both xs ys = 0 ∧ 0 < ys.length ∧ (n = false ∨ 0 < xs.length) ∧ gcdI (val xs) (val ys) = 1
instance (n : Bool) (xs ys : List Int) : Decidable (rform n xs ys) := by unfold rform; infer_instance
/-- What ratio.Check tells. -/
def rchk (n : Bool) (xs ys : List Int) : Int := if 2048 < max xs.length ys.length then 3 else if rform n xs ys then 0 else 11
/-- The fraction itself. -/
def rq (n : Bool) (xs ys : List Int) : Rat := Rat.divInt (wval n xs) (val ys)
theorem res_box3 {X w1 : World} {b t : Nat} {v0 v1 v2 : Value} (hX : Box X b t #[v0, v1, v2]) (hb : Below X.heap.size X w1) : w1.cell? ⟨b, 0, none⟩ = some v0 ∧ w1.cell? ⟨b, 1, none⟩ = some v1 ∧ w1.cell? ⟨b, 2, none⟩ = some v2 ∧ w1.frozen? ⟨b, 0, none⟩ = false ∧ w1.frozen? ⟨b, 1, none⟩ = false ∧ w1.frozen? ⟨b, 2, none⟩ = false := by
  have h := hX.later hb hX.lt
  exact ⟨h.cell 0, h.cell 1, h.cell 2, h.free 0, h.free 1, h.free 2⟩
theorem below_put3 {B : Nat} {a w : World} (h : Below B a w) (b : Nat) (hb : B ≤ b) (v0 v1 v2 : Value) : Below B a (((w.setCell ⟨b, 0, none⟩ v0).setCell ⟨b, 1, none⟩ v1).setCell ⟨b, 2, none⟩ v2) :=
  ((h.setCell (p := ⟨b, 0, none⟩) hb _).setCell (p := ⟨b, 1, none⟩) hb _).setCell (p := ⟨b, 2, none⟩) hb _
theorem own_put3 {w : World} {base e n : Nat} {v : Value} {xs : List Value} (h : w.ownsRow base e 1 v n xs) (b : Nat) (hb : ∀ g, v.ownBlock = some g → g ≠ b) (v0 v1 v2 : Value) : (((w.setCell ⟨b, 0, none⟩ v0).setCell ⟨b, 1, none⟩ v1).setCell ⟨b, 2, none⟩ v2).ownsRow base e 1 v n xs := by
  have hne : v.ownBlock = none ∨ v.ownBlock ≠ some b := by
    cases hv : v.ownBlock with
    | none => exact .inl rfl
    | some g => right; intro e; exact hb g hv (Option.some.inj e)
  exact World.ownsRow.kept (World.ownsRow.kept (World.ownsRow.kept h (grown_set w ⟨b, 0, none⟩ v0) hne) (grown_set _ ⟨b, 1, none⟩ v1) hne) (grown_set _ ⟨b, 2, none⟩ v2) hne
theorem gcd_wide {xs ys : List Int} (wx : Wd xs) (wy : Wd ys) (h : both xs ys = 0) : gcdI (val xs) (val ys) < wide := by
  obtain ⟨h1, h2⟩ := both_ok h
  have l1 := (chk_ok h1).1
  have l2 := (chk_ok h2).1
  have a1 : val xs < wide := Int.lt_of_lt_of_le (val_lt wx) (pw_le l1)
  have a2 : val ys < wide := Int.lt_of_lt_of_le (val_lt wy) (pw_le l2)
  rcases gcdI_le (val_nonneg wx) (val_nonneg wy) with e | e <;> omega

set_option maxHeartbeats 800000 in
set_option maxRecDepth 100000 in
theorem rwords_any (n : Bool) (a : Option Addr) (k c : Nat) (b : Option Addr) (l d : Nat) (w : World) :
    Calls Try.prog 38 #[.agg #[.bool n, .slice a k c, .slice b l d]] w fun e w' => e = .returned (.int .i64 ((max k l : Nat) : Int)) ∧ Below w.heap.size w w' := by
  have HB := hid (alloc_later w (.cells #[.bool n, .slice a k c, .slice b l d] 33))
  by_cases h : k < l
  · have HM : Hid (max k l = l) := Nat.max_eq_right (by omega)
    go_enter Try.func38, Try.ntmps38
    go_wp2_with fail
    go_ret
    exact ⟨ret_int (by rw [HM.out]), HB.out⟩
  · have HM : Hid (max k l = k) := Nat.max_eq_left (by omega)
    go_enter Try.func38, Try.ntmps38
    go_wp2_with fail
    go_ret
    exact ⟨ret_int (by rw [HM.out]), HB.out⟩

end Go.Proofs.Ytkkehddpblkegaa

/- Fractions: ratio.Check, checkBoth, told: of every fraction whose words can be read; what a call tells that may refuse. -/
namespace Go.Proofs.Ytkkehddpblkegaa
open Go.RowKit
set_option linter.unusedVariables false

theorem rchk_ok {n : Bool} {xs ys : List Int} (h : rchk n xs ys = 0) : xs.length ≤ 2048 ∧ ys.length ≤ 2048 ∧ Trimmed xs ∧ Trimmed ys ∧ 0 < ys.length ∧ (n = false ∨ 0 < xs.length) ∧ gcdI (val xs) (val ys) = 1 := by
  unfold rchk at h
  by_cases h1 : 2048 < max xs.length ys.length
  · rw [if_pos h1] at h; omega
  · rw [if_neg h1] at h
    by_cases h2 : rform n xs ys
    · obtain ⟨a, b⟩ := both_ok h2.1
      exact ⟨by omega, by omega, (chk_ok a).2, (chk_ok b).2, h2.2.1, h2.2.2.1, h2.2.2.2⟩
    · rw [if_neg h2] at h; omega
theorem rchk_good {n : Bool} {xs ys : List Int} (lx : xs.length ≤ 2048) (ly : ys.length ≤ 2048) (tx : Trimmed xs) (ty : Trimmed ys) (h0 : 0 < ys.length) (hs : n = false ∨ 0 < xs.length) (hg : gcdI (val xs) (val ys) = 1) : rchk n xs ys = 0 := by
  unfold rchk
  rw [if_neg (by omega), if_pos ⟨both_good (chk_good (by omega) tx) (chk_good (by omega) ty), h0, hs, hg⟩]

/-- A fraction has too many words. -/
def rlong (q : Rat) : Prop := wlim ≤ (q.num.natAbs : Int) ∨ wlim ≤ (q.den : Int)
/-- What a call tells that may refuse: e is the error of what is handed in, q the fraction. -/
structure RTells (e : Int) (q : Rat) (n : Bool) (xs ys : List Int) (code : Int) : Prop where
  wx : Wd xs
  wy : Wd ys
  bad : e ≠ 0 → n = false ∧ xs = [] ∧ ys = [] ∧ code = e
  long : e = 0 → rlong q → n = false ∧ xs = [] ∧ ys = [] ∧ code = 3
  good : e = 0 → ¬ rlong q → code = 0 ∧ rchk n xs ys = 0 ∧ rq n xs ys = q
def RTold (w : World) (e : Int) (q : Rat) (x : Ending) (w' : World) : Prop :=
  ∃ n v xs u ys code, x = .returned (.tuple #[.agg #[.bool n, v, u], .int .i64 code]) ∧ w'.ownsRow w.heap.size 45 1 v xs.length (xs.map (Value.int .u32)) ∧ w'.ownsRow w.heap.size 45 1 u ys.length (ys.map (Value.int .u32)) ∧ RTells e q n xs ys code ∧ Below w.heap.size w w'
theorem RTells.err {e : Int} {q : Rat} (h : e ≠ 0) : RTells e q false [] [] e := ⟨Wd.nil, Wd.nil, fun _ => ⟨rfl, rfl, rfl, rfl⟩, fun h' => absurd h' h, fun h' => absurd h' h⟩

/-- What told tells. -/
def rtoldV (n : Bool) (a : Option Addr) (k c : Nat) (b : Option Addr) (l d : Nat) : Value := if 2048 < max k l then .tuple #[.agg #[.bool false, .slice none 0 0, .slice none 0 0], .int .i64 3] else .tuple #[.agg #[.bool (n && decide (0 < k)), .slice a k c, .slice b l d], .int .i64 0]
theorem gcd_sg (n : Bool) (x d : Int) : gcdI (sg n x) d = gcdI x d := by
  cases n
  · rfl
  · show ((Int.gcd (-x) d : Nat) : Int) = _
    rw [Int.neg_gcd]; rfl
theorem abs_sg (n : Bool) {x : Int} (h : 0 ≤ x) : ((sg n x).natAbs : Int) = x := by
  cases n <;> simp [sg] <;> omega
/-- What told makes of a numerator and a denominator with nothing in common. -/
theorem rtells_of {n : Bool} {zs ds : List Int} (wz : Wd zs) (tz : Trimmed zs) (wd : Wd ds) (td : Trimmed ds) (hd : 0 < val ds) (hg : gcdI (val zs) (val ds) = 1) :
    ∃ m us vs c, (∀ a ca b cb, rtoldV n a zs.length ca b ds.length cb = .tuple #[.agg #[.bool m, if c = 0 then .slice a zs.length ca else .slice none 0 0, if c = 0 then .slice b ds.length cb else .slice none 0 0], .int .i64 c]) ∧ (if c = 0 then us = zs else us = []) ∧ (if c = 0 then vs = ds else vs = []) ∧ RTells 0 (Rat.divInt (sg n (val zs)) (val ds)) m us vs c := by
  have hz0 := val_nonneg wz
  obtain ⟨e1, e2⟩ := fr_num (x := sg n (val zs)) hd (by rw [gcd_sg]; exact hg)
  have hl : rlong (Rat.divInt (sg n (val zs)) (val ds)) ↔ 2048 < max zs.length ds.length := by
    unfold rlong
    rw [e1, e2, abs_sg n hz0, ← len2048 wz tz, ← len2048 wd td]
    omega
  by_cases h : 2048 < max zs.length ds.length
  · refine ⟨false, [], [], 3, fun a ca b cb => by unfold rtoldV; rw [if_pos h]; rfl, by simp, by simp, ⟨Wd.nil, Wd.nil, fun h => absurd rfl h, fun _ _ => ⟨rfl, rfl, rfl, rfl⟩, fun _ h' => absurd (hl.2 h) h'⟩⟩
  · have hd0 : 0 < ds.length := by
      by_cases c : 0 < ds.length
      · exact c
      · have := trimmed_zero' (us := ds) (by omega); omega
    refine ⟨n && decide (0 < zs.length), zs, ds, 0, fun a ca b cb => by unfold rtoldV; rw [if_neg h]; rfl, by simp, by simp, ⟨wz, wd, fun h => absurd rfl h, fun _ h' => absurd (hl.1 h') h, fun _ _ => ⟨rfl, rchk_good (by omega) (by omega) tz td hd0 ?_ hg, ?_⟩⟩⟩
    · by_cases c : 0 < zs.length
      · exact .inr c
      · left; simp [c]
    · unfold rq
      congr 1
      by_cases c : 0 < zs.length
      · simp [c, wval, sg]
      · rw [List.eq_nil_of_length_eq_zero (show zs.length = 0 by omega)]
        cases n <;> simp [wval, sg, val, valTo]

theorem ret_val {a b : Value} (h : a = b) : Ending.returned a = .returned b := by rw [h]

set_option maxHeartbeats 1600000 in
set_option maxRecDepth 100000 in
theorem rtold_any (n : Bool) (a : Option Addr) (k c : Nat) (b : Option Addr) (l d : Nat) (w : World) :
    Calls Try.prog 49 #[.bool n, .slice a k c, .slice b l d] w fun x w' => x = .returned (rtoldV n a k c b l d) ∧ Below w.heap.size w w' := by
  obtain ⟨M, hM⟩ : ∃ M, max k l = M := ⟨_, rfl⟩
  obtain ⟨s, hs⟩ : ∃ s, (n && decide (0 < k)) = s := ⟨_, rfl⟩
  have HT : Hid (rtoldV n a k c b l d = if 2048 < M then .tuple #[.agg #[.bool false, .slice none 0 0, .slice none 0 0], .int .i64 3] else .tuple #[.agg #[.bool s, .slice a k c, .slice b l d], .int .i64 0]) := by show _ = _; unfold rtoldV; rw [hM, hs]
  have HB : Hid (Below w.heap.size w ((w.alloc (.cells #[.bool false, .slice none 0 0, .slice none 0 0] 33)).alloc (.cells #[.bool s, .slice a k c, .slice b l d] 33))) := bt (alloc_later _ _) (alloc_later _ _)
  have HW := hid (rwords_any s a k c b l d ((w.alloc (.cells #[.bool false, .slice none 0 0, .slice none 0 0] 33)).alloc (.cells #[.bool s, .slice a k c, .slice b l d] 33)))
  rw [hM] at HW
  clear hM
  have HZ : Hid (Box ((w.alloc (.cells #[.bool false, .slice none 0 0, .slice none 0 0] 33)).alloc (.cells #[.bool s, .slice a k c, .slice b l d] 33)) w.heap.size 33 #[.bool false, .slice none 0 0, .slice none 0 0]) := Box.later (Box.made w _ _) (alloc_later _ _) (by simp)
  have HS : Hid (Box ((w.alloc (.cells #[.bool false, .slice none 0 0, .slice none 0 0] 33)).alloc (.cells #[.bool s, .slice a k c, .slice b l d] 33)) (w.heap.size + 1) 33 #[.bool s, .slice a k c, .slice b l d]) := by
    have e := Box.made (w.alloc (.cells #[.bool false, .slice none 0 0, .slice none 0 0] 33)) 33 #[.bool s, .slice a k c, .slice b l d]
    simp at e
    exact e
  by_cases hm : 2048 < M
  · have hm' : (2048 : Int) < (M : Int) := by omega
    rw [if_pos hm] at HT
    clear hm
    cases n with
    | false =>
      obtain rfl : s = false := by rw [← hs]; rfl
      clear hs
      go_enter Try.func49, Try.ntmps49
      go_wp2_with fail
      refine Calls.mono HW.out ?_
      rintro e w1 ⟨rfl, hb1⟩
      obtain ⟨r0, r1, r2, f0, f1, f2⟩ := res_box3 HZ.out hb1
      obtain ⟨c0, c1, c2, _, _, _⟩ := res_box3 HS.out hb1
      have hbA := bt HB.out hb1
      clear hb1
      go_wp2_with fail
      refine bodyPost_ret (v := .tuple #[.agg #[.bool false, .slice none 0 0, .slice none 0 0], .int .i64 3]) (by simp [results, Try.results49, go_sem, r0, r1, r2]) rfl ?_
      exact ⟨ret_val HT.out.symm, below_put3 hbA _ (Nat.le_refl _) _ _ _⟩
    | true =>
      obtain rfl : s = decide (0 < k) := by rw [← hs]; rfl
      clear hs
      go_enter Try.func49, Try.ntmps49
      go_wp2_with fail
      refine Calls.mono HW.out ?_
      rintro e w1 ⟨rfl, hb1⟩
      obtain ⟨r0, r1, r2, f0, f1, f2⟩ := res_box3 HZ.out hb1
      obtain ⟨c0, c1, c2, _, _, _⟩ := res_box3 HS.out hb1
      have hbA := bt HB.out hb1
      clear hb1
      go_wp2_with fail
      refine bodyPost_ret (v := .tuple #[.agg #[.bool false, .slice none 0 0, .slice none 0 0], .int .i64 3]) (by simp [results, Try.results49, go_sem, r0, r1, r2]) rfl ?_
      exact ⟨ret_val HT.out.symm, below_put3 hbA _ (Nat.le_refl _) _ _ _⟩
  · have hm' : ¬ (2048 : Int) < (M : Int) := by omega
    rw [if_neg hm] at HT
    clear hm
    cases n with
    | false =>
      obtain rfl : s = false := by rw [← hs]; rfl
      clear hs
      go_enter Try.func49, Try.ntmps49
      go_wp2_with fail
      refine Calls.mono HW.out ?_
      rintro e w1 ⟨rfl, hb1⟩
      obtain ⟨r0, r1, r2, f0, f1, f2⟩ := res_box3 HZ.out hb1
      obtain ⟨c0, c1, c2, _, _, _⟩ := res_box3 HS.out hb1
      have hbA := bt HB.out hb1
      clear hb1
      go_wp2_with fail
      refine bodyPost_ret (v := .tuple #[.agg #[.bool false, .slice a k c, .slice b l d], .int .i64 0]) (by simp [results, Try.results49, go_sem, r0, r1, r2]) rfl ?_
      exact ⟨ret_val HT.out.symm, below_put3 hbA _ (Nat.le_refl _) _ _ _⟩
    | true =>
      obtain rfl : s = decide (0 < k) := by rw [← hs]; rfl
      clear hs
      go_enter Try.func49, Try.ntmps49
      go_wp2_with fail
      refine Calls.mono HW.out ?_
      rintro e w1 ⟨rfl, hb1⟩
      obtain ⟨r0, r1, r2, f0, f1, f2⟩ := res_box3 HZ.out hb1
      obtain ⟨c0, c1, c2, _, _, _⟩ := res_box3 HS.out hb1
      have hbA := bt HB.out hb1
      clear hb1
      go_wp2_with fail
      refine bodyPost_ret (v := .tuple #[.agg #[.bool (decide (0 < k)), .slice a k c, .slice b l d], .int .i64 0]) (by simp [results, Try.results49, go_sem, r0, r1, r2]) rfl ?_
      exact ⟨ret_val HT.out.symm, below_put3 hbA _ (Nat.le_refl _) _ _ _⟩
end Go.Proofs.Ytkkehddpblkegaa

/- Fractions: ratio.sum, difference, product, quotient, commonDivisor, signedSum: of numbers that are short enough. -/
namespace Go.Proofs.Ytkkehddpblkegaa
open Go.RowKit
set_option linter.unusedVariables false

set_option maxHeartbeats 800000 in
set_option maxRecDepth 100000 in
theorem rcommon_any (v u : Value) (xs ys : List Int) (w : World) (h : Sl w v xs) (g : Sl w u ys) (lx : xs.length ≤ 8192) (ly : ys.length ≤ 8192) (tx : Trimmed xs) (ty : Trimmed ys) :
    Calls Try.prog 48 #[v, u] w (Told1 w (gcdI (val xs) (val ys))) := by
  have hz := both_good (chk_good lx tx) (chk_good ly ty)
  have HT := hid (gcd_wide h.wd g.wd hz)
  have HH := hid (gcd_sl v u xs ys w h g (by omega) (by omega))
  rw [hz] at HH
  clear hz
  obtain ⟨a, cap, rfl, hr⟩ := h
  obtain ⟨b, cap', rfl, gr⟩ := g
  clear hr gr
  go_enter Try.func48, Try.ntmps48
  go_wp2_with fail
  refine Calls.mono HH.out ?_
  rintro e w1 ⟨v1, zs, code, rfl, o1, t1, hb1⟩
  obtain ⟨rfl, hv1⟩ := t1.good rfl HT.out
  obtain ⟨a1, c1, hs1⟩ := own_slice' o1
  subst hs1
  have HE := hid (And.intro o1 (And.intro t1.wd (And.intro t1.trim (And.intro hv1 hb1))))
  clear o1 t1 hv1 hb1 HH
  go_wp2_with fail
  go_ret
  exact ⟨_, zs, rfl, HE.out.1, HE.out.2.1, HE.out.2.2.1, HE.out.2.2.2.1, HE.out.2.2.2.2⟩

set_option maxHeartbeats 800000 in
set_option maxRecDepth 100000 in
theorem rquot_any (v u : Value) (xs ys : List Int) (w : World) (h : Sl w v xs) (g : Sl w u ys) (lx : xs.length ≤ 8192) (ly : ys.length ≤ 8192) (tx : Trimmed xs) (ty : Trimmed ys) (h0 : 0 < ys.length) :
    Calls Try.prog 50 #[v, u] w (Told1 w (val xs / val ys)) := by
  have HH := hid (divMod_own v u xs ys w h g lx ly tx ty h0)
  obtain ⟨a, cap, rfl, hr⟩ := h
  obtain ⟨b, cap', rfl, gr⟩ := g
  clear hr gr
  go_enter Try.func50, Try.ntmps50
  go_wp2_with fail
  refine Calls.mono HH.out ?_
  rintro e w1 ⟨v1, v2, q, r, rfl, o1, o2, wq, wr, tq, tr, hq, hr, hb1⟩
  have hv : val q = val xs / val ys := by
    have r0 := val_nonneg wr
    rw [hq, Int.add_comm, Int.add_mul_ediv_right _ _ (by omega), Int.ediv_eq_zero_of_lt r0 hr]
    omega
  obtain ⟨a1, c1, hs1⟩ := own_slice' o1
  subst hs1
  obtain ⟨a2, c2, hs2⟩ := own_slice' o2
  subst hs2
  have HE := hid (And.intro o1 (And.intro wq (And.intro tq (And.intro hv hb1))))
  clear o1 o2 wq wr tq tr hq hr hb1 hv HH
  go_wp2_with fail
  go_ret
  exact ⟨_, q, rfl, HE.out.1, HE.out.2.1, HE.out.2.2.1, HE.out.2.2.2.1, HE.out.2.2.2.2⟩
end Go.Proofs.Ytkkehddpblkegaa

/- Fractions: ratio.signedSum: numbers with signs added. -/
namespace Go.Proofs.Ytkkehddpblkegaa
open Go.RowKit
set_option linter.unusedVariables false

/-- A number with a sign (0 may have one), in new memory. -/
def WVal (w : World) (t : Int) (x : Ending) (w' : World) : Prop := ∃ n v zs, x = .returned (.agg #[.bool n, v]) ∧ w'.ownsRow w.heap.size 45 1 v zs.length (zs.map (Value.int .u32)) ∧ Wd zs ∧ Trimmed zs ∧ wval n zs = t ∧ Below w.heap.size w w'
/-- A number told in new memory. -/
def One (U w' : World) (v : Value) (zs : List Int) (t : Int) : Prop := w'.ownsRow U.heap.size 45 1 v zs.length (zs.map (Value.int .u32)) ∧ Wd zs ∧ Trimmed zs ∧ val zs = t
theorem One.later {U V W : World} {v : Value} {zs : List Int} {t : Int} (h : One U V v zs t) (hb : Below V.heap.size V W) : One U W v zs t := ⟨owns_later h.1 hb, h.2⟩
theorem One.base {U U' V : World} {v : Value} {zs : List Int} {t : Int} (h : One U V v zs t) (hb : U'.heap.size ≤ U.heap.size) : One U' V v zs t := ⟨owns_base h.1 hb, h.2⟩
theorem One.sl {U V : World} {v : Value} {zs : List Int} {t : Int} (h : One U V v zs t) : Sl V v zs := Sl.own h.1 h.2.1
/-- A callee's contract, at each world that may come up in a region: with what stays beside it. -/
theorem told1_at {U : World} {f : Nat} {args : Array Value} {t : Int} (S : World → Prop) (hS : ∀ w', Below U.heap.size U w' → S w') (ww : World) (hb : Below U.heap.size U ww) (C : Calls Try.prog f args ww (Told1 ww t)) :
    Calls Try.prog f args ww fun e w' => ∃ a2 zs c2, e = .returned (.slice a2 zs.length c2) ∧ Hid (One U w' (.slice a2 zs.length c2) zs t) ∧ S w' ∧ Below U.heap.size U w' ∧ Hid (Below ww.heap.size ww w') :=
  Calls.mono C fun e w' h => by
    obtain ⟨v, zs, rfl, o, h1, h2, h3, hb2⟩ := h
    obtain ⟨a2, c2, hs2⟩ := own_slice' o
    subst hs2
    exact ⟨a2, zs, c2, rfl, ⟨owns_base o hb.size, h1, h2, h3⟩, hS w' (bt hb hb2), bt hb hb2, hb2⟩

end Go.Proofs.Ytkkehddpblkegaa

/- Fractions: ratio.add, multiply: sums and products of fractions, what is in common taken out first. -/
namespace Go.Proofs.Ytkkehddpblkegaa
open Go.RowKit
set_option linter.unusedVariables false

theorem div_gcd_left {x y g : Int} (hg : g = gcdI x y) : x = x / g * g := (Int.ediv_mul_cancel (by rw [hg]; exact Int.gcd_dvd_left ..)).symm
theorem div_gcd_right {x y g : Int} (hg : g = gcdI x y) : y = y / g * g := (Int.ediv_mul_cancel (by rw [hg]; exact Int.gcd_dvd_right ..)).symm
theorem gcd_pos_right {x y : Int} (h : 0 < y) : 0 < gcdI x y := by
  have : 0 < Int.gcd x y := Int.gcd_pos_iff.2 (Or.inr (by omega))
  unfold gcdI; omega
theorem gcd_le_right {x y : Int} (h : 0 < y) : gcdI x y ≤ y := Int.le_of_dvd h (Int.gcd_dvd_right ..)
theorem WVal.at {U ww : World} {f : Nat} {args : Array Value} {t : Int} (S : World → Prop) (hS : ∀ w', Below U.heap.size U w' → S w') (hb : Below U.heap.size U ww) (C : Calls Try.prog f args ww (WVal ww t)) :
    Calls Try.prog f args ww fun e w' => ∃ k a2 zs c2, e = .returned (.agg #[.bool k, .slice a2 zs.length c2]) ∧ Hid (∃ T, One U w' (.slice a2 zs.length c2) zs T ∧ sg k T = t) ∧ S w' ∧ Below U.heap.size U w' ∧ Hid (Below ww.heap.size ww w') :=
  Calls.mono C fun e w' h => by
    obtain ⟨k, v, zs, rfl, o, h1, h2, h3, hb2⟩ := h
    obtain ⟨a2, c2, hs2⟩ := own_slice' o
    subst hs2
    exact ⟨k, a2, zs, c2, rfl, ⟨val zs, ⟨owns_base o hb.size, h1, h2, rfl⟩, h3⟩, hS w' (bt hb hb2), bt hb hb2, hb2⟩
theorem own_len {v : Value} {zs : List Int} {U V : World} {t : Int} (h : One U V v zs t) {L : Nat} (hl : t < 4294967296 ^ L) : zs.length ≤ L := len_of_lt h.2.1 h.2.2.1 (by rw [h.2.2.2]; exact hl)
theorem own_pos {v : Value} {zs : List Int} {U V : World} {t : Int} (h : One U V v zs t) (h0 : 0 < t) : 0 < zs.length := by
  by_cases c : 0 < zs.length
  · exact c
  · have := trimmed_zero' (us := zs) (by omega)
    have := h.2.2.2
    omega
/-- What lies in blocks that were there stays, said so that the walk can use it. -/
def Far (ww w' : World) : Prop := (∀ H, H < ww.heap.size → H < w'.heap.size) ∧ (∀ H j, H < ww.heap.size → w'.cell? ⟨H, j, none⟩ = ww.cell? ⟨H, j, none⟩) ∧ (∀ H j, H < ww.heap.size → w'.frozen? ⟨H, j, none⟩ = ww.frozen? ⟨H, j, none⟩)
theorem Far.of {ww w' : World} (h : Below ww.heap.size ww w') : Far ww w' := ⟨fun H hl => Nat.lt_of_lt_of_le hl h.size, fun H j hl => h.cell (p := ⟨H, j, none⟩) hl, fun H j hl => h.frozen (p := ⟨H, j, none⟩) hl⟩
theorem RTold.put {w U w3 : World} {e : Int} {q : Rat} {k : Bool} {v u : Value} {zs ds : List Int} {code : Int} (h : w3.ownsRow U.heap.size 45 1 v zs.length (zs.map (Value.int .u32)) ∧ w3.ownsRow U.heap.size 45 1 u ds.length (ds.map (Value.int .u32)) ∧ RTells e q k zs ds code) (b : Nat) (hb : b < U.heap.size) (hw : w.heap.size ≤ b) (hbw : Below w.heap.size w w3) (x y z : Value) :
    RTold w e q (.returned (.tuple #[.agg #[.bool k, v, u], .int .i64 code])) (((w3.setCell ⟨b, 0, none⟩ x).setCell ⟨b, 1, none⟩ y).setCell ⟨b, 2, none⟩ z) :=
  ⟨k, v, zs, u, ds, code, rfl, owns_base (own_put3 h.1 b (fun g hg => by have := (World.ownsRow.lt h.1 g hg).1; omega) _ _ _) (by omega), owns_base (own_put3 h.2.1 b (fun g hg => by have := (World.ownsRow.lt h.2.1 g hg).1; omega) _ _ _) (by omega), h.2.2, below_put3 hbw b hw _ _ _⟩

end Go.Proofs.Ytkkehddpblkegaa

/- Whole numbers: whole.divide, DivMod as in Wh6, and besides: quotient and rest lie apart. -/
namespace Go.Proofs.Ytkkehddpblkegaa
open Go.RowKit
set_option linter.unusedVariables false

/-- The first lies below a cut, the second from it on: both new. -/
def Cut (w : World) (v u : Value) (w' : World) : Prop := ∃ c, w.heap.size ≤ c ∧ c ≤ w'.heap.size ∧ Lies v w.heap.size c ∧ Lies u c w'.heap.size
theorem Cut.up {w w' W W' : World} {v u : Value} (h : Cut w v u w') (h0 : W.heap.size ≤ w.heap.size) (h1 : w'.heap.size ≤ W'.heap.size) : Cut W v u W' := by
  obtain ⟨c, c0, c1, l0, l1⟩ := h
  exact ⟨c, Nat.le_trans h0 c0, Nat.le_trans c1 h1, fun g hg => ⟨Nat.le_trans h0 (l0 g hg).1, (l0 g hg).2⟩, fun g hg => ⟨(l1 g hg).1, Nat.lt_of_lt_of_le (l1 g hg).2 h1⟩⟩

end Go.Proofs.Ytkkehddpblkegaa

/- Fractions: ratio.Make: of two whole numbers, in whatever form; Num and Den lie apart. -/
namespace Go.Proofs.Ytkkehddpblkegaa
open Go.RowKit
set_option linter.unusedVariables false

/-- A fraction told in new memory, Num and Den apart. -/
def RToldA (w : World) (e : Int) (q : Rat) (x : Ending) (w' : World) : Prop :=
  ∃ n v xs u ys code, x = .returned (.tuple #[.agg #[.bool n, v, u], .int .i64 code]) ∧ w'.ownsRow w.heap.size 45 1 v xs.length (xs.map (Value.int .u32)) ∧ w'.ownsRow w.heap.size 45 1 u ys.length (ys.map (Value.int .u32)) ∧ RTells e q n xs ys code ∧ Below w.heap.size w w' ∧ Cut w v u w'
theorem RTells.same {e : Int} {q : Rat} {n m : Bool} {xs ys us vs : List Int} {c d : Int} (h : RTells e q n xs ys c) (g : RTells e q m us vs d) : n = m ∧ xs = us ∧ ys = vs ∧ c = d := by
  by_cases he : e = 0
  · by_cases hl : rlong q
    · obtain ⟨a1, a2, a3, a4⟩ := h.long he hl
      obtain ⟨b1, b2, b3, b4⟩ := g.long he hl
      exact ⟨by rw [a1, b1], by rw [a2, b2], by rw [a3, b3], by rw [a4, b4]⟩
    · obtain ⟨a1, a2, a3⟩ := h.good he hl
      obtain ⟨b1, b2, b3⟩ := g.good he hl
      obtain ⟨_, _, tx, ty, y0, sx, gx⟩ := rchk_ok a2
      obtain ⟨_, _, tu, tv, v0, su, gu⟩ := rchk_ok b2
      have py := val_pos' h.wy ty y0
      have pv := val_pos' g.wy tv v0
      have e1 := fr_inj (x := wval n xs) (d := val ys) (y := wval m us) (e := val vs) (by omega) (by rw [show wval n xs = sg n (val xs) from rfl, gcd_sg]; exact gx) (by omega) (by rw [show wval m us = sg m (val us) from rfl, gcd_sg]; exact gu) (a3.trans b3.symm)
      have e2 : n = m ∧ xs = us := by
        have x0 := val_nonneg h.wx
        have u0 := val_nonneg g.wx
        have e3 := e1.1
        cases n <;> cases m
        · exact ⟨rfl, trimmed_eq h.wx g.wx tx tu e3⟩
        · have e4 : val xs = -(val us) := e3
          have := val_pos' g.wx tu (su.elim (fun e => by cases e) id)
          omega
        · have e4 : -(val xs) = val us := e3
          have := val_pos' h.wx tx (sx.elim (fun e => by cases e) id)
          omega
        · have e4 : -(val xs) = -(val us) := e3
          exact ⟨rfl, trimmed_eq h.wx g.wx tx tu (by omega)⟩
      exact ⟨e2.1, e2.2, trimmed_eq h.wy g.wy ty tv e1.2, by rw [a1, b1]⟩
  · obtain ⟨a1, a2, a3, a4⟩ := h.bad he
    obtain ⟨b1, b2, b3, b4⟩ := g.bad he
    exact ⟨by rw [a1, b1], by rw [a2, b2], by rw [a3, b3], by rw [a4, b4]⟩
theorem RTells.len {e : Int} {q : Rat} {n : Bool} {xs ys : List Int} {c : Int} (h : RTells e q n xs ys c) : xs.length ≤ 2048 ∧ ys.length ≤ 2048 := by
  by_cases he : e = 0
  · by_cases hl : rlong q
    · obtain ⟨_, a2, a3, _⟩ := h.long he hl
      rw [a2, a3]; simp
    · obtain ⟨l1, l2, _⟩ := rchk_ok (h.good he hl).2.1
      exact ⟨l1, l2⟩
  · obtain ⟨_, a2, a3, _⟩ := h.bad he
    rw [a2, a3]; simp
theorem make_parts {n m : Bool} {xs ys : List Int} (hx : 0 ≤ val xs) (hy : 0 < val ys) :
    0 < val ys / gcdI (val xs) (val ys) ∧ gcdI (val xs / gcdI (val xs) (val ys)) (val ys / gcdI (val xs) (val ys)) = 1 ∧ Rat.divInt (sg (n != m) (val xs / gcdI (val xs) (val ys))) (val ys / gcdI (val xs) (val ys)) = Rat.divInt (wval n xs) (wval m ys) := by
  obtain ⟨e1, e2, e3⟩ := fr_make (x := val xs) (d := val ys) (p := val xs / gcdI (val xs) (val ys)) (e := val ys / gcdI (val xs) (val ys)) hy rfl (div_gcd_left rfl) (div_gcd_right rfl)
  refine ⟨e1, e2, ?_⟩
  generalize val xs / gcdI (val xs) (val ys) = p at *
  generalize val ys / gcdI (val xs) (val ys) = e at *
  cases n <;> cases m <;> simp [sg, wval, e3, Rat.divInt_neg', ← Rat.neg_divInt]
/-- A callee's contract, at each world that may come up in a region: with what stays beside it, and where what is told lies. -/
theorem told1_in {U : World} {f : Nat} {args : Array Value} {t : Int} (S : World → Prop) (hS : ∀ w', Below U.heap.size U w' → S w') (ww : World) (hb : Below U.heap.size U ww) (C : Calls Try.prog f args ww (Told1 ww t)) :
    Calls Try.prog f args ww fun e w' => ∃ a2 zs c2, e = .returned (.slice a2 zs.length c2) ∧ Hid (One U w' (.slice a2 zs.length c2) zs t ∧ Lies (.slice a2 zs.length c2) ww.heap.size w'.heap.size) ∧ S w' ∧ Below U.heap.size U w' ∧ Hid (Below ww.heap.size ww w') :=
  Calls.mono C fun e w' h => by
    obtain ⟨v, zs, rfl, o, h1, h2, h3, hb2⟩ := h
    obtain ⟨a2, c2, hs2⟩ := own_slice' o
    subst hs2
    exact ⟨a2, zs, c2, rfl, ⟨⟨owns_base o hb.size, h1, h2, h3⟩, fun g hg => o.lt g hg⟩, hS w' (bt hb hb2), bt hb hb2, hb2⟩
theorem quot_in {U ww : World} {a : Option Addr} {ca : Nat} {xs : List Int} {a1 : Option Addr} {z1 : List Int} {c1 : Nat} {g : Int} (S : World → Prop) (hS : ∀ w', Below U.heap.size U w' → S w') (hb : Below U.heap.size U ww) (hx : Sl ww (.slice a xs.length ca) xs) (lx : xs.length ≤ 8192) (tx : Trimmed xs) (h : One U ww (.slice a1 z1.length c1) z1 g) (h0 : 0 < g) (hl : g < 4294967296 ^ 2048) :
    Calls Try.prog 50 #[.slice a xs.length ca, .slice a1 z1.length c1] ww fun e w' => ∃ a2 zs c2, e = .returned (.slice a2 zs.length c2) ∧ Hid (One U w' (.slice a2 zs.length c2) zs (val xs / g) ∧ Lies (.slice a2 zs.length c2) ww.heap.size w'.heap.size) ∧ S w' ∧ Below U.heap.size U w' ∧ Hid (Below ww.heap.size ww w') := by
  have e := rquot_any _ _ xs z1 ww hx h.sl lx (by have := own_len h hl; omega) tx h.2.2.1 (own_pos h h0)
  rw [h.2.2.2] at e
  exact told1_in S hS ww hb e
theorem cut_two {U u V W : World} {v w : Value} (h0 : U.heap.size ≤ u.heap.size) (h1 : u.heap.size ≤ V.heap.size) (h2 : V.heap.size ≤ W.heap.size) (l1 : Lies v u.heap.size V.heap.size) (l2 : Lies w V.heap.size W.heap.size) : Cut U v w W :=
  ⟨V.heap.size, Nat.le_trans h0 h1, h2, fun g hg => ⟨Nat.le_trans h0 (l1 g hg).1, (l1 g hg).2⟩, l2⟩
/-- What told tells, where numerator and denominator lie apart. -/
theorem rtold_cut {U ww : World} {n : Bool} {a : Option Addr} {ca : Nat} {zs : List Int} {b : Option Addr} {cb : Nat} {ds : List Int} {s t : Int} {q : Rat} (S : World → Prop) (hS : ∀ w', Below U.heap.size U w' → S w') (hb : Below U.heap.size U ww) (h1 : One U ww (.slice a zs.length ca) zs s) (h2 : One U ww (.slice b ds.length cb) ds t) (hc : Cut U (.slice a zs.length ca) (.slice b ds.length cb) ww) (hd : 0 < t) (hg : gcdI s t = 1) (hq : Rat.divInt (sg n s) t = q) :
    Calls Try.prog 49 #[.bool n, .slice a zs.length ca, .slice b ds.length cb] ww fun e w' => ∃ k a8 z8 c8 a9 z9 c9 code, e = .returned (.tuple #[.agg #[.bool k, .slice a8 (List.length z8) c8, .slice a9 (List.length z9) c9], .int .i64 code]) ∧ Hid (w'.ownsRow U.heap.size 45 1 (.slice a8 (List.length z8) c8) z8.length (z8.map (Value.int .u32)) ∧ w'.ownsRow U.heap.size 45 1 (.slice a9 (List.length z9) c9) z9.length (z9.map (Value.int .u32)) ∧ RTells 0 q k z8 z9 code ∧ Cut U (.slice a8 (List.length z8) c8) (.slice a9 (List.length z9) c9) w') ∧ S w' ∧ Below U.heap.size U w' := by
  obtain ⟨o1, w1, t1, v1⟩ := h1
  obtain ⟨o2, w2, t2, v2⟩ := h2
  obtain ⟨k, us, vs, c, e1, e2, e3, r⟩ := rtells_of (n := n) w1 t1 w2 t2 (by rw [v2]; exact hd) (by rw [v1, v2]; exact hg)
  rw [v1, v2, hq] at r
  refine Calls.mono (rtold_any n a zs.length ca b ds.length cb ww) fun e w' h => ?_
  obtain ⟨rfl, hb2⟩ := h
  rw [e1]
  by_cases z : c = 0
  · rw [if_pos z] at e2 e3
    subst e2; subst e3
    refine ⟨k, a, us, ca, b, vs, cb, c, by rw [if_pos z, if_pos z], ⟨owns_later o1 hb2, owns_later o2 hb2, r, hc.up (Nat.le_refl _) hb2.size⟩, hS w' (bt hb hb2), bt hb hb2⟩
  · rw [if_neg z] at e2 e3
    subst e2; subst e3
    exact ⟨k, none, [], 0, none, [], 0, c, by rw [if_neg z, if_neg z]; rfl, ⟨World.ownsRow_nil _ _ _ _, World.ownsRow_nil _ _ _ _, r, ⟨U.heap.size, Nat.le_refl _, (bt hb hb2).size, fun g hg => by simp [Value.ownBlock] at hg, fun g hg => by simp [Value.ownBlock] at hg⟩⟩, hS w' (bt hb hb2), bt hb hb2⟩
theorem RToldA.put {w U w3 : World} {e : Int} {q : Rat} {k : Bool} {v u : Value} {zs ds : List Int} {code : Int} (h : w3.ownsRow U.heap.size 45 1 v zs.length (zs.map (Value.int .u32)) ∧ w3.ownsRow U.heap.size 45 1 u ds.length (ds.map (Value.int .u32)) ∧ RTells e q k zs ds code ∧ Cut U v u w3) (b : Nat) (hb : b < U.heap.size) (hw : w.heap.size ≤ b) (hbw : Below w.heap.size w w3) (x y z : Value) :
    RToldA w e q (.returned (.tuple #[.agg #[.bool k, v, u], .int .i64 code])) (((w3.setCell ⟨b, 0, none⟩ x).setCell ⟨b, 1, none⟩ y).setCell ⟨b, 2, none⟩ z) :=
  ⟨k, v, zs, u, ds, code, rfl, owns_base (own_put3 h.1 b (fun g hg => by have := (World.ownsRow.lt h.1 g hg).1; omega) _ _ _) (by omega), owns_base (own_put3 h.2.1 b (fun g hg => by have := (World.ownsRow.lt h.2.1 g hg).1; omega) _ _ _) (by omega), h.2.2.1, below_put3 hbw b hw _ _ _, h.2.2.2.up (by omega) (by simp)⟩
/-- The error of Make. -/
def mkErr (n : Bool) (xs : List Int) (m : Bool) (ys : List Int) : Int := if wboth n xs m ys = 0 then (if ys.length = 0 then 7 else 0) else wboth n xs m ys
end Go.Proofs.Ytkkehddpblkegaa

/- Boxes of fractions, rows of the call's own and one box of a flag, in a bundle that is moved along. -/
namespace Go.Proofs.Ytkkehddpblkegaa
open Go.RowKit
set_option linter.unusedVariables false

theorem Box.same {w : World} {b t : Nat} {vs : Array Value} (h : Box w b t vs) {j : Nat} {v : Value} (hv : vs[j]? = some v) : w.setCell ⟨b, j, none⟩ v = w := by
  have e : (w.setCell ⟨b, j, none⟩ v).heap = w.heap := by
    have h' : w.heap[b]? = some (.cells vs t (0, 0)) := h
    have hs : vs.setIfInBounds j v = vs := by
      apply Array.ext_getElem?
      intro k
      rw [Array.getElem?_setIfInBounds]
      by_cases c : j = k
      · subst c
        obtain ⟨hk, _⟩ := Array.getElem?_eq_some_iff.1 hv
        rw [if_pos rfl, if_pos hk, hv]
      · rw [if_neg c]
    unfold World.setCell
    apply Array.ext_getElem?
    intro k
    simp only [Array.getElem?_modify]
    by_cases c : b = k
    · subst c
      rw [if_pos rfl, h']
      simp [hs]
    · rw [if_neg c]
  cases w
  simp only [World.setCell] at e ⊢
  rw [e]
theorem own_put1 {w : World} {base e n : Nat} {v : Value} {xs : List Value} (h : w.ownsRow base e 1 v n xs) (b : Nat) (hb : ∀ g, v.ownBlock = some g → g ≠ b) (j : Nat) (v0 : Value) : (w.setCell ⟨b, j, none⟩ v0).ownsRow base e 1 v n xs := by
  have hne : v.ownBlock = none ∨ v.ownBlock ≠ some b := by
    cases hv : v.ownBlock with
    | none => exact .inl rfl
    | some g => right; intro e; exact hb g hv (Option.some.inj e)
  exact World.ownsRow.kept h (grown_set w ⟨b, j, none⟩ v0) hne
/-- Boxes that hold fractions. -/
def Bxs3 (W : World) (l : List (Nat × Array Value)) : Prop := ∀ p ∈ l, Box W p.1 33 p.2
def Rws (W : World) (l : List (Nat × Value × List Int)) : Prop := ∀ p ∈ l, W.ownsRow p.1 45 1 p.2.1 p.2.2.length (p.2.2.map (Value.int .u32))
/-- What is known of a world: boxes of fractions, rows of the call's own, what was there. -/
structure St (w W : World) (l : List (Nat × Array Value)) (r : List (Nat × Value × List Int)) : Prop where
  box : Bxs3 W l
  row : Rws W r
  bel : Below w.heap.size w W
theorem St.later {w W W' : World} {l : List (Nat × Array Value)} {r : List (Nat × Value × List Int)} (h : St w W l r) (hb : Below W.heap.size W W') : St w W' l r :=
  ⟨fun p hp => (h.box p hp).later hb (h.box p hp).lt, fun p hp => owns_later (h.row p hp) hb, bt h.bel hb⟩
theorem St.more {w W : World} {l : List (Nat × Array Value)} {r : List (Nat × Value × List Int)} (h : St w W l r) {base : Nat} {v : Value} {zs : List Int} (o : W.ownsRow base 45 1 v zs.length (zs.map (Value.int .u32))) : St w W l ((base, v, zs) :: r) :=
  ⟨h.box, fun p hp => by
    cases hp with
    | head => exact o
    | tail _ hp => exact h.row p hp, h.bel⟩
theorem St.put {w W : World} {l : List (Nat × Array Value)} {r : List (Nat × Value × List Int)} (h : St w W l r) (n : Bool) (v u : Value) : St w (W.alloc (.cells #[.bool n, v, u] 33)) ((W.heap.size, #[.bool n, v, u]) :: l) r :=
  ⟨fun p hp => by
    cases hp with
    | head => exact Box.made W _ _
    | tail _ hp => exact (h.box p hp).later (alloc_later _ _) (h.box p hp).lt, (h.later (alloc_later _ _)).row, (h.later (alloc_later _ _)).bel⟩
theorem St.free {w W : World} {l : List (Nat × Array Value)} {r : List (Nat × Value × List Int)} (h : St w W l r) {g : Nat} {n : Bool} {v u : Value} (hm : (g, #[.bool n, v, u]) ∈ l) : W.frozen? ⟨g, 0, none⟩ = false ∧ W.frozen? ⟨g, 1, none⟩ = false ∧ W.frozen? ⟨g, 2, none⟩ = false := ⟨(h.box _ hm).free 0, (h.box _ hm).free 1, (h.box _ hm).free 2⟩
theorem St.same {w W : World} {l : List (Nat × Array Value)} {r : List (Nat × Value × List Int)} (h : St w W l r) {g : Nat} {n : Bool} {v u : Value} (hm : (g, #[.bool n, v, u]) ∈ l) : W.setCell ⟨g, 0, none⟩ (.bool n) = W ∧ W.setCell ⟨g, 1, none⟩ v = W ∧ W.setCell ⟨g, 2, none⟩ u = W := ⟨(h.box _ hm).same rfl, (h.box _ hm).same rfl, (h.box _ hm).same rfl⟩
theorem St.sl {w W : World} {l : List (Nat × Array Value)} {r : List (Nat × Value × List Int)} (h : St w W l r) {base : Nat} {v : Value} {zs : List Int} (wd : Wd zs) (hm : (base, v, zs) ∈ r) : Sl W v zs := Sl.own (h.row _ hm) wd
/-- A store into a box of another type. -/
theorem St.flag {w W : World} {l : List (Nat × Array Value)} {r : List (Nat × Value × List Int)} (h : St w W l r) {g t : Nat} {vs : Array Value} (b : Box W g t vs) (hg : w.heap.size ≤ g) (h1 : t ≠ 33) (h2 : t ≠ 45) (j : Nat) (v : Value) : St w (W.setCell ⟨g, j, none⟩ v) l r := by
  refine ⟨fun p hp => (h.box p hp).other _ _ (fun e => ?_), fun p hp => own_put1 (h.row p hp) g (own_ne_box (h.row p hp) b (Ne.symm h2)) _ _, h.bel.setCell (p := ⟨g, j, none⟩) hg _⟩
  · have e1 := h.box p hp
    rw [e] at e1
    have e2 : some (Obj.cells p.2 33 (0, 0)) = some (.cells vs t (0, 0)) := e1.symm.trans b
    injection e2 with e3
    injection e3 with _ e4 _
    exact h1 e4.symm
end Go.Proofs.Ytkkehddpblkegaa

/- Complex fractions: gauss.Check; the steps' own: look, next. -/
namespace Go.Proofs.Ytkkehddpblkegaa
open Go.RowKit
set_option linter.unusedVariables false

/-- The first error, else the second. -/
def fstE (E e : Int) : Int := if E = 0 then e else E
theorem fstE_zero (e : Int) : fstE 0 e = e := if_pos rfl
theorem fstE_err {E : Int} (e : Int) (h : E ≠ 0) : fstE E e = E := if_neg h
/-- What Check tells of two parts. -/
def gchk (n : Bool) (xs ys : List Int) (m : Bool) (us vs : List Int) : Int := fstE (rchk n xs ys) (rchk m us vs)

theorem boxes3r (w : World) (t : Nat) (u v z : Array Value) : Box (((w.alloc (.cells u t)).alloc (.cells v t)).alloc (.cells z t)) w.heap.size t u ∧ Box (((w.alloc (.cells u t)).alloc (.cells v t)).alloc (.cells z t)) (w.heap.size + 1) t v ∧ Box (((w.alloc (.cells u t)).alloc (.cells v t)).alloc (.cells z t)) (w.heap.size + 1 + 1) t z ∧ Below w.heap.size w (((w.alloc (.cells u t)).alloc (.cells v t)).alloc (.cells z t)) := by
  have e1 : (w.alloc (.cells u t)).heap.size = w.heap.size + 1 := World.size_alloc _ _
  have e2 : ((w.alloc (.cells u t)).alloc (.cells v t)).heap.size = w.heap.size + 1 + 1 := by rw [World.size_alloc, World.size_alloc]
  have a := Box.made w t u
  have b := Box.made (w.alloc (.cells u t)) t v
  have c := Box.made ((w.alloc (.cells u t)).alloc (.cells v t)) t z
  have a2 := a.later (alloc_later (w.alloc (.cells u t)) (.cells v t)) a.lt
  exact ⟨a2.later (alloc_later _ _) a2.lt, e1 ▸ (b.later (alloc_later _ _) b.lt), e2 ▸ c, bt (alloc_later _ _) (bt (alloc_later _ _) (alloc_later _ _))⟩

theorem own_put3' {w : World} {base e n : Nat} {v : Value} {xs : List Value} (h : w.ownsRow base e 1 v n xs) (b : Nat) (hb : ∀ g, v.ownBlock = some g → g ≠ b) (u0 u1 u2 : Value) : (((w.setCell ⟨b, 0, none⟩ u0).setCell ⟨b, 1, none⟩ u1).setCell ⟨b, 2, none⟩ u2).ownsRow base e 1 v n xs :=
  own_put1 (own_put1 (own_put1 h b hb 0 u0) b hb 1 u1) b hb 2 u2
theorem box_put3 {U : World} {b t : Nat} {u0 u1 u2 : Value} (h : Box U b t #[u0, u1, u2]) (v0 v1 v2 : Value) : Box (((U.setCell ⟨b, 0, none⟩ v0).setCell ⟨b, 1, none⟩ v1).setCell ⟨b, 2, none⟩ v2) b t #[v0, v1, v2] := ((h.set 0 v0).set 1 v1).set 2 v2
theorem box_far3 {U : World} {b t b' : Nat} {vs : Array Value} (h : Box U b t vs) (hne : b ≠ b') (v0 v1 v2 : Value) : Box (((U.setCell ⟨b', 0, none⟩ v0).setCell ⟨b', 1, none⟩ v1).setCell ⟨b', 2, none⟩ v2) b t vs := ((h.other ⟨b', 0, none⟩ v0 hne).other ⟨b', 1, none⟩ v1 hne).other ⟨b', 2, none⟩ v2 hne

end Go.Proofs.Ytkkehddpblkegaa

/- Fractions: ratio.add: sums of fractions that may be; what is told is new memory, Num and Den apart. -/
namespace Go.Proofs.Ytkkehddpblkegaa
open Go.RowKit
set_option linter.unusedVariables false

/-- A whole number in a box, behind what was there. -/
def Num (X U F : World) (p : Nat) (k : Bool) (a : Option Addr) (c : Nat) (z : List Int) (T : Int) : Prop := Box F p 79 #[.bool k, .slice a z.length c] ∧ One X F (.slice a z.length c) z T ∧ Below U.heap.size U F
end Go.Proofs.Ytkkehddpblkegaa

/- Fractions: ratio.Add, Mul, Sub: of any fractions, good or refused; what is told is new memory. -/
namespace Go.Proofs.Ytkkehddpblkegaa
open Go.RowKit
set_option linter.unusedVariables false

end Go.Proofs.Ytkkehddpblkegaa

/- Fractions: ratio.Quo, Neg, Sign: of any fractions, good or refused; what is told is new memory. -/
namespace Go.Proofs.Ytkkehddpblkegaa
open Go.RowKit
set_option linter.unusedVariables false

end Go.Proofs.Ytkkehddpblkegaa

/- Fractions: ratio.Neg, Sign: of any fraction, good or refused. -/
namespace Go.Proofs.Ytkkehddpblkegaa
open Go.RowKit
set_option linter.unusedVariables false

end Go.Proofs.Ytkkehddpblkegaa

/- Complex fractions, the steps' own: opposite, look, told. -/
namespace Go.Proofs.Ytkkehddpblkegaa
open Go.RowKit
set_option linter.unusedVariables false

end Go.Proofs.Ytkkehddpblkegaa

/- Complex fractions, the steps' own: told. -/
namespace Go.Proofs.Ytkkehddpblkegaa
open Go.RowKit
set_option linter.unusedVariables false

theorem box_put6 {U : World} {b t : Nat} {u0 u1 u2 u3 u4 u5 : Value} (h : Box U b t #[u0, u1, u2, u3, u4, u5]) (v0 v1 v2 v3 v4 v5 : Value) : Box ((((((U.setCell ⟨b, 0, none⟩ v0).setCell ⟨b, 1, none⟩ v1).setCell ⟨b, 2, none⟩ v2).setCell ⟨b, 3, none⟩ v3).setCell ⟨b, 4, none⟩ v4).setCell ⟨b, 5, none⟩ v5) b t #[v0, v1, v2, v3, v4, v5] := (((((h.set 0 v0).set 1 v1).set 2 v2).set 3 v3).set 4 v4).set 5 v5
theorem below_put6 {B : Nat} {x U : World} (h : Below B x U) (b : Nat) (hb : B ≤ b) (v0 v1 v2 v3 v4 v5 : Value) : Below B x ((((((U.setCell ⟨b, 0, none⟩ v0).setCell ⟨b, 1, none⟩ v1).setCell ⟨b, 2, none⟩ v2).setCell ⟨b, 3, none⟩ v3).setCell ⟨b, 4, none⟩ v4).setCell ⟨b, 5, none⟩ v5) :=
  (((((h.setCell (p := ⟨b, 0, none⟩) hb _).setCell (p := ⟨b, 1, none⟩) hb _).setCell (p := ⟨b, 2, none⟩) hb _).setCell (p := ⟨b, 3, none⟩) hb _).setCell (p := ⟨b, 4, none⟩) hb _).setCell (p := ⟨b, 5, none⟩) hb _
end Go.Proofs.Ytkkehddpblkegaa

/- Complex fractions: gauss.Add, Sub: of any two, good or refused. -/
namespace Go.Proofs.Ytkkehddpblkegaa
open Go.RowKit
set_option linter.unusedVariables false

/-- What a call tells that tells a complex fraction: E what was refused ahead, L whether something on the way is too long. -/
structure GTells (E : Int) (L : Prop) (q1 q2 : Rat) (n : Bool) (xs ys : List Int) (m : Bool) (us vs : List Int) (code : Int) : Prop where
  wd : Wd xs ∧ Wd ys ∧ Wd us ∧ Wd vs
  bad : E ≠ 0 → (n = false ∧ xs = [] ∧ ys = [] ∧ m = false ∧ us = [] ∧ vs = []) ∧ code = E
  long : E = 0 → L → (n = false ∧ xs = [] ∧ ys = [] ∧ m = false ∧ us = [] ∧ vs = []) ∧ code = 3
  good : E = 0 → ¬ L → code = 0 ∧ (rchk n xs ys = 0 ∧ rq n xs ys = q1) ∧ rchk m us vs = 0 ∧ rq m us vs = q2
def GTold (w : World) (E : Int) (L : Prop) (q1 q2 : Rat) (x : Ending) (w' : World) : Prop :=
  ∃ n a ca xs b cb ys m c cc us d cd vs code, x = .returned (.tuple #[.agg #[.bool n, .slice a (List.length xs) ca, .slice b (List.length ys) cb, .bool m, .slice c (List.length us) cc, .slice d (List.length vs) cd], .int .i64 code]) ∧ (w'.ownsRow w.heap.size 45 1 (.slice a xs.length ca) xs.length (xs.map (Value.int .u32)) ∧ w'.ownsRow w.heap.size 45 1 (.slice b ys.length cb) ys.length (ys.map (Value.int .u32)) ∧ w'.ownsRow w.heap.size 45 1 (.slice c us.length cc) us.length (us.map (Value.int .u32)) ∧ w'.ownsRow w.heap.size 45 1 (.slice d vs.length cd) vs.length (vs.map (Value.int .u32))) ∧ GTells E L q1 q2 n xs ys m us vs code ∧ Below w.heap.size w w'

theorem own_put6 {w : World} {base e n : Nat} {v : Value} {xs : List Value} (h : w.ownsRow base e 1 v n xs) (b : Nat) (hb : ∀ g, v.ownBlock = some g → g ≠ b) (u0 u1 u2 u3 u4 u5 : Value) : ((((((w.setCell ⟨b, 0, none⟩ u0).setCell ⟨b, 1, none⟩ u1).setCell ⟨b, 2, none⟩ u2).setCell ⟨b, 3, none⟩ u3).setCell ⟨b, 4, none⟩ u4).setCell ⟨b, 5, none⟩ u5).ownsRow base e 1 v n xs :=
  own_put1 (own_put1 (own_put1 (own_put3' h b hb u0 u1 u2) b hb 3 u3) b hb 4 u4) b hb 5 u5
/-- A complex fraction is read out of a box, its error out of a slot. -/
theorem gres_run {fn : Func} {W : World} {b q u : Nat} {cs : Array Value} (hr : fn.results = #[.cell q 35, .tmp u]) (hb : Box W b 35 cs) (tmps : Array Value) (h4 : tmps.getD q undef = .pointer (some ⟨b, 0, none⟩)) (hi : (Try.prog.info? 35).map (·.size) = some cs.size := by kernel_rfl) : (results fn tmps).run Try.prog W = .ok (.tuple #[.agg cs, tmps.getD u undef]) W := by
  have h := run_loadVar_row (P := Try.prog) W b 35 35 cs (0, 0) _ hb Try.underlying35 rfl hi
  rw [results_cell_tmp hr, h4]
  simp [asAddr, h]

end Go.Proofs.Ytkkehddpblkegaa

/- Fractions: Same, Sign; slices.Equal of words. -/
namespace Go.Proofs.Ytkkehddpblkegaa
open Go.RowKit
set_option linter.unusedVariables false

end Go.Proofs.Ytkkehddpblkegaa

/- Complex fractions: gauss.Same: of any two. -/
namespace Go.Proofs.Ytkkehddpblkegaa
open Go.RowKit
set_option linter.unusedVariables false

end Go.Proofs.Ytkkehddpblkegaa

/- Fractions: ratio.Make, ratio.Small. -/
namespace Go.Proofs.Ytkkehddpblkegaa
open Go.RowKit
set_option linter.unusedVariables false

set_option maxHeartbeats 3200000 in
set_option maxRecDepth 100000 in
theorem rmake_e1 (n : Bool) (a : Option Addr) (ca : Nat) (xs : List Int) (m : Bool) (b : Option Addr) (cb : Nat) (ys : List Int) (w : World) (h : Sl w (.slice a xs.length ca) xs) (g : Sl w (.slice b ys.length cb) ys) (lx : xs.length ≤ 281474976710656) (ly : ys.length ≤ 281474976710656) (hx : wchk n xs ≠ 0) (q : Rat) :
    Calls Try.prog 43 #[.agg #[.bool n, .slice a xs.length ca], .agg #[.bool m, .slice b ys.length cb]] w (RToldA w (wchk n xs) q) := by
  have HB : Hid (Below w.heap.size w (((w.alloc (.cells #[.bool n, .slice a xs.length ca] 79)).alloc (.cells #[.bool m, .slice b ys.length cb] 79)).alloc (.cells #[.bool false, .slice none 0 0, .slice none 0 0] 33))) := bt (bt (alloc_later _ _) (alloc_later _ _)) (alloc_later _ _)
  have HZ : Hid (Box (((w.alloc (.cells #[.bool n, .slice a xs.length ca] 79)).alloc (.cells #[.bool m, .slice b ys.length cb] 79)).alloc (.cells #[.bool false, .slice none 0 0, .slice none 0 0] 33)) (w.heap.size + 1 + 1) 33 #[.bool false, .slice none 0 0, .slice none 0 0]) := by
    have e := Box.made ((w.alloc (.cells #[.bool n, .slice a xs.length ca] 79)).alloc (.cells #[.bool m, .slice b ys.length cb] 79)) 33 #[.bool false, .slice none 0 0, .slice none 0 0]
    simp at e
    exact e
  have HN : Hid (Box (((w.alloc (.cells #[.bool n, .slice a xs.length ca] 79)).alloc (.cells #[.bool m, .slice b ys.length cb] 79)).alloc (.cells #[.bool false, .slice none 0 0, .slice none 0 0] 33)) w.heap.size 79 #[.bool n, .slice a xs.length ca]) := Box.later (Box.later (Box.made w _ _) (alloc_later _ _) (by simp)) (alloc_later _ _) (by simp; omega)
  have HM : Hid (Box (((w.alloc (.cells #[.bool n, .slice a xs.length ca] 79)).alloc (.cells #[.bool m, .slice b ys.length cb] 79)).alloc (.cells #[.bool false, .slice none 0 0, .slice none 0 0] 33)) (w.heap.size + 1) 79 #[.bool m, .slice b ys.length cb]) := by
    have e := Box.later (Box.made (w.alloc (.cells #[.bool n, .slice a xs.length ca] 79)) 79 #[.bool m, .slice b ys.length cb]) (alloc_later ((w.alloc (.cells #[.bool n, .slice a xs.length ca] 79)).alloc (.cells #[.bool m, .slice b ys.length cb] 79)) (.cells #[.bool false, .slice none 0 0, .slice none 0 0] 33)) (by simp)
    simp at e
    exact e
  have HS := hid (And.intro (h.later HB.out) (g.later HB.out))
  have HXS : Hid (w.heap.size + 1 + 1 < (((w.alloc (.cells #[.bool n, .slice a xs.length ca] 79)).alloc (.cells #[.bool m, .slice b ys.length cb] 79)).alloc (.cells #[.bool false, .slice none 0 0, .slice none 0 0] 33)).heap.size) := HZ.out.lt
  have HC1 := hid (wcheck_any n _ xs _ HS.out.1 lx)
  obtain ⟨e1, he1⟩ : ∃ e1, wchk n xs = e1 := ⟨_, rfl⟩
  rw [he1] at HC1 hx ⊢
  have hx' : (e1 == 0) = false := beq_eq_false_iff_ne.2 hx
  have HE := hid hx
  clear he1 hx
  clear h g
  go_enter Try.func43, Try.ntmps43
  go_wp2_with fail
  refine Calls.mono HC1.out ?_
  generalize (((w.alloc (.cells #[.bool n, .slice a xs.length ca] 79)).alloc (.cells #[.bool m, .slice b ys.length cb] 79)).alloc (.cells #[.bool false, .slice none 0 0, .slice none 0 0] 33)) = X at *
  rintro e w1 ⟨rfl, hb1⟩
  have HB1 := hid hb1
  clear hb1 HC1
  obtain ⟨y0, y1, y2, f0, f1, f2⟩ := res_box3 HZ.out HB1.out
  have HBN := hid (below_put3 (bt HB.out HB1.out) (w.heap.size + 1 + 1) (by omega) (.bool false) (.slice none 0 0) (.slice none 0 0))
  clear HN HM HZ HS
  go_wp2_with fail
  refine bodyPost_ret (v := .tuple #[.agg #[.bool false, .slice none 0 0, .slice none 0 0], .int .i64 e1]) (by simp [results, Try.results43, go_sem, y0, y1, y2]) rfl ?_
  exact ⟨false, _, [], _, [], _, rfl, World.ownsRow_nil _ _ _ _, World.ownsRow_nil _ _ _ _, RTells.err HE.out, HBN.out, ⟨w.heap.size, Nat.le_refl _, HBN.out.size, fun g hg => by simp [Value.ownBlock] at hg, fun g hg => by simp [Value.ownBlock] at hg⟩⟩

set_option maxHeartbeats 3200000 in
set_option maxRecDepth 100000 in
theorem rmake_e2 (n : Bool) (a : Option Addr) (ca : Nat) (xs : List Int) (m : Bool) (b : Option Addr) (cb : Nat) (ys : List Int) (w : World) (h : Sl w (.slice a xs.length ca) xs) (g : Sl w (.slice b ys.length cb) ys) (lx : xs.length ≤ 281474976710656) (ly : ys.length ≤ 281474976710656) (hx : wchk n xs = 0) (hy : wchk m ys ≠ 0) (q : Rat) :
    Calls Try.prog 43 #[.agg #[.bool n, .slice a xs.length ca], .agg #[.bool m, .slice b ys.length cb]] w (RToldA w (wchk m ys) q) := by
  have HB : Hid (Below w.heap.size w (((w.alloc (.cells #[.bool n, .slice a xs.length ca] 79)).alloc (.cells #[.bool m, .slice b ys.length cb] 79)).alloc (.cells #[.bool false, .slice none 0 0, .slice none 0 0] 33))) := bt (bt (alloc_later _ _) (alloc_later _ _)) (alloc_later _ _)
  have HZ : Hid (Box (((w.alloc (.cells #[.bool n, .slice a xs.length ca] 79)).alloc (.cells #[.bool m, .slice b ys.length cb] 79)).alloc (.cells #[.bool false, .slice none 0 0, .slice none 0 0] 33)) (w.heap.size + 1 + 1) 33 #[.bool false, .slice none 0 0, .slice none 0 0]) := by
    have e := Box.made ((w.alloc (.cells #[.bool n, .slice a xs.length ca] 79)).alloc (.cells #[.bool m, .slice b ys.length cb] 79)) 33 #[.bool false, .slice none 0 0, .slice none 0 0]
    simp at e
    exact e
  have HN : Hid (Box (((w.alloc (.cells #[.bool n, .slice a xs.length ca] 79)).alloc (.cells #[.bool m, .slice b ys.length cb] 79)).alloc (.cells #[.bool false, .slice none 0 0, .slice none 0 0] 33)) w.heap.size 79 #[.bool n, .slice a xs.length ca]) := Box.later (Box.later (Box.made w _ _) (alloc_later _ _) (by simp)) (alloc_later _ _) (by simp; omega)
  have HM : Hid (Box (((w.alloc (.cells #[.bool n, .slice a xs.length ca] 79)).alloc (.cells #[.bool m, .slice b ys.length cb] 79)).alloc (.cells #[.bool false, .slice none 0 0, .slice none 0 0] 33)) (w.heap.size + 1) 79 #[.bool m, .slice b ys.length cb]) := by
    have e := Box.later (Box.made (w.alloc (.cells #[.bool n, .slice a xs.length ca] 79)) 79 #[.bool m, .slice b ys.length cb]) (alloc_later ((w.alloc (.cells #[.bool n, .slice a xs.length ca] 79)).alloc (.cells #[.bool m, .slice b ys.length cb] 79)) (.cells #[.bool false, .slice none 0 0, .slice none 0 0] 33)) (by simp)
    simp at e
    exact e
  have HS := hid (And.intro (h.later HB.out) (g.later HB.out))
  have HXS : Hid (w.heap.size + 1 + 1 < (((w.alloc (.cells #[.bool n, .slice a xs.length ca] 79)).alloc (.cells #[.bool m, .slice b ys.length cb] 79)).alloc (.cells #[.bool false, .slice none 0 0, .slice none 0 0] 33)).heap.size) := HZ.out.lt
  have HC1 := hid (wcheck_any n _ xs _ HS.out.1 lx)
  rw [hx] at HC1
  obtain ⟨e1, he1⟩ : ∃ e1, wchk m ys = e1 := ⟨_, rfl⟩
  have HC2 := hid (fun ww (hb : Below _ (((w.alloc (.cells #[.bool n, .slice a xs.length ca] 79)).alloc (.cells #[.bool m, .slice b ys.length cb] 79)).alloc (.cells #[.bool false, .slice none 0 0, .slice none 0 0] 33)) ww) => wcheck_any m _ ys ww (HS.out.2.later hb) ly)
  rw [he1] at HC2 hy ⊢
  have hy' : (e1 == 0) = false := beq_eq_false_iff_ne.2 hy
  have HE := hid hy
  clear he1 hy hx
  clear h g
  go_enter Try.func43, Try.ntmps43
  go_wp2_with fail
  refine Calls.mono HC1.out ?_
  generalize (((w.alloc (.cells #[.bool n, .slice a xs.length ca] 79)).alloc (.cells #[.bool m, .slice b ys.length cb] 79)).alloc (.cells #[.bool false, .slice none 0 0, .slice none 0 0] 33)) = X at *
  rintro e w1 ⟨rfl, hb1⟩
  have HB1 := hid hb1
  clear hb1 HC1
  have HC := hid (HC2.out w1 HB1.out)
  obtain ⟨q0, q1, _, _⟩ := (HM.out.later HB1.out HM.out.lt).c2
  clear HC2
  go_wp2_with fail
  refine Calls.mono HC.out ?_
  rintro e w2 ⟨rfl, hb2⟩
  have HB2 := hid (bt HB1.out hb2)
  clear hb2 HC q0 q1
  obtain ⟨y0, y1, y2, f0, f1, f2⟩ := res_box3 HZ.out HB2.out
  have HBN := hid (below_put3 (bt HB.out HB2.out) (w.heap.size + 1 + 1) (by omega) (.bool false) (.slice none 0 0) (.slice none 0 0))
  clear HN HM HZ HS
  go_wp2_with fail
  refine bodyPost_ret (v := .tuple #[.agg #[.bool false, .slice none 0 0, .slice none 0 0], .int .i64 e1]) (by simp [results, Try.results43, go_sem, y0, y1, y2]) rfl ?_
  exact ⟨false, _, [], _, [], _, rfl, World.ownsRow_nil _ _ _ _, World.ownsRow_nil _ _ _ _, RTells.err HE.out, HBN.out, ⟨w.heap.size, Nat.le_refl _, HBN.out.size, fun g hg => by simp [Value.ownBlock] at hg, fun g hg => by simp [Value.ownBlock] at hg⟩⟩

set_option maxHeartbeats 3200000 in
set_option maxRecDepth 100000 in
theorem rmake_z (n : Bool) (a : Option Addr) (ca : Nat) (xs : List Int) (m : Bool) (b : Option Addr) (cb : Nat) (ys : List Int) (w : World) (h : Sl w (.slice a xs.length ca) xs) (g : Sl w (.slice b ys.length cb) ys) (lx : xs.length ≤ 281474976710656) (ly : ys.length ≤ 281474976710656) (hx : wchk n xs = 0) (hy : wchk m ys = 0) (h0 : ys.length = 0) (q : Rat) :
    Calls Try.prog 43 #[.agg #[.bool n, .slice a xs.length ca], .agg #[.bool m, .slice b ys.length cb]] w (RToldA w 7 q) := by
  have HB : Hid (Below w.heap.size w (((w.alloc (.cells #[.bool n, .slice a xs.length ca] 79)).alloc (.cells #[.bool m, .slice b ys.length cb] 79)).alloc (.cells #[.bool false, .slice none 0 0, .slice none 0 0] 33))) := bt (bt (alloc_later _ _) (alloc_later _ _)) (alloc_later _ _)
  have HZ : Hid (Box (((w.alloc (.cells #[.bool n, .slice a xs.length ca] 79)).alloc (.cells #[.bool m, .slice b ys.length cb] 79)).alloc (.cells #[.bool false, .slice none 0 0, .slice none 0 0] 33)) (w.heap.size + 1 + 1) 33 #[.bool false, .slice none 0 0, .slice none 0 0]) := by
    have e := Box.made ((w.alloc (.cells #[.bool n, .slice a xs.length ca] 79)).alloc (.cells #[.bool m, .slice b ys.length cb] 79)) 33 #[.bool false, .slice none 0 0, .slice none 0 0]
    simp at e
    exact e
  have HN : Hid (Box (((w.alloc (.cells #[.bool n, .slice a xs.length ca] 79)).alloc (.cells #[.bool m, .slice b ys.length cb] 79)).alloc (.cells #[.bool false, .slice none 0 0, .slice none 0 0] 33)) w.heap.size 79 #[.bool n, .slice a xs.length ca]) := Box.later (Box.later (Box.made w _ _) (alloc_later _ _) (by simp)) (alloc_later _ _) (by simp; omega)
  have HM : Hid (Box (((w.alloc (.cells #[.bool n, .slice a xs.length ca] 79)).alloc (.cells #[.bool m, .slice b ys.length cb] 79)).alloc (.cells #[.bool false, .slice none 0 0, .slice none 0 0] 33)) (w.heap.size + 1) 79 #[.bool m, .slice b ys.length cb]) := by
    have e := Box.later (Box.made (w.alloc (.cells #[.bool n, .slice a xs.length ca] 79)) 79 #[.bool m, .slice b ys.length cb]) (alloc_later ((w.alloc (.cells #[.bool n, .slice a xs.length ca] 79)).alloc (.cells #[.bool m, .slice b ys.length cb] 79)) (.cells #[.bool false, .slice none 0 0, .slice none 0 0] 33)) (by simp)
    simp at e
    exact e
  have HS := hid (And.intro (h.later HB.out) (g.later HB.out))
  have HXS : Hid (w.heap.size + 1 + 1 < (((w.alloc (.cells #[.bool n, .slice a xs.length ca] 79)).alloc (.cells #[.bool m, .slice b ys.length cb] 79)).alloc (.cells #[.bool false, .slice none 0 0, .slice none 0 0] 33)).heap.size) := HZ.out.lt
  have HC1 := hid (wcheck_any n _ xs _ HS.out.1 lx)
  rw [hx] at HC1
  have HC2 := hid (fun ww (hb : Below _ (((w.alloc (.cells #[.bool n, .slice a xs.length ca] 79)).alloc (.cells #[.bool m, .slice b ys.length cb] 79)).alloc (.cells #[.bool false, .slice none 0 0, .slice none 0 0] 33)) ww) => wcheck_any m _ ys ww (HS.out.2.later hb) ly)
  rw [hy] at HC2
  have h0' : ((ys.length : Int) == 0) = true := by rw [h0]; rfl
  have HE : Hid ((7 : Int) ≠ 0) := by show _ ≠ _; omega
  clear hx hy h0
  clear h g
  go_enter Try.func43, Try.ntmps43
  go_wp2_with fail
  refine Calls.mono HC1.out ?_
  generalize (((w.alloc (.cells #[.bool n, .slice a xs.length ca] 79)).alloc (.cells #[.bool m, .slice b ys.length cb] 79)).alloc (.cells #[.bool false, .slice none 0 0, .slice none 0 0] 33)) = X at *
  rintro e w1 ⟨rfl, hb1⟩
  have HB1 := hid hb1
  clear hb1 HC1
  have HC := hid (HC2.out w1 HB1.out)
  obtain ⟨q0, q1, _, _⟩ := (HM.out.later HB1.out HM.out.lt).c2
  clear HC2
  go_wp2_with fail
  refine Calls.mono HC.out ?_
  rintro e w2 ⟨rfl, hb2⟩
  have HB2 := hid (bt HB1.out hb2)
  clear hb2 HC q0 q1
  obtain ⟨q0, q1, _, _⟩ := (HM.out.later HB2.out HM.out.lt).c2
  obtain ⟨y0, y1, y2, f0, f1, f2⟩ := res_box3 HZ.out HB2.out
  have HBN := hid (below_put3 (bt HB.out HB2.out) (w.heap.size + 1 + 1) (by omega) (.bool false) (.slice none 0 0) (.slice none 0 0))
  clear HN HM HZ HS
  go_wp2_with fail
  refine bodyPost_ret (v := .tuple #[.agg #[.bool false, .slice none 0 0, .slice none 0 0], .int .i64 7]) (by simp [results, Try.results43, go_sem, y0, y1, y2]) rfl ?_
  exact ⟨false, _, [], _, [], _, rfl, World.ownsRow_nil _ _ _ _, World.ownsRow_nil _ _ _ _, RTells.err HE.out, HBN.out, ⟨w.heap.size, Nat.le_refl _, HBN.out.size, fun g hg => by simp [Value.ownBlock] at hg, fun g hg => by simp [Value.ownBlock] at hg⟩⟩

set_option maxHeartbeats 6400000 in
set_option maxRecDepth 100000 in
theorem rmake_ok (n : Bool) (a : Option Addr) (ca : Nat) (xs : List Int) (m : Bool) (b : Option Addr) (cb : Nat) (ys : List Int) (w : World) (h : Sl w (.slice a xs.length ca) xs) (g : Sl w (.slice b ys.length cb) ys) (lx : xs.length ≤ 281474976710656) (ly : ys.length ≤ 281474976710656) (hx : wchk n xs = 0) (hy : wchk m ys = 0) (h0 : 0 < ys.length) :
    Calls Try.prog 43 #[.agg #[.bool n, .slice a xs.length ca], .agg #[.bool m, .slice b ys.length cb]] w (RToldA w 0 (Rat.divInt (wval n xs) (wval m ys))) := by
  obtain ⟨kx, tx, _⟩ := wchk_ok hx
  obtain ⟨ky, ty, _⟩ := wchk_ok hy
  have wx := h.wd
  have wy := g.wd
  have HB : Hid (Below w.heap.size w (((w.alloc (.cells #[.bool n, .slice a xs.length ca] 79)).alloc (.cells #[.bool m, .slice b ys.length cb] 79)).alloc (.cells #[.bool false, .slice none 0 0, .slice none 0 0] 33))) := bt (bt (alloc_later _ _) (alloc_later _ _)) (alloc_later _ _)
  have HZ : Hid (Box (((w.alloc (.cells #[.bool n, .slice a xs.length ca] 79)).alloc (.cells #[.bool m, .slice b ys.length cb] 79)).alloc (.cells #[.bool false, .slice none 0 0, .slice none 0 0] 33)) (w.heap.size + 1 + 1) 33 #[.bool false, .slice none 0 0, .slice none 0 0]) := by
    have e := Box.made ((w.alloc (.cells #[.bool n, .slice a xs.length ca] 79)).alloc (.cells #[.bool m, .slice b ys.length cb] 79)) 33 #[.bool false, .slice none 0 0, .slice none 0 0]
    simp at e
    exact e
  have HN : Hid (Box (((w.alloc (.cells #[.bool n, .slice a xs.length ca] 79)).alloc (.cells #[.bool m, .slice b ys.length cb] 79)).alloc (.cells #[.bool false, .slice none 0 0, .slice none 0 0] 33)) w.heap.size 79 #[.bool n, .slice a xs.length ca]) := Box.later (Box.later (Box.made w _ _) (alloc_later _ _) (by simp)) (alloc_later _ _) (by simp; omega)
  have HM : Hid (Box (((w.alloc (.cells #[.bool n, .slice a xs.length ca] 79)).alloc (.cells #[.bool m, .slice b ys.length cb] 79)).alloc (.cells #[.bool false, .slice none 0 0, .slice none 0 0] 33)) (w.heap.size + 1) 79 #[.bool m, .slice b ys.length cb]) := by
    have e := Box.later (Box.made (w.alloc (.cells #[.bool n, .slice a xs.length ca] 79)) 79 #[.bool m, .slice b ys.length cb]) (alloc_later ((w.alloc (.cells #[.bool n, .slice a xs.length ca] 79)).alloc (.cells #[.bool m, .slice b ys.length cb] 79)) (.cells #[.bool false, .slice none 0 0, .slice none 0 0] 33)) (by simp)
    simp at e
    exact e
  have HS := hid (And.intro (h.later HB.out) (g.later HB.out))
  have HXS : Hid (w.heap.size + 1 + 1 < (((w.alloc (.cells #[.bool n, .slice a xs.length ca] 79)).alloc (.cells #[.bool m, .slice b ys.length cb] 79)).alloc (.cells #[.bool false, .slice none 0 0, .slice none 0 0] 33)).heap.size) := HZ.out.lt
  have HC1 := hid (wcheck_any n _ xs _ HS.out.1 lx)
  rw [hx] at HC1
  have HC2 := hid (fun ww (hb : Below _ (((w.alloc (.cells #[.bool n, .slice a xs.length ca] 79)).alloc (.cells #[.bool m, .slice b ys.length cb] 79)).alloc (.cells #[.bool false, .slice none 0 0, .slice none 0 0] 33)) ww) => wcheck_any m _ ys ww (HS.out.2.later hb) ly)
  rw [hy] at HC2
  have h0' : ((ys.length : Int) == 0) = false := beq_eq_false_iff_ne.2 (by omega)
  have HPY : Hid (0 < val ys) := by have := val_pos' wy ty h0; show _ < _; omega
  have HG : Hid (0 < gcdI (val xs) (val ys) ∧ gcdI (val xs) (val ys) ≤ val ys ∧ val ys < 4294967296 ^ 2048) := ⟨gcd_pos_right HPY.out, gcd_le_right HPY.out, below2048 wy ky⟩
  have HMP := hid (make_parts (n := n) (m := m) (val_nonneg wx) HPY.out)
  have HTT := hid (And.intro tx ty)
  obtain ⟨s, hs⟩ : ∃ s, (!(n == m)) = s := ⟨_, rfl⟩
  have HSG := hid (show (n != m) = s from hs)
  clear h g hx hy h0 tx ty
  go_enter Try.func43, Try.ntmps43
  go_wp2_with fail
  refine Calls.mono HC1.out ?_
  generalize (((w.alloc (.cells #[.bool n, .slice a xs.length ca] 79)).alloc (.cells #[.bool m, .slice b ys.length cb] 79)).alloc (.cells #[.bool false, .slice none 0 0, .slice none 0 0] 33)) = X at *
  rintro e w1 ⟨rfl, hb1⟩
  have HB1 := hid hb1
  clear hb1 HC1
  have HC := hid (HC2.out w1 HB1.out)
  obtain ⟨q0, q1, _, _⟩ := (HM.out.later HB1.out HM.out.lt).c2
  clear HC2
  go_wp2_with fail
  refine Calls.mono HC.out ?_
  rintro e w2 ⟨rfl, hb2⟩
  have HB2 := hid (bt HB1.out hb2)
  clear hb2 HC q0 q1
  have HK : Hid (∀ V, Below X.heap.size X V → V.cell? ⟨w.heap.size, 0, none⟩ = some (.bool n) ∧ V.cell? ⟨w.heap.size, 1, none⟩ = some (.slice a xs.length ca) ∧ V.cell? ⟨w.heap.size + 1, 0, none⟩ = some (.bool m) ∧ V.cell? ⟨w.heap.size + 1, 1, none⟩ = some (.slice b ys.length cb)) := fun V hb => by
    obtain ⟨p0, p1, _, _⟩ := (HN.out.later hb HN.out.lt).c2
    obtain ⟨q0, q1, _, _⟩ := (HM.out.later hb HM.out.lt).c2
    exact ⟨p0, p1, q0, q1⟩
  have HCM := hid (told1_at _ HK.out w2 HB2.out (rcommon_any _ _ xs ys w2 (HS.out.1.later HB2.out) (HS.out.2.later HB2.out) (by omega) (by omega) HTT.out.1 HTT.out.2))
  obtain ⟨p0, p1, q0, q1⟩ := HK.out w2 HB2.out
  go_wp2_with fail
  refine Calls.mono HCM.out ?_
  rintro e w3 ⟨a3, z3, c3, rfl, HE3, _, hb3, HS3⟩
  have hb3d := hb3.drew
  have HO3 := hid (HE3.out.later (Below.drew (Below.refl _ w3)))
  clear HCM HE3 HS3 p0 p1 q0 q1
  have hs0 := HK.out _ hb3d
  have HQX := hid (fun ww (hv' : Below X.heap.size X ww) (h : One X ww (.slice a3 z3.length c3) z3 (gcdI (val xs) (val ys))) => quot_in _ HK.out hv' (HS.out.1.later hv') (by omega) HTT.out.1 h HG.out.1 (by have := HG.out; omega))
  have HQY := hid (fun ww (hv' : Below X.heap.size X ww) (h : One X ww (.slice a3 z3.length c3) z3 (gcdI (val xs) (val ys))) => quot_in _ HK.out hv' (HS.out.2.later hv') (by omega) HTT.out.2 h HG.out.1 (by have := HG.out; omega))
  have HTL := hid (fun (ww : World) (hb : Below X.heap.size X ww) (a4 : Option Addr) (z4 : List Int) (c4 : Nat) (a5 : Option Addr) (z5 : List Int) (c5 : Nat) (g1 : One X ww (.slice a4 z4.length c4) z4 (val xs / gcdI (val xs) (val ys))) (g2 : One X ww (.slice a5 z5.length c5) z5 (val ys / gcdI (val xs) (val ys))) (hc : Cut X (.slice a4 z4.length c4) (.slice a5 z5.length c5) ww) => rtold_cut (n := s) (q := Rat.divInt (wval n xs) (wval m ys)) _ HK.out hb g1 g2 hc HMP.out.1 HMP.out.2.1 (by rw [← HSG.out]; exact HMP.out.2.2))
  have hq0 : w.heap.size + 1 + 1 ≠ w.heap.size := by omega
  have hq1 : w.heap.size + 1 + 1 ≠ w.heap.size + 1 := by omega
  clear HTT HG HPY
  go_wp2_with fail
  go_region_held3 (fun V : World => V.cell? ⟨w.heap.size, 0, none⟩ = some (.bool n) ∧ V.cell? ⟨w.heap.size, 1, none⟩ = some (.slice a xs.length ca) ∧ V.cell? ⟨w.heap.size + 1, 0, none⟩ = some (.bool m) ∧ V.cell? ⟨w.heap.size + 1, 1, none⟩ = some (.slice b ys.length cb)) (first | exact hs9 | exact hs5 | exact hs4 | exact hs0 | (simp [hs9, World.cell?_setCell_far, hq0]))
    (first
      | (go_at_call 49; with_reducible refine Calls.mono (HTL.out _ hb5 _ _ _ _ _ _ (HE4.out.1.later HS5.out) HE5.out.1 (cut_two hb3d.size HS4.out.size HS5.out.size HE4.out.2 HE5.out.2)) ?_; rintro e w9 ⟨k9, a8, z8, c8, a9, z9, c9, code, rfl, HE9, hs9, hb9⟩; obtain ⟨y0, y1, y2, f0, f1, f2⟩ := res_box3 HZ.out hb9)
      | (go_at_call 50; with_reducible refine Calls.mono (HQY.out _ hb4 (HO3.out.later HS4.out)) ?_; rintro e w5 ⟨a5, z5, c5, rfl, HE5, hs5, hb5, HS5⟩)
      | (go_at_call 50; with_reducible refine Calls.mono (HQX.out _ hb3d HO3.out) ?_; rintro e w4 ⟨a4, z4, c4, rfl, HE4, hs4, hb4, HS4⟩))
  all_goals
    have HBW := hid (bt HB.out hb9)
    have HR := hid HE9.out
    clear HK HQX HQY HTL HE4 HE5 HE9 HS4 HS5 HO3 hs0 hs4 hs5 hs9 hb3 hb3d hb4 hb5 hb9 HMP HSG
    go_wp2_with fail
    refine bodyPost_ret (v := .tuple #[.agg #[.bool k9, .slice a8 z8.length c8, .slice a9 z9.length c9], .int .i64 code]) (by simp [results, Try.results43, go_sem, y0, y1, y2]) rfl ?_
    exact RToldA.put HR.out (w.heap.size + 1 + 1) HXS.out (by omega) HBW.out _ _ _

theorem rmake_any (n : Bool) (a : Option Addr) (ca : Nat) (xs : List Int) (m : Bool) (b : Option Addr) (cb : Nat) (ys : List Int) (w : World) (h : Sl w (.slice a xs.length ca) xs) (g : Sl w (.slice b ys.length cb) ys) (lx : xs.length ≤ 281474976710656) (ly : ys.length ≤ 281474976710656) :
    Calls Try.prog 43 #[.agg #[.bool n, .slice a xs.length ca], .agg #[.bool m, .slice b ys.length cb]] w (RToldA w (mkErr n xs m ys) (Rat.divInt (wval n xs) (wval m ys))) := by
  unfold mkErr
  by_cases hb : wboth n xs m ys = 0
  · obtain ⟨hx, hy⟩ := wboth_ok hb
    rw [if_pos hb]
    by_cases h0 : ys.length = 0
    · rw [if_pos h0]
      exact rmake_z n a ca xs m b cb ys w h g lx ly hx hy h0 _
    · rw [if_neg h0]
      exact rmake_ok n a ca xs m b cb ys w h g lx ly hx hy (by omega)
  · rw [if_neg hb]
    unfold wboth at hb ⊢
    by_cases hx : wchk n xs = 0
    · rw [if_pos hx] at hb ⊢
      exact rmake_e2 n a ca xs m b cb ys w h g lx ly hx hb _
    · rw [if_neg hx]
      exact rmake_e1 n a ca xs m b cb ys w h g lx ly hx _
end Go.Proofs.Ytkkehddpblkegaa

/- Fractions: ratio.Small. -/
namespace Go.Proofs.Ytkkehddpblkegaa
open Go.RowKit
set_option linter.unusedVariables false

theorem small_err {n m : Bool} {zs us : List Int} {y : Int} (l1 : zs.length ≤ 2) (t1 : Trimmed zs) (s1 : n = false ∨ 0 < zs.length) (w2 : Wd us) (l2 : us.length ≤ 2) (t2 : Trimmed us) (s2 : m = false ∨ 0 < us.length) (v2 : wval m us = y) : mkErr n zs m us = if y = 0 then 7 else 0 := by
  unfold mkErr
  rw [wboth_good (wchk_good (by omega) t1 s1) (wchk_good (by omega) t2 s2), if_pos rfl]
  by_cases c : us.length = 0
  · have e0 : val us = 0 := trimmed_zero' c
    have : y = 0 := by rw [← v2]; cases m <;> simp [wval, e0]
    rw [if_pos c, if_pos this]
  · have e0 := val_pos' w2 t2 (by omega)
    have : ¬ y = 0 := by rw [← v2]; cases m <;> simp [wval] <;> omega
    rw [if_neg c, if_neg this]

set_option maxHeartbeats 1600000 in
set_option maxRecDepth 100000 in
theorem rsmall_any (x y : Int) (w : World) (x0 : -9223372036854775808 ≤ x) (x1 : x ≤ 9223372036854775807) (y0 : -9223372036854775808 ≤ y) (y1 : y ≤ 9223372036854775807) :
    Calls Try.prog 40 #[.int .i64 x, .int .i64 y] w (RToldA w (if y = 0 then 7 else 0) (Rat.divInt x y)) := by
  have HB : Hid (Below w.heap.size w (w.alloc (.cells #[.bool false, .slice none 0 0, .slice none 0 0] 33))) := alloc_later _ _
  have HZ : Hid (Box (w.alloc (.cells #[.bool false, .slice none 0 0, .slice none 0 0] 33)) w.heap.size 33 #[.bool false, .slice none 0 0, .slice none 0 0]) := Box.made w _ _
  have HO1 := hid (wof_any x (w.alloc (.cells #[.bool false, .slice none 0 0, .slice none 0 0] 33)) x0 x1)
  obtain ⟨E, hE⟩ : ∃ E : Int, (if y = 0 then (7 : Int) else 0) = E := ⟨_, rfl⟩
  rw [hE]
  have HE := hid hE
  clear hE
  go_enter Try.func40, Try.ntmps40
  go_wp2_with fail
  refine Calls.mono HO1.out ?_
  generalize (w.alloc (.cells #[.bool false, .slice none 0 0, .slice none 0 0] 33)) = X at *
  rintro e w1 ⟨n1, v1, z1, rfl, o1, wd1, t1, l1, s1, hv1, hb1⟩
  obtain ⟨a1, c1, hs1⟩ := own_slice' o1
  subst hs1
  have HO2 := hid (wof_any y w1 y0 y1)
  have HS1 := hid (Sl.own o1 wd1)
  have HV1 := hid (And.intro t1 (And.intro s1 hv1))
  have HB1 := hid hb1
  clear o1 wd1 t1 s1 hv1 hb1 HO1
  go_wp2_with fail
  refine Calls.mono HO2.out ?_
  rintro e w2 ⟨n2, v2, z2, rfl, o2, wd2, t2, l2, s2, hv2, hb2⟩
  obtain ⟨a2, c2, hs2⟩ := own_slice' o2
  subst hs2
  have HM := hid (rmake_any n1 a1 c1 z1 n2 a2 c2 z2 w2 (HS1.out.later hb2) (Sl.own o2 wd2) (by omega) (by omega))
  rw [small_err l1 HV1.out.1 HV1.out.2.1 wd2 l2 t2 s2 hv2, HE.out, HV1.out.2.2, hv2] at HM
  have HB2 := hid (bt HB1.out hb2)
  clear o2 wd2 t2 s2 hv2 hb2 HO2 HS1 HV1
  go_wp2_with fail
  refine Calls.mono HM.out ?_
  rintro e w3 ⟨k3, v3, z3, u3, r3, code, rfl, o3, o4, t3, hb3, hc3⟩
  obtain ⟨a3, c3, hs3⟩ := own_slice' o3
  subst hs3
  obtain ⟨a4, c4, hs4⟩ := own_slice' o4
  subst hs4
  have HR := hid (And.intro o3 (And.intro o4 (And.intro t3 hc3)))
  obtain ⟨y0', y1', y2', f0, f1, f2⟩ := res_box3 HZ.out (bt HB2.out hb3)
  have HBW := hid (bt HB.out (bt HB2.out hb3))
  have HLT : Hid (w.heap.size < w2.heap.size) := Nat.lt_of_lt_of_le HZ.out.lt HB2.out.size
  clear o3 o4 t3 hb3 hc3 HM
  go_wp2_with fail
  refine bodyPost_ret (v := .tuple #[.agg #[.bool k3, .slice a3 z3.length c3, .slice a4 r3.length c4], .int .i64 code]) (by simp [results, Try.results40, go_sem, y0', y1', y2']) rfl ?_
  exact RToldA.put HR.out w.heap.size HLT.out (Nat.le_refl _) HBW.out _ _ _
end Go.Proofs.Ytkkehddpblkegaa

/- Complex fractions: fractionOf: of any whole number. -/
namespace Go.Proofs.Ytkkehddpblkegaa
open Go.RowKit
set_option linter.unusedVariables false

set_option maxHeartbeats 1600000 in
set_option maxRecDepth 100000 in
theorem gfractionOf_any (x : Int) (w : World) (x0 : -9223372036854775808 ≤ x) (x1 : x ≤ 9223372036854775807) :
    Calls Try.prog 36 #[.int .i64 x] w fun e w' => ∃ n v xs u ys code, e = .returned (.agg #[.bool n, v, u]) ∧ w'.ownsRow w.heap.size 45 1 v xs.length (xs.map (Value.int .u32)) ∧ w'.ownsRow w.heap.size 45 1 u ys.length (ys.map (Value.int .u32)) ∧ RTells 0 (Rat.divInt x 1) n xs ys code ∧ Below w.heap.size w w' ∧ Cut w v u w' := by
  have HX := hid (Box.made w 33 #[.bool false, .slice none 0 0, .slice none 0 0])
  have HB := hid (alloc_later w (.cells #[.bool false, .slice none 0 0, .slice none 0 0] 33))
  obtain ⟨X, hX⟩ : ∃ X, w.alloc (.cells #[.bool false, .slice none 0 0, .slice none 0 0] 33) = X := ⟨_, rfl⟩
  rw [hX] at HX HB
  have HS : Hid (∀ V, Calls Try.prog 40 #[.int .i64 x, .int .i64 1] V (RToldA V 0 (Rat.divInt x 1))) := hid (fun V => rsmall_any x 1 V x0 x1 (by omega) (by omega))
  go_enter Try.func36, Try.ntmps36
  go_wp2_with fail
  refine Calls.mono (HS.out _) ?_
  rintro e w1 ⟨k, v, zs, u, ts, code, rfl, ov, ou, ht, hb1, hcut⟩
  obtain ⟨av, cv, rfl⟩ := own_slice' ov
  obtain ⟨au, cu, rfl⟩ := own_slice' ou
  have HM1 := hid (HX.out.later hb1 HX.out.lt)
  have HBB := hid (bt HB.out hb1)
  have HN := hid (Box.made w1 33 #[.bool k, .slice av zs.length cv, .slice au ts.length cu])
  have HNB := hid (alloc_later w1 (.cells #[.bool k, .slice av zs.length cv, .slice au ts.length cu] 33))
  obtain ⟨Z, hZ⟩ : ∃ Z, w1.alloc (.cells #[.bool k, .slice av zs.length cv, .slice au ts.length cu] 33) = Z := ⟨_, rfl⟩
  rw [hZ] at HN HNB
  have HMZ := hid (HM1.out.later HNB.out HM1.out.lt)
  have HOV := hid ov
  have HOU := hid ou
  have HTT := hid ht
  have HCC := hid hcut
  clear ov ou ht hcut hb1 HS x0 x1
  have k0 : Z.cell? ⟨w1.heap.size, 0, none⟩ = some (.bool k) := HN.out.cell 0
  have k1 : Z.cell? ⟨w1.heap.size, 1, none⟩ = some (.slice av zs.length cv) := HN.out.cell 1
  have k2 : Z.cell? ⟨w1.heap.size, 2, none⟩ = some (.slice au ts.length cu) := HN.out.cell 2
  have m0 : Z.cell? ⟨w.heap.size, 0, none⟩ = some (.bool false) := HMZ.out.cell 0
  have m1 : Z.cell? ⟨w.heap.size, 1, none⟩ = some (.slice none 0 0) := HMZ.out.cell 1
  have m2 : Z.cell? ⟨w.heap.size, 2, none⟩ = some (.slice none 0 0) := HMZ.out.cell 2
  have f0 := HMZ.out.free 0
  have f1 := HMZ.out.free 1
  have f2 := HMZ.out.free 2
  go_wp2_with fail
  have h3 := HX.out.lt
  have hZs : w1.heap.size ≤ Z.heap.size := HNB.out.size
  have hv : ∀ b', (Value.slice av zs.length cv).ownBlock = some b' → b' ≠ w.heap.size := fun b' hb => by have := (HOV.out.lt b' hb).1; omega
  have hu : ∀ b', (Value.slice au ts.length cu).ownBlock = some b' → b' ≠ w.heap.size := fun b' hb => by have := (HOU.out.lt b' hb).1; omega
  have B1 := box_put3 HMZ.out (.bool k) (.slice av zs.length cv) (.slice au ts.length cu)
  have V1 := own_put3' (owns_later HOV.out HNB.out) _ hv (.bool k) (.slice av zs.length cv) (.slice au ts.length cu)
  have U1 := own_put3' (owns_later HOU.out HNB.out) _ hu (.bool k) (.slice av zs.length cv) (.slice au ts.length cu)
  have G1 := below_put3 (bt HBB.out HNB.out) w.heap.size (Nat.le_refl _) (.bool k) (.slice av zs.length cv) (.slice au ts.length cu)
  have hXw : w.heap.size ≤ X.heap.size := by omega
  refine bodyPost_ret (results_cell_row (by rfl) _ _ w.heap.size 33 _ (0, 0) _ (by rfl) B1 Try.underlying33 rfl (by kernel_rfl)) rfl ?_
  exact ⟨k, _, zs, _, ts, code, rfl, owns_base V1 hXw, owns_base U1 hXw, HTT.out, G1, HCC.out.up hXw (by simp [World.setCell]; exact hZs)⟩
end Go.Proofs.Ytkkehddpblkegaa

/- Complex fractions: gauss.Int: of any two whole numbers. -/
namespace Go.Proofs.Ytkkehddpblkegaa
open Go.RowKit
set_option linter.unusedVariables false

set_option maxHeartbeats 1600000 in
set_option maxRecDepth 100000 in
theorem gInt_any (x y : Int) (w : World) (x0 : -9223372036854775808 ≤ x) (x1 : x ≤ 9223372036854775807) (y0 : -9223372036854775808 ≤ y) (y1 : y ≤ 9223372036854775807) :
    Calls Try.prog 28 #[.int .i64 x, .int .i64 y] w fun e w' => ∃ n v xs u ys c1 m v' us u' vs c2, e = .returned (.agg #[.bool n, v, u, .bool m, v', u']) ∧ (w'.ownsRow w.heap.size 45 1 v xs.length (xs.map (Value.int .u32)) ∧ w'.ownsRow w.heap.size 45 1 u ys.length (ys.map (Value.int .u32)) ∧ w'.ownsRow w.heap.size 45 1 v' us.length (us.map (Value.int .u32)) ∧ w'.ownsRow w.heap.size 45 1 u' vs.length (vs.map (Value.int .u32))) ∧ RTells 0 (Rat.divInt x 1) n xs ys c1 ∧ RTells 0 (Rat.divInt y 1) m us vs c2 ∧ Below w.heap.size w w' := by
  have HX := hid (Box.made w 35 #[.bool false, .slice none 0 0, .slice none 0 0, .bool false, .slice none 0 0, .slice none 0 0])
  have HB := hid (alloc_later w (.cells #[.bool false, .slice none 0 0, .slice none 0 0, .bool false, .slice none 0 0, .slice none 0 0] 35))
  obtain ⟨X, hX⟩ : ∃ X, w.alloc (.cells #[.bool false, .slice none 0 0, .slice none 0 0, .bool false, .slice none 0 0, .slice none 0 0] 35) = X := ⟨_, rfl⟩
  rw [hX] at HX HB
  have H1 := hid (gfractionOf_any x X x0 x1)
  have H2 := hid (fun V => gfractionOf_any y V y0 y1)
  clear x0 x1 y0 y1
  go_enter Try.func28, Try.ntmps28
  go_wp2_with fail
  refine Calls.mono H1.out ?_
  rintro e w1 ⟨k1, v1, zs1, u1, ts1, code1, rfl, ov1, ou1, ht1, hb1, hcut1⟩
  obtain ⟨av1, cv1, rfl⟩ := own_slice' ov1
  obtain ⟨au1, cu1, rfl⟩ := own_slice' ou1
  have HM1 := hid (HX.out.later hb1 HX.out.lt)
  have HB1 := hid (bt HB.out hb1)
  have HXB := hid hb1.size
  have HV1 := hid ov1
  have HU1 := hid ou1
  have HT1 := hid ht1
  clear ov1 ou1 ht1 hb1 hcut1 H1
  go_wp2_with fail
  refine Calls.mono (H2.out _) ?_
  rintro e w2 ⟨k2, v2, zs2, u2, ts2, code2, rfl, ov2, ou2, ht2, hb2, hcut2⟩
  obtain ⟨av2, cv2, rfl⟩ := own_slice' ov2
  obtain ⟨au2, cu2, rfl⟩ := own_slice' ou2
  have HM2 := hid (HM1.out.later hb2 HM1.out.lt)
  have HB2 := hid (bt HB1.out hb2)
  have HV1' := hid (owns_later HV1.out hb2)
  have HU1' := hid (owns_later HU1.out hb2)
  have HV2 := hid ov2
  have HU2 := hid ou2
  have HT2 := hid ht2
  clear ov2 ou2 ht2 hb2 hcut2 H2
  have m0 : w2.cell? ⟨w.heap.size, 0, none⟩ = some (.bool false) := HM2.out.cell 0
  have f0 := HM2.out.free 0
  have m1 : w2.cell? ⟨w.heap.size, 1, none⟩ = some (.slice none 0 0) := HM2.out.cell 1
  have f1 := HM2.out.free 1
  have m2 : w2.cell? ⟨w.heap.size, 2, none⟩ = some (.slice none 0 0) := HM2.out.cell 2
  have f2 := HM2.out.free 2
  have m3 : w2.cell? ⟨w.heap.size, 3, none⟩ = some (.bool false) := HM2.out.cell 3
  have f3 := HM2.out.free 3
  have m4 : w2.cell? ⟨w.heap.size, 4, none⟩ = some (.slice none 0 0) := HM2.out.cell 4
  have f4 := HM2.out.free 4
  have m5 : w2.cell? ⟨w.heap.size, 5, none⟩ = some (.slice none 0 0) := HM2.out.cell 5
  have f5 := HM2.out.free 5
  go_wp2_with fail
  have h3 := HX.out.lt
  have h4 := HXB.out
  have B1 := box_put6 HM2.out (.bool k1) (.slice av1 zs1.length cv1) (.slice au1 ts1.length cu1) (.bool k2) (.slice av2 zs2.length cv2) (.slice au2 ts2.length cu2)
  have G1 := below_put6 HB2.out w.heap.size (Nat.le_refl _) (.bool k1) (.slice av1 zs1.length cv1) (.slice au1 ts1.length cu1) (.bool k2) (.slice av2 zs2.length cv2) (.slice au2 ts2.length cu2)
  have P1 := own_put6 HV1'.out w.heap.size (fun g hg => by have := (HV1'.out.lt g hg).1; omega) (.bool k1) (.slice av1 zs1.length cv1) (.slice au1 ts1.length cu1) (.bool k2) (.slice av2 zs2.length cv2) (.slice au2 ts2.length cu2)
  have P2 := own_put6 HU1'.out w.heap.size (fun g hg => by have := (HU1'.out.lt g hg).1; omega) (.bool k1) (.slice av1 zs1.length cv1) (.slice au1 ts1.length cu1) (.bool k2) (.slice av2 zs2.length cv2) (.slice au2 ts2.length cu2)
  have P3 := own_put6 HV2.out w.heap.size (fun g hg => by have := (HV2.out.lt g hg).1; omega) (.bool k1) (.slice av1 zs1.length cv1) (.slice au1 ts1.length cu1) (.bool k2) (.slice av2 zs2.length cv2) (.slice au2 ts2.length cu2)
  have P4 := own_put6 HU2.out w.heap.size (fun g hg => by have := (HU2.out.lt g hg).1; omega) (.bool k1) (.slice av1 zs1.length cv1) (.slice au1 ts1.length cu1) (.bool k2) (.slice av2 zs2.length cv2) (.slice au2 ts2.length cu2)
  have hX1 : w.heap.size ≤ X.heap.size := by omega
  have hX2 : w.heap.size ≤ w1.heap.size := by omega
  clear m0 m1 m2 m3 m4 m5 f0 f1 f2 f3 f4 f5
  refine bodyPost_ret (results_cell_row (by rfl) _ _ w.heap.size 35 _ (0, 0) _ (by rfl) B1 Try.underlying35 rfl (by kernel_rfl)) rfl ?_
  exact ⟨k1, _, zs1, _, ts1, code1, k2, _, zs2, _, ts2, code2, rfl, ⟨owns_base P1 hX1, owns_base P2 hX1, owns_base P3 hX2, owns_base P4 hX2⟩, HT1.out, HT2.out, G1⟩
end Go.Proofs.Ytkkehddpblkegaa

/- A complex fraction as one letter; stores of six and of twelve cells, each world by its name. (tools/mkrq.py) -/
namespace Go.Proofs.Ytkkehddpblkegaa
open Go.RowKit
set_option linter.unusedVariables false
set_option linter.unusedSimpArgs false

/-- A store of 2 cells, cell by cell, each world by its name. -/
theorem rchain2 {W : World} {b t : Nat} {u0 u1 : Value} (h : Box W b t #[u0, u1]) (ht : 45 ≠ t) (v0 v1 : Value) : ∃ A0 A1, W.setCell ⟨b, 0, none⟩ v0 = A0 ∧ A0.setCell ⟨b, 1, none⟩ v1 = A1 ∧ (W.cell? ⟨b, 0, none⟩ = some u0 ∧ A0.cell? ⟨b, 1, none⟩ = some u1) ∧ (W.frozen? ⟨b, 0, none⟩ = false ∧ A0.frozen? ⟨b, 1, none⟩ = false) ∧
    Hid (Box A1 b t #[v0, v1] ∧ (∀ p t' vs, p ≠ b → Box W p t' vs → Box A1 p t' vs) ∧ (∀ base v n xs, W.ownsRow base 45 1 v n xs → A1.ownsRow base 45 1 v n xs) ∧ (∀ B x, B ≤ b → Below B x W → Below B x A1) ∧ A1.heap.size = W.heap.size) := by
  have h0 : Box _ b t #[v0, u1] := h.set 0 v0
  have h1 : Box _ b t #[v0, v1] := h0.set 1 v1
  exact ⟨_, _, rfl, rfl, ⟨h.cell 0, h0.cell 1⟩, ⟨h.free 0, h0.free 1⟩, h1, fun p t' vs hne g => ((g.other ⟨b, 0, none⟩ v0 hne).other ⟨b, 1, none⟩ v1 hne), fun base v n xs g => (by have kk := own_ne_box g h ht; exact (kown_put1 (kown_put1 g kk 0 v0) kk 1 v1)), fun B x hB g => ((g.setCell (p := ⟨b, 0, none⟩) hB v0).setCell (p := ⟨b, 1, none⟩) hB v1), by simp [World.setCell]⟩
/-- A store of 6 cells, cell by cell, each world by its name. -/
theorem rchain6 {W : World} {b t : Nat} {u0 u1 u2 u3 u4 u5 : Value} (h : Box W b t #[u0, u1, u2, u3, u4, u5]) (ht : 45 ≠ t) (v0 v1 v2 v3 v4 v5 : Value) : ∃ A0 A1 A2 A3 A4 A5, W.setCell ⟨b, 0, none⟩ v0 = A0 ∧ A0.setCell ⟨b, 1, none⟩ v1 = A1 ∧ A1.setCell ⟨b, 2, none⟩ v2 = A2 ∧ A2.setCell ⟨b, 3, none⟩ v3 = A3 ∧ A3.setCell ⟨b, 4, none⟩ v4 = A4 ∧ A4.setCell ⟨b, 5, none⟩ v5 = A5 ∧ (W.cell? ⟨b, 0, none⟩ = some u0 ∧ A0.cell? ⟨b, 1, none⟩ = some u1 ∧ A1.cell? ⟨b, 2, none⟩ = some u2 ∧ A2.cell? ⟨b, 3, none⟩ = some u3 ∧ A3.cell? ⟨b, 4, none⟩ = some u4 ∧ A4.cell? ⟨b, 5, none⟩ = some u5) ∧ (W.frozen? ⟨b, 0, none⟩ = false ∧ A0.frozen? ⟨b, 1, none⟩ = false ∧ A1.frozen? ⟨b, 2, none⟩ = false ∧ A2.frozen? ⟨b, 3, none⟩ = false ∧ A3.frozen? ⟨b, 4, none⟩ = false ∧ A4.frozen? ⟨b, 5, none⟩ = false) ∧
    Hid (Box A5 b t #[v0, v1, v2, v3, v4, v5] ∧ (∀ p t' vs, p ≠ b → Box W p t' vs → Box A5 p t' vs) ∧ (∀ base v n xs, W.ownsRow base 45 1 v n xs → A5.ownsRow base 45 1 v n xs) ∧ (∀ B x, B ≤ b → Below B x W → Below B x A5) ∧ A5.heap.size = W.heap.size) := by
  have h0 : Box _ b t #[v0, u1, u2, u3, u4, u5] := h.set 0 v0
  have h1 : Box _ b t #[v0, v1, u2, u3, u4, u5] := h0.set 1 v1
  have h2 : Box _ b t #[v0, v1, v2, u3, u4, u5] := h1.set 2 v2
  have h3 : Box _ b t #[v0, v1, v2, v3, u4, u5] := h2.set 3 v3
  have h4 : Box _ b t #[v0, v1, v2, v3, v4, u5] := h3.set 4 v4
  have h5 : Box _ b t #[v0, v1, v2, v3, v4, v5] := h4.set 5 v5
  exact ⟨_, _, _, _, _, _, rfl, rfl, rfl, rfl, rfl, rfl, ⟨h.cell 0, h0.cell 1, h1.cell 2, h2.cell 3, h3.cell 4, h4.cell 5⟩, ⟨h.free 0, h0.free 1, h1.free 2, h2.free 3, h3.free 4, h4.free 5⟩, h5, fun p t' vs hne g => ((((((g.other ⟨b, 0, none⟩ v0 hne).other ⟨b, 1, none⟩ v1 hne).other ⟨b, 2, none⟩ v2 hne).other ⟨b, 3, none⟩ v3 hne).other ⟨b, 4, none⟩ v4 hne).other ⟨b, 5, none⟩ v5 hne), fun base v n xs g => (by have kk := own_ne_box g h ht; exact (kown_put1 (kown_put1 (kown_put1 (kown_put1 (kown_put1 (kown_put1 g kk 0 v0) kk 1 v1) kk 2 v2) kk 3 v3) kk 4 v4) kk 5 v5)), fun B x hB g => ((((((g.setCell (p := ⟨b, 0, none⟩) hB v0).setCell (p := ⟨b, 1, none⟩) hB v1).setCell (p := ⟨b, 2, none⟩) hB v2).setCell (p := ⟨b, 3, none⟩) hB v3).setCell (p := ⟨b, 4, none⟩) hB v4).setCell (p := ⟨b, 5, none⟩) hB v5), by simp [World.setCell]⟩
/-- A store of 12 cells, cell by cell, each world by its name. -/
theorem rchain12 {W : World} {b t : Nat} {u0 u1 u2 u3 u4 u5 u6 u7 u8 u9 u10 u11 : Value} (h : Box W b t #[u0, u1, u2, u3, u4, u5, u6, u7, u8, u9, u10, u11]) (ht : 45 ≠ t) (v0 v1 v2 v3 v4 v5 v6 v7 v8 v9 v10 v11 : Value) : ∃ A0 A1 A2 A3 A4 A5 A6 A7 A8 A9 A10 A11, W.setCell ⟨b, 0, none⟩ v0 = A0 ∧ A0.setCell ⟨b, 1, none⟩ v1 = A1 ∧ A1.setCell ⟨b, 2, none⟩ v2 = A2 ∧ A2.setCell ⟨b, 3, none⟩ v3 = A3 ∧ A3.setCell ⟨b, 4, none⟩ v4 = A4 ∧ A4.setCell ⟨b, 5, none⟩ v5 = A5 ∧ A5.setCell ⟨b, 6, none⟩ v6 = A6 ∧ A6.setCell ⟨b, 7, none⟩ v7 = A7 ∧ A7.setCell ⟨b, 8, none⟩ v8 = A8 ∧ A8.setCell ⟨b, 9, none⟩ v9 = A9 ∧ A9.setCell ⟨b, 10, none⟩ v10 = A10 ∧ A10.setCell ⟨b, 11, none⟩ v11 = A11 ∧ (W.cell? ⟨b, 0, none⟩ = some u0 ∧ A0.cell? ⟨b, 1, none⟩ = some u1 ∧ A1.cell? ⟨b, 2, none⟩ = some u2 ∧ A2.cell? ⟨b, 3, none⟩ = some u3 ∧ A3.cell? ⟨b, 4, none⟩ = some u4 ∧ A4.cell? ⟨b, 5, none⟩ = some u5 ∧ A5.cell? ⟨b, 6, none⟩ = some u6 ∧ A6.cell? ⟨b, 7, none⟩ = some u7 ∧ A7.cell? ⟨b, 8, none⟩ = some u8 ∧ A8.cell? ⟨b, 9, none⟩ = some u9 ∧ A9.cell? ⟨b, 10, none⟩ = some u10 ∧ A10.cell? ⟨b, 11, none⟩ = some u11) ∧ (W.frozen? ⟨b, 0, none⟩ = false ∧ A0.frozen? ⟨b, 1, none⟩ = false ∧ A1.frozen? ⟨b, 2, none⟩ = false ∧ A2.frozen? ⟨b, 3, none⟩ = false ∧ A3.frozen? ⟨b, 4, none⟩ = false ∧ A4.frozen? ⟨b, 5, none⟩ = false ∧ A5.frozen? ⟨b, 6, none⟩ = false ∧ A6.frozen? ⟨b, 7, none⟩ = false ∧ A7.frozen? ⟨b, 8, none⟩ = false ∧ A8.frozen? ⟨b, 9, none⟩ = false ∧ A9.frozen? ⟨b, 10, none⟩ = false ∧ A10.frozen? ⟨b, 11, none⟩ = false) ∧
    Hid (Box A11 b t #[v0, v1, v2, v3, v4, v5, v6, v7, v8, v9, v10, v11] ∧ (∀ p t' vs, p ≠ b → Box W p t' vs → Box A11 p t' vs) ∧ (∀ base v n xs, W.ownsRow base 45 1 v n xs → A11.ownsRow base 45 1 v n xs) ∧ (∀ B x, B ≤ b → Below B x W → Below B x A11) ∧ A11.heap.size = W.heap.size) := by
  have h0 : Box _ b t #[v0, u1, u2, u3, u4, u5, u6, u7, u8, u9, u10, u11] := h.set 0 v0
  have h1 : Box _ b t #[v0, v1, u2, u3, u4, u5, u6, u7, u8, u9, u10, u11] := h0.set 1 v1
  have h2 : Box _ b t #[v0, v1, v2, u3, u4, u5, u6, u7, u8, u9, u10, u11] := h1.set 2 v2
  have h3 : Box _ b t #[v0, v1, v2, v3, u4, u5, u6, u7, u8, u9, u10, u11] := h2.set 3 v3
  have h4 : Box _ b t #[v0, v1, v2, v3, v4, u5, u6, u7, u8, u9, u10, u11] := h3.set 4 v4
  have h5 : Box _ b t #[v0, v1, v2, v3, v4, v5, u6, u7, u8, u9, u10, u11] := h4.set 5 v5
  have h6 : Box _ b t #[v0, v1, v2, v3, v4, v5, v6, u7, u8, u9, u10, u11] := h5.set 6 v6
  have h7 : Box _ b t #[v0, v1, v2, v3, v4, v5, v6, v7, u8, u9, u10, u11] := h6.set 7 v7
  have h8 : Box _ b t #[v0, v1, v2, v3, v4, v5, v6, v7, v8, u9, u10, u11] := h7.set 8 v8
  have h9 : Box _ b t #[v0, v1, v2, v3, v4, v5, v6, v7, v8, v9, u10, u11] := h8.set 9 v9
  have h10 : Box _ b t #[v0, v1, v2, v3, v4, v5, v6, v7, v8, v9, v10, u11] := h9.set 10 v10
  have h11 : Box _ b t #[v0, v1, v2, v3, v4, v5, v6, v7, v8, v9, v10, v11] := h10.set 11 v11
  exact ⟨_, _, _, _, _, _, _, _, _, _, _, _, rfl, rfl, rfl, rfl, rfl, rfl, rfl, rfl, rfl, rfl, rfl, rfl, ⟨h.cell 0, h0.cell 1, h1.cell 2, h2.cell 3, h3.cell 4, h4.cell 5, h5.cell 6, h6.cell 7, h7.cell 8, h8.cell 9, h9.cell 10, h10.cell 11⟩, ⟨h.free 0, h0.free 1, h1.free 2, h2.free 3, h3.free 4, h4.free 5, h5.free 6, h6.free 7, h7.free 8, h8.free 9, h9.free 10, h10.free 11⟩, h11, fun p t' vs hne g => ((((((((((((g.other ⟨b, 0, none⟩ v0 hne).other ⟨b, 1, none⟩ v1 hne).other ⟨b, 2, none⟩ v2 hne).other ⟨b, 3, none⟩ v3 hne).other ⟨b, 4, none⟩ v4 hne).other ⟨b, 5, none⟩ v5 hne).other ⟨b, 6, none⟩ v6 hne).other ⟨b, 7, none⟩ v7 hne).other ⟨b, 8, none⟩ v8 hne).other ⟨b, 9, none⟩ v9 hne).other ⟨b, 10, none⟩ v10 hne).other ⟨b, 11, none⟩ v11 hne), fun base v n xs g => (by have kk := own_ne_box g h ht; exact (kown_put1 (kown_put1 (kown_put1 (kown_put1 (kown_put1 (kown_put1 (kown_put1 (kown_put1 (kown_put1 (kown_put1 (kown_put1 (kown_put1 g kk 0 v0) kk 1 v1) kk 2 v2) kk 3 v3) kk 4 v4) kk 5 v5) kk 6 v6) kk 7 v7) kk 8 v8) kk 9 v9) kk 10 v10) kk 11 v11)), fun B x hB g => ((((((((((((g.setCell (p := ⟨b, 0, none⟩) hB v0).setCell (p := ⟨b, 1, none⟩) hB v1).setCell (p := ⟨b, 2, none⟩) hB v2).setCell (p := ⟨b, 3, none⟩) hB v3).setCell (p := ⟨b, 4, none⟩) hB v4).setCell (p := ⟨b, 5, none⟩) hB v5).setCell (p := ⟨b, 6, none⟩) hB v6).setCell (p := ⟨b, 7, none⟩) hB v7).setCell (p := ⟨b, 8, none⟩) hB v8).setCell (p := ⟨b, 9, none⟩) hB v9).setCell (p := ⟨b, 10, none⟩) hB v10).setCell (p := ⟨b, 11, none⟩) hB v11), by simp [World.setCell]⟩

/-- A complex fraction's memory and words. -/
structure G6 where
  n : Bool
  a : Option Addr
  ca : Nat
  xs : List Int
  b : Option Addr
  cb : Nat
  ys : List Int
  m : Bool
  c : Option Addr
  cc : Nat
  us : List Int
  d : Option Addr
  cd : Nat
  vs : List Int
def G6.Ow (g : G6) (V : World) (base : Nat) : Prop := V.ownsRow base 45 1 (.slice g.a g.xs.length g.ca) g.xs.length (g.xs.map (Value.int .u32)) ∧ V.ownsRow base 45 1 (.slice g.b g.ys.length g.cb) g.ys.length (g.ys.map (Value.int .u32)) ∧ V.ownsRow base 45 1 (.slice g.c g.us.length g.cc) g.us.length (g.us.map (Value.int .u32)) ∧ V.ownsRow base 45 1 (.slice g.d g.vs.length g.cd) g.vs.length (g.vs.map (Value.int .u32))
def G6.Sl4 (g : G6) (V : World) : Prop := Sl V (.slice g.a g.xs.length g.ca) g.xs ∧ Sl V (.slice g.b g.ys.length g.cb) g.ys ∧ Sl V (.slice g.c g.us.length g.cc) g.us ∧ Sl V (.slice g.d g.vs.length g.cd) g.vs
/-- It is in its one form, and it is this number. -/
def G6.Is (g : G6) (q1 q2 : Rat) : Prop := (rchk g.n g.xs g.ys = 0 ∧ rq g.n g.xs g.ys = q1) ∧ (rchk g.m g.us g.vs = 0 ∧ rq g.m g.us g.vs = q2) ∧ Wd g.xs ∧ Wd g.ys ∧ Wd g.us ∧ Wd g.vs
theorem G6.Ow.later {g : G6} {V V' : World} {base : Nat} (h : g.Ow V base) (hb : Below V.heap.size V V') : g.Ow V' base := ⟨owns_later h.1 hb, owns_later h.2.1 hb, owns_later h.2.2.1 hb, owns_later h.2.2.2 hb⟩
theorem G6.Ow.base {g : G6} {V : World} {base base' : Nat} (h : g.Ow V base) (hb : base' ≤ base) : g.Ow V base' := ⟨owns_base h.1 hb, owns_base h.2.1 hb, owns_base h.2.2.1 hb, owns_base h.2.2.2 hb⟩
theorem G6.Sl4.later {g : G6} {V V' : World} (h : g.Sl4 V) (hb : Below V.heap.size V V') : g.Sl4 V' := ⟨h.1.later hb, h.2.1.later hb, h.2.2.1.later hb, h.2.2.2.later hb⟩
theorem G6.Ow.sl {g : G6} {V : World} {base : Nat} {q1 q2 : Rat} (h : g.Ow V base) (i : g.Is q1 q2) : g.Sl4 V := ⟨Sl.own h.1 i.2.2.1, Sl.own h.2.1 i.2.2.2.1, Sl.own h.2.2.1 i.2.2.2.2.1, Sl.own h.2.2.2 i.2.2.2.2.2⟩
theorem G6.Is.len {g : G6} {q1 q2 : Rat} (i : g.Is q1 q2) : g.xs.length ≤ 2048 ∧ g.ys.length ≤ 2048 ∧ g.us.length ≤ 2048 ∧ g.vs.length ≤ 2048 := ⟨(rchk_ok i.1.1).1, (rchk_ok i.1.1).2.1, (rchk_ok i.2.1.1).1, (rchk_ok i.2.1.1).2.1⟩
theorem G6.Is.chk {g : G6} {q1 q2 : Rat} (i : g.Is q1 q2) : gchk g.n g.xs g.ys g.m g.us g.vs = 0 := by
  unfold gchk fstE
  rw [if_pos i.1.1, i.2.1.1]
/-- Small whole numbers are not long. -/
theorem oInt_not (x : Int) (x0 : -9223372036854775808 ≤ x) (x1 : x ≤ 9223372036854775807) : ¬ rlong (Rat.divInt x 1) := by
  have h := fr_num (x := x) (d := 1) (by decide) (by unfold gcdI; rw [Int.gcd_one_right]; rfl)
  have hl : (9223372036854775808 : Int) < wlim := by unfold wlim; decide +kernel
  rintro (hh | hh)
  · rw [h.1] at hh; omega
  · rw [h.2] at hh; omega
/-- gauss.Int, as one letter. -/
theorem oInt_any (x y : Int) (w : World) (x0 : -9223372036854775808 ≤ x) (x1 : x ≤ 9223372036854775807) (y0 : -9223372036854775808 ≤ y) (y1 : y ≤ 9223372036854775807) :
    Calls Try.prog 28 #[.int .i64 x, .int .i64 y] w fun e w' => ∃ g : G6, e = .returned (.agg #[.bool g.n, .slice g.a g.xs.length g.ca, .slice g.b g.ys.length g.cb, .bool g.m, .slice g.c g.us.length g.cc, .slice g.d g.vs.length g.cd]) ∧ Hid (g.Ow w' w.heap.size) ∧ Hid (g.Is (Rat.divInt x 1) (Rat.divInt y 1)) ∧ Hid (Below w.heap.size w w') := by
  refine Calls.mono (gInt_any x y w x0 x1 y0 y1) ?_
  rintro e w' ⟨n, v, xs, u, ys, c1, m, v', us, u', vs, c2, rfl, ho, t1, t2, hb⟩
  obtain ⟨a, ca, rfl⟩ := own_slice' ho.1
  obtain ⟨b, cb, rfl⟩ := own_slice' ho.2.1
  obtain ⟨c, cc, rfl⟩ := own_slice' ho.2.2.1
  obtain ⟨d, cd, rfl⟩ := own_slice' ho.2.2.2
  exact ⟨⟨n, a, ca, xs, b, cb, ys, m, c, cc, us, d, cd, vs⟩, rfl, ho, ⟨(t1.good rfl (oInt_not x x0 x1)).2, (t2.good rfl (oInt_not y y0 y1)).2, t1.wx, t1.wy, t2.wx, t2.wy⟩, hb⟩
end Go.Proofs.Ytkkehddpblkegaa

/- Complex fractions: what stands while steps are made one behind the other (for square, times). -/
namespace Go.Proofs.Ytkkehddpblkegaa
open Go.RowKit
set_option linter.unusedVariables false

/-- A fraction that a step told, still there. -/
structure GRow (V : World) (base : Nat) (n : Bool) (v : Value) (xs : List Int) (u : Value) (ys : List Int) : Prop where
  ov : V.ownsRow base 45 1 v xs.length (xs.map (Value.int .u32))
  ou : V.ownsRow base 45 1 u ys.length (ys.map (Value.int .u32))
theorem GRow.step {V V' : World} {base p : Nat} {n : Bool} {v u : Value} {xs ys : List Int} (h : GRow V base n v xs u ys) (hp : p < base) (hg : V.grownBy V' (some p)) : GRow V' base n v xs u ys := by
  have hk : ∀ (x : Value), (∀ g, x.ownBlock = some g → base ≤ g) → x.ownBlock = none ∨ x.ownBlock ≠ some p := fun x h1 => by
    cases e : x.ownBlock with
    | none => exact .inl rfl
    | some g => right; intro h; have e2 := Option.some.inj h; have := h1 g e; omega
  exact ⟨World.ownsRow.kept h.ov hg (hk _ (fun g hg => (h.ov.lt g hg).1)), World.ownsRow.kept h.ou hg (hk _ (fun g hg => (h.ou.lt g hg).1))⟩
theorem GRow.sl {V : World} {base : Nat} {n : Bool} {v u : Value} {xs ys : List Int} (h : GRow V base n v xs u ys) (wx : Wd xs) (wy : Wd ys) : Sl V v xs ∧ Sl V u ys := ⟨Sl.own h.ov wx, Sl.own h.ou wy⟩
theorem Sl.kept {V V' : World} {v : Value} {xs : List Int} {p : Nat} (h : Sl V v xs) (hg : V.grownBy V' (some p)) (hne : ∀ a k c, v = .slice (some a) k c → a.block ≠ p) : Sl V' v xs := by
  obtain ⟨a, cap, hv, h1, h2, h3, h4, h5, h6⟩ := h
  refine ⟨a, cap, hv, h1, h2, ?_, h4, h5, h6⟩
  rcases h3 with h3 | ⟨b, off, ha, hb, hc⟩
  · exact .inl h3
  · have hbp : b ≠ p := by subst ha; exact hne _ _ _ hv
    have hs := hg.size
    exact .inr ⟨b, off, ha, by omega, fun j hj => hg.cell (a := ⟨b, off + j, none⟩) (hc j hj) (fun e => hbp (Option.some.inj e))⟩
end Go.Proofs.Ytkkehddpblkegaa

/- Complex fractions, the steps' own: square: of any complex fraction that was looked at. -/
namespace Go.Proofs.Ytkkehddpblkegaa
open Go.RowKit
set_option linter.unusedVariables false

theorem cells6 {W : World} {b t : Nat} {u0 u1 u2 u3 u4 u5 : Value} (h : Box W b t #[u0, u1, u2, u3, u4, u5]) : W.cell? ⟨b, 0, none⟩ = some u0 ∧ W.cell? ⟨b, 1, none⟩ = some u1 ∧ W.cell? ⟨b, 2, none⟩ = some u2 ∧ W.cell? ⟨b, 3, none⟩ = some u3 ∧ W.cell? ⟨b, 4, none⟩ = some u4 ∧ W.cell? ⟨b, 5, none⟩ = some u5 :=
  ⟨h.cell 0, h.cell 1, h.cell 2, h.cell 3, h.cell 4, h.cell 5⟩

end Go.Proofs.Ytkkehddpblkegaa

/- Complex fractions, the steps' own: times: of any two that were looked at. -/
namespace Go.Proofs.Ytkkehddpblkegaa
open Go.RowKit
set_option linter.unusedVariables false

structure GB (w X : World) (p : Nat) (l : List (Nat × Nat × Array Value)) : Prop where
  hw : w.heap.size ≤ X.heap.size
  hp : p < w.heap.size
  hl : ∀ x ∈ l, x.1 < X.heap.size
end Go.Proofs.Ytkkehddpblkegaa

/- Complex fractions: gauss.Mul: of any two, good or refused. -/
namespace Go.Proofs.Ytkkehddpblkegaa
open Go.RowKit
set_option linter.unusedVariables false

/-- What some steps tell, E what was refused ahead, L whether something on the way is too long. -/
structure GT3 (E : Int) (L : Prop) (q : Rat) (n : Bool) (xs ys : List Int) (code : Int) : Prop where
  wx : Wd xs
  wy : Wd ys
  bad : E ≠ 0 → n = false ∧ xs = [] ∧ ys = [] ∧ code = E
  long : E = 0 → L → n = false ∧ xs = [] ∧ ys = [] ∧ code = 3
  good : E = 0 → ¬ L → code = 0 ∧ rchk n xs ys = 0 ∧ rq n xs ys = q
theorem GT3.ok {E : Int} {L : Prop} {q : Rat} {n : Bool} {xs ys : List Int} (h : GT3 E L q n xs ys 0) : E = 0 ∧ ¬ L := by
  by_cases hE : E = 0
  · refine ⟨hE, fun hl => ?_⟩
    have e := (h.long hE hl).2.2.2
    exact absurd e (by decide)
  · exact absurd (h.bad hE).2.2.2.symm hE
theorem GT3.of {E e : Int} {q : Rat} {n : Bool} {xs ys : List Int} {c : Int} (h : RTells (fstE E e) q n xs ys c) (z : E = 0 → e = 0) : GT3 E (rlong q) q n xs ys c := by
  by_cases hE : E = 0
  · subst hE
    rw [fstE_zero, z rfl] at h
    exact ⟨h.wx, h.wy, fun h' => absurd rfl h', fun _ => h.long rfl, fun _ => h.good rfl⟩
  · rw [fstE_err _ hE] at h
    exact ⟨h.wx, h.wy, fun _ => h.bad hE, fun h' => absurd h' hE, fun h' => absurd h' hE⟩
theorem GT3.then {E c1 : Int} {L1 L2 : Prop} {q1 q2 : Rat} {n1 n2 : Bool} {x1 y1 x2 y2 : List Int} {c2 : Int} (h1 : GT3 E L1 q1 n1 x1 y1 c1) (h2 : GT3 c1 L2 q2 n2 x2 y2 c2) : GT3 E (L1 ∨ L2) q2 n2 x2 y2 c2 := by
  refine ⟨h2.wx, h2.wy, fun hE => ?_, fun hE hl => ?_, fun hE hl => ?_⟩
  · have e := (h1.bad hE).2.2.2
    subst e
    exact h2.bad hE
  · by_cases l1 : L1
    · have e := (h1.long hE l1).2.2.2
      subst e
      exact h2.bad (by decide)
    · have e := (h1.good hE l1).1
      subst e
      exact h2.long rfl (hl.resolve_left l1)
  · have e := (h1.good hE (fun h => hl (.inl h))).1
    subst e
    exact h2.good rfl (fun h => hl (.inr h))
end Go.Proofs.Ytkkehddpblkegaa

/- Complex fractions: gauss.Norm: of any, good or refused. -/
namespace Go.Proofs.Ytkkehddpblkegaa
open Go.RowKit
set_option linter.unusedVariables false

theorem boxes2m (w : World) (t t' : Nat) (u v : Array Value) : Box ((w.alloc (.cells u t)).alloc (.cells v t')) w.heap.size t u ∧ Box ((w.alloc (.cells u t)).alloc (.cells v t')) (w.heap.size + 1) t' v ∧ Below w.heap.size w ((w.alloc (.cells u t)).alloc (.cells v t')) := by
  have e1 : (w.alloc (.cells u t)).heap.size = w.heap.size + 1 := World.size_alloc _ _
  have a := Box.made w t u
  have b := Box.made (w.alloc (.cells u t)) t' v
  exact ⟨a.later (alloc_later _ _) a.lt, e1 ▸ b, bt (alloc_later _ _) (alloc_later _ _)⟩
end Go.Proofs.Ytkkehddpblkegaa

/- The document's own sum of natural numbers: slackwaterref01.Plus: of every two lists that can be read. -/
namespace Go.Proofs.Ytkkehddpblkegaa
open Go.RowKit
set_option linter.unusedVariables false

/-- One number, trimmed, in new memory. -/
def Ref1 (w : World) (t : Int) (x : Ending) (w' : World) : Prop := ∃ v zs, x = .returned v ∧ w'.ownsRow w.heap.size 45 1 v zs.length (zs.map (Value.int .u32)) ∧ Wd zs ∧ Trimmed zs ∧ val zs = t ∧ Below w.heap.size w w'
end Go.Proofs.Ytkkehddpblkegaa

/- The document's own difference and product of natural numbers: slackwaterref01.Less, Times: of every two lists that can be read. -/
namespace Go.Proofs.Ytkkehddpblkegaa
open Go.RowKit
set_option linter.unusedVariables false

end Go.Proofs.Ytkkehddpblkegaa

/- The document's own product of natural numbers: slackwaterref01.Times: of every two lists that can be read. -/
namespace Go.Proofs.Ytkkehddpblkegaa
open Go.RowKit
set_option linter.unusedVariables false

theorem Reads.cells {w : World} {B : Nat} {a : Option Addr} {n cap : Nat} {zs : List Int} (h : Reads w B a n cap zs) : ∀ k, k < n → ∃ b1 o1, a = some ⟨b1, o1, none⟩ ∧ b1 < B ∧ w.cell? ⟨b1, o1 + k, none⟩ = some (.int .u32 (zs[k]?.getD 0)) := fun k hk => by
  rcases h.2.2.1 with h0 | ⟨b1, o1, e1, l1, c1⟩
  · omega
  · exact ⟨b1, o1, e1, l1, c1 k hk⟩
end Go.Proofs.Ytkkehddpblkegaa

/- The document's own division by one word and its shifts: slackwaterref01.small, Up, Down: of every list that can be read. -/
namespace Go.Proofs.Ytkkehddpblkegaa
open Go.RowKit
set_option linter.unusedVariables false

end Go.Proofs.Ytkkehddpblkegaa

/- The document's own shift down: slackwaterref01.Down: of every list that can be read. -/
namespace Go.Proofs.Ytkkehddpblkegaa
open Go.RowKit
set_option linter.unusedVariables false

theorem Reads.behind {w : World} {B : Nat} {b o n cap : Nat} {zs : List Int} (h : Reads w B (some ⟨b, o, none⟩) n cap zs) (W : Nat) (hW : W < n) : Reads w B (some ⟨b, o + W, none⟩) (n - W) (cap - W) (zs.drop W) := by
  obtain ⟨h1, h2, h3, h4, h5, h6⟩ := h
  refine ⟨by rw [List.length_drop]; omega, h2.drop W, ?_, by omega, by omega, fun e => by simp at e⟩
  rcases h3 with h3 | ⟨b', o', ha, hlt, hc⟩
  · omega
  · right
    simp only [Option.some.injEq, Addr.mk.injEq] at ha
    obtain ⟨rfl, rfl, _⟩ := ha
    refine ⟨b, o + W, rfl, hlt, fun j hj => ?_⟩
    rw [Nat.add_assoc, hc (W + j) (by omega), List.getElem?_drop]
end Go.Proofs.Ytkkehddpblkegaa

/- The document's own long division, its parts: slackwaterref01.below, off, digit; its calls at any slice that can be read. -/
namespace Go.Proofs.Ytkkehddpblkegaa
open Go.RowKit
set_option linter.unusedVariables false

theorem Ref1.slice {w w' : World} {t : Int} {x : Ending} (h : Ref1 w t x w') : ∃ a c zs, x = .returned (.slice a zs.length c) ∧ w'.ownsRow w.heap.size 45 1 (.slice a zs.length c) zs.length (zs.map (Value.int .u32)) ∧ Wd zs ∧ Trimmed zs ∧ val zs = t ∧ Below w.heap.size w w' := by
  obtain ⟨v, zs, rfl, o, h1, h2, h3, h4⟩ := h
  obtain ⟨a, c, hs⟩ := own_slice' o
  subst hs
  exact ⟨a, c, zs, rfl, o, h1, h2, h3, h4⟩

end Go.Proofs.Ytkkehddpblkegaa

/- The document's own long division, one word of it: slackwaterref01.digit. -/
namespace Go.Proofs.Ytkkehddpblkegaa
open Go.RowKit
set_option linter.unusedVariables false

end Go.Proofs.Ytkkehddpblkegaa

/- The document's own quotient and rest: slackwaterref01.Over. -/
namespace Go.Proofs.Ytkkehddpblkegaa
open Go.RowKit
set_option linter.unusedVariables false

end Go.Proofs.Ytkkehddpblkegaa

/- The document's own long division, whole: slackwaterref01.Over of any two numbers. -/
namespace Go.Proofs.Ytkkehddpblkegaa
open Go.RowKit
set_option linter.unusedVariables false

end Go.Proofs.Ytkkehddpblkegaa

/- The document's told: a number, if it is not too long. -/
namespace Go.Proofs.Ytkkehddpblkegaa
open Go.RowKit
set_option linter.unusedVariables false

end Go.Proofs.Ytkkehddpblkegaa

/- The laws of layer 2: lives (two of the chapter's examples hold); the document's own made, Of. -/
namespace Go.Proofs.Ytkkehddpblkegaa
open Go.RowKit
set_option linter.unusedVariables false

theorem wlim_big : (18446744073709551616 : Int) ≤ wlim := by
  have : (4294967296 : Int) ^ 2 ≤ 4294967296 ^ 2048 := pw_le (by omega)
  unfold wlim
  have e : (4294967296 : Int) ^ 2 = 18446744073709551616 := by decide
  rw [e] at this
  exact this
theorem WTells.num {t : Int} {n : Bool} {zs : List Int} {code : Int} (h : WTells 0 t n zs code) (h0 : -18446744073709551616 < t) (h1 : t < 18446744073709551616) : code = 0 ∧ wval n zs = t := by
  have := wlim_big
  exact h.good rfl (by omega) (by omega)
end Go.Proofs.Ytkkehddpblkegaa

/- The document's own whole numbers: slackwaterref02.Check, Product. -/
namespace Go.Proofs.Ytkkehddpblkegaa
open Go.RowKit
set_option linter.unusedVariables false

end Go.Proofs.Ytkkehddpblkegaa

/- The document's own fractions: Of: a fraction of a sign and two sizes, in its one form. -/
namespace Go.Proofs.Ytkkehddpblkegaa
open Go.RowKit
set_option linter.unusedVariables false

theorem RTold.later {w W W' : World} {e : Int} {q : Rat} {x : Ending} (h : RTold w e q x W) (hb : Below W.heap.size W W') : RTold w e q x W' := by
  obtain ⟨n, v, xs, u, ys, code, rfl, o1, o2, t, hbw⟩ := h
  exact ⟨n, v, xs, u, ys, code, rfl, owns_later o1 hb, owns_later o2 hb, t, bt hbw hb⟩
end Go.Proofs.Ytkkehddpblkegaa

/- The document's own fractions: same words; Check. -/
namespace Go.Proofs.Ytkkehddpblkegaa
open Go.RowKit
set_option linter.unusedVariables false

end Go.Proofs.Ytkkehddpblkegaa

/- Whole numbers that are lent to a call: slackwaterkit.LentWhole, KeptWhole; the law's own comparison. -/
namespace Go.Proofs.Ytkkehddpblkegaa
open Go.RowKit
set_option linter.unusedVariables false

end Go.Proofs.Ytkkehddpblkegaa

/- The document's own fractions: Make, size, Small. -/
namespace Go.Proofs.Ytkkehddpblkegaa
open Go.RowKit
set_option linter.unusedVariables false

end Go.Proofs.Ytkkehddpblkegaa

/- The document's own fractions: Small; two fractions with the same words. -/
namespace Go.Proofs.Ytkkehddpblkegaa
open Go.RowKit
set_option linter.unusedVariables false

end Go.Proofs.Ytkkehddpblkegaa

/- Complex fractions that are lent to a call, kept, alike: slackwaterkit.LentGauss, KeptGauss, SameGauss. (tools/mkkg.py) -/
namespace Go.Proofs.Ytkkehddpblkegaa
open Go.RowKit
set_option linter.unusedVariables false

/-- The six cells of a complex fraction. -/
def Kl6 (V : World) (p : Nat) (v0 v1 v2 v3 v4 v5 : Value) : Prop := V.cell? ⟨p, 0, none⟩ = some v0 ∧ V.cell? ⟨p, 1, none⟩ = some v1 ∧ V.cell? ⟨p, 2, none⟩ = some v2 ∧ V.cell? ⟨p, 3, none⟩ = some v3 ∧ V.cell? ⟨p, 4, none⟩ = some v4 ∧ V.cell? ⟨p, 5, none⟩ = some v5
theorem Kl6.of {V : World} {p t : Nat} {v0 v1 v2 v3 v4 v5 : Value} (h : Box V p t #[v0, v1, v2, v3, v4, v5]) : V.cell? ⟨p, 0, none⟩ = some v0 ∧ V.cell? ⟨p, 1, none⟩ = some v1 ∧ V.cell? ⟨p, 2, none⟩ = some v2 ∧ V.cell? ⟨p, 3, none⟩ = some v3 ∧ V.cell? ⟨p, 4, none⟩ = some v4 ∧ V.cell? ⟨p, 5, none⟩ = some v5 := ⟨h.cell 0, h.cell 1, h.cell 2, h.cell 3, h.cell 4, h.cell 5⟩

end Go.Proofs.Ytkkehddpblkegaa

/- Complex fractions: what is told with all rows apart; gauss.Conj; the document's Check: apart from the texts of numbers. (tools/mkgp0.py) -/
namespace Go.Proofs.Ytkkehddpblkegaa
open Go.RowKit
set_option linter.unusedVariables false

/-- A complex fraction told in new memory, all four rows apart. -/
def KToldC (w : World) (E : Int) (L : Prop) (q1 q2 : Rat) (x : Ending) (w' : World) : Prop :=
  ∃ n a ca xs b cb ys m c cc us d cd vs code, x = .returned (.tuple #[.agg #[.bool n, .slice a (List.length xs) ca, .slice b (List.length ys) cb, .bool m, .slice c (List.length us) cc, .slice d (List.length vs) cd], .int .i64 code]) ∧ (w'.ownsRow w.heap.size 45 1 (.slice a xs.length ca) xs.length (xs.map (Value.int .u32)) ∧ w'.ownsRow w.heap.size 45 1 (.slice b ys.length cb) ys.length (ys.map (Value.int .u32)) ∧ w'.ownsRow w.heap.size 45 1 (.slice c us.length cc) us.length (us.map (Value.int .u32)) ∧ w'.ownsRow w.heap.size 45 1 (.slice d vs.length cd) vs.length (vs.map (Value.int .u32))) ∧ GTells E L q1 q2 n xs ys m us vs code ∧ Below w.heap.size w w' ∧ ∃ W1, Cut w (.slice a xs.length ca) (.slice b ys.length cb) W1 ∧ Cut W1 (.slice c us.length cc) (.slice d vs.length cd) w'
theorem KToldC.told {w w' : World} {E : Int} {L : Prop} {q1 q2 : Rat} {x : Ending} (h : KToldC w E L q1 q2 x w') : GTold w E L q1 q2 x w' := by
  obtain ⟨n, a, ca, xs, b, cb, ys, m, c, cc, us, d, cd, vs, code, e, o, t, hb, _⟩ := h
  exact ⟨n, a, ca, xs, b, cb, ys, m, c, cc, us, d, cd, vs, code, e, o, t, hb⟩
end Go.Proofs.Ytkkehddpblkegaa

/- A box of six cells that is stored into whole. -/
namespace Go.Proofs.Ytkkehddpblkegaa
open Go.RowKit
set_option linter.unusedVariables false

end Go.Proofs.Ytkkehddpblkegaa

/- Complex fractions, the laws' own: frac; two fractions, two complex fractions with the same words. -/
namespace Go.Proofs.Ytkkehddpblkegaa
open Go.RowKit
set_option linter.unusedVariables false

set_option maxHeartbeats 1600000 in
set_option maxRecDepth 100000 in
theorem gsameRatio_eq (n : Bool) (v u v' u' : Value) (xs ys : List Int) (w : World) (h : Sl w v xs) (g : Sl w u ys) (h' : Sl w v' xs) (g' : Sl w u' ys) (lx : xs.length ≤ 281474976710656) (ly : ys.length ≤ 281474976710656) :
    Calls Try.prog 26 #[.agg #[.bool n, v, u], .agg #[.bool n, v', u']] w fun e w' => e = .returned (.bool true) ∧ Below w.heap.size w w' := by
  have HB : Hid (Below w.heap.size w ((w.alloc (.cells #[.bool n, v, u] 33)).alloc (.cells #[.bool n, v', u'] 33))) := bt (alloc_later _ _) (alloc_later _ _)
  have HN : Hid (Box ((w.alloc (.cells #[.bool n, v, u] 33)).alloc (.cells #[.bool n, v', u'] 33)) w.heap.size 33 #[.bool n, v, u]) := Box.later (Box.made w _ _) (alloc_later _ _) (by simp)
  have HM : Hid (Box ((w.alloc (.cells #[.bool n, v, u] 33)).alloc (.cells #[.bool n, v', u'] 33)) (w.heap.size + 1) 33 #[.bool n, v', u']) := by
    have e := Box.made (w.alloc (.cells #[.bool n, v, u] 33)) 33 #[.bool n, v', u']
    simp at e
    exact e
  have H1 := hid (same_sl v v' xs xs _ (h.later HB.out) (h'.later HB.out) lx lx)
  rw [decide_eq_true rfl] at H1
  have H2 := hid (fun ww (hb : Below _ ((w.alloc (.cells #[.bool n, v, u] 33)).alloc (.cells #[.bool n, v', u'] 33)) ww) => same_sl u u' ys ys ww ((g.later HB.out).later hb) ((g'.later HB.out).later hb) ly ly)
  rw [decide_eq_true rfl] at H2
  have hbb : (n == n) = true := by simp
  obtain ⟨a, ca, rfl, hr⟩ := h
  obtain ⟨b, cb, rfl, gr⟩ := g
  obtain ⟨a', ca', rfl, hr'⟩ := h'
  obtain ⟨b', cb', rfl, gr'⟩ := g'
  clear hr gr hr' gr'
  go_enter Try.func26, Try.ntmps26
  go_wp2_with fail
  refine Calls.mono H1.out ?_
  generalize ((w.alloc (.cells #[.bool n, .slice a xs.length ca, .slice b ys.length cb] 33)).alloc (.cells #[.bool n, .slice a' xs.length ca', .slice b' ys.length cb'] 33)) = X at *
  rintro e w1 ⟨rfl, hb1⟩
  obtain ⟨p0, p1, p2, _, _, _⟩ := res_box3 HN.out hb1
  obtain ⟨q0, q1, q2, _, _, _⟩ := res_box3 HM.out hb1
  have HC := hid (H2.out w1 hb1)
  have HB1 := hid (bt HB.out hb1)
  clear hb1 H1 H2
  go_wp2_with fail
  refine Calls.mono HC.out ?_
  rintro e w2 ⟨rfl, hb2⟩
  have HBN := hid (bt HB1.out hb2)
  clear hb2 HC
  go_wp2_with fail
  go_ret
  exact ⟨rfl, HBN.out⟩
end Go.Proofs.Ytkkehddpblkegaa

/- Two complex fractions with the same words: slackwaterkit.SameGauss. -/
namespace Go.Proofs.Ytkkehddpblkegaa
open Go.RowKit
set_option linter.unusedVariables false

set_option maxHeartbeats 1600000 in
set_option maxRecDepth 100000 in
theorem gsameGauss_eq (n : Bool) (a : Option Addr) (ca : Nat) (xs : List Int) (b : Option Addr) (cb : Nat) (ys : List Int) (m : Bool) (c : Option Addr) (cc : Nat) (us : List Int) (d : Option Addr) (cd : Nat) (vs : List Int) (a2 : Option Addr) (ca2 : Nat) (b2 : Option Addr) (cb2 : Nat) (c2 : Option Addr) (cc2 : Nat) (d2 : Option Addr) (cd2 : Nat) (w : World) (sx : Sl w (.slice a xs.length ca) xs) (sy : Sl w (.slice b ys.length cb) ys) (su : Sl w (.slice c us.length cc) us) (sv : Sl w (.slice d vs.length cd) vs) (sx2 : Sl w (.slice a2 xs.length ca2) xs) (sy2 : Sl w (.slice b2 ys.length cb2) ys) (su2 : Sl w (.slice c2 us.length cc2) us) (sv2 : Sl w (.slice d2 vs.length cd2) vs) (lx : xs.length ≤ 281474976710656) (ly : ys.length ≤ 281474976710656) (lu : us.length ≤ 281474976710656) (lv : vs.length ≤ 281474976710656) :
    Calls Try.prog 14 #[.agg #[.bool n, .slice a xs.length ca, .slice b ys.length cb, .bool m, .slice c us.length cc, .slice d vs.length cd], .agg #[.bool n, .slice a2 xs.length ca2, .slice b2 ys.length cb2, .bool m, .slice c2 us.length cc2, .slice d2 vs.length cd2]] w fun x w' => x = .returned (.bool true) ∧ Below w.heap.size w w' := by
  have HX := hid (boxes2m w 35 35 #[.bool n, .slice a xs.length ca, .slice b ys.length cb, .bool m, .slice c us.length cc, .slice d vs.length cd] #[.bool n, .slice a2 xs.length ca2, .slice b2 ys.length cb2, .bool m, .slice c2 us.length cc2, .slice d2 vs.length cd2])
  obtain ⟨X, hX⟩ : ∃ X, (w.alloc (.cells #[.bool n, .slice a xs.length ca, .slice b ys.length cb, .bool m, .slice c us.length cc, .slice d vs.length cd] 35)).alloc (.cells #[.bool n, .slice a2 xs.length ca2, .slice b2 ys.length cb2, .bool m, .slice c2 us.length cc2, .slice d2 vs.length cd2] 35) = X := ⟨_, rfl⟩
  rw [hX] at HX
  have H1 := hid (gsameRatio_eq n _ _ _ _ xs ys X (sx.later HX.out.2.2) (sy.later HX.out.2.2) (sx2.later HX.out.2.2) (sy2.later HX.out.2.2) lx ly)
  have H2 : Hid (∀ V, Below w.heap.size w V → Calls Try.prog 26 #[.agg #[.bool m, .slice c us.length cc, .slice d vs.length cd], .agg #[.bool m, .slice c2 us.length cc2, .slice d2 vs.length cd2]] V fun e w' => e = .returned (.bool true) ∧ Below V.heap.size V w') := fun V hv => gsameRatio_eq m _ _ _ _ us vs V (su.later hv) (sv.later hv) (su2.later hv) (sv2.later hv) lu lv
  clear sx sy su sv sx2 sy2 su2 sv2 lx ly lu lv
  obtain ⟨k0, k1, k2, k3, k4, k5⟩ := cells6 HX.out.1
  obtain ⟨m0, m1, m2, m3, m4, m5⟩ := cells6 HX.out.2.1
  go_enter Try.func14, Try.ntmps14
  go_wp2_with fail
  refine Calls.mono H1.out ?_
  rintro e w1 ⟨rfl, hb1⟩
  have HW1 := hid (bt HX.out.2.2 hb1)
  have HA1 := hid (HX.out.1.later hb1 HX.out.1.lt)
  have HA2 := hid (HX.out.2.1.later hb1 HX.out.2.1.lt)
  clear hb1 H1 k0 k1 k2 k3 k4 k5 m0 m1 m2 m3 m4 m5
  obtain ⟨k0, k1, k2, k3, k4, k5⟩ := cells6 HA1.out
  obtain ⟨m0, m1, m2, m3, m4, m5⟩ := cells6 HA2.out
  go_wp2_with fail
  refine Calls.mono (H2.out _ HW1.out) ?_
  rintro e w2 ⟨rfl, hb2⟩
  have HW2 := hid (bt HW1.out hb2)
  clear hb2 H2
  go_wp2_with fail
  go_ret
  exact ⟨rfl, HW2.out⟩
end Go.Proofs.Ytkkehddpblkegaa

