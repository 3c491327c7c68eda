/- My texts on the way to PartsExact, one behind the other: contracts of the program and of the document's answers. -/
import Derived.Test.YtabkgpnckaaclaaGreatDoorL1
import Derived.Test.YtabkgpnckaaclaaGreatDoorL2
import Derived.Test.YtabkgpnckaaclaaGreatDoorL3
import Derived.Test.YtabkgpnckaaclaaGreatDoorL4
import Derived.Deep.RegionHeld3
import Derived.Deep.RegionLaw
import Derived.LoopN
import Derived.Lib.LaidTab
import Derived.Test.YtabkgpnckaaclaaGreatDoorChecked
import Derived.Test.YtabkgpnckaaclaaGreatDoorRows
import Derived.WalkKit
import Derived.ProofKit
import Derived.OpenShut
import Derived.ShutString
import Derived.Below
import Derived.Lib.SmallJoins
import Derived.Deep.Strs
/- The kit's PartsOf of three complex fractions, ApartRatios of six fractions, ApartGausses of three complex fractions. (tools/mkpn4.py) -/
namespace Go.Proofs.YtabkgpnckaaclaaGreatDoor
open Go.RowKit
set_option linter.unusedVariables false

theorem Tryz.infoRp : (Tryz.prog.info? 25).map (fun i => (i.zero, i.size, i.bytes)) = some (some (.agg #[.bool false, .slice none 0 0, .slice none 0 0]), 3, 56) := by kernel_rfl
theorem pn_slice3 {w : World} {base e n s : Nat} {v : Value} {xs : List Value} (h : w.ownsRow base e s v n xs) : ∃ a cap, v = .slice a n cap := by
  rcases h.2 with ⟨h1, h0⟩ | ⟨g, cap, cur, hv, _⟩
  · subst h0; exact ⟨_, _, h1⟩
  · exact ⟨_, _, hv⟩
theorem pn_later3 {w w' : World} {base e n s : Nat} {v : Value} {xs : List Value} (h : w.ownsRow base e s v n xs) (hb : Below w.heap.size w w') : w'.ownsRow base e s v n xs := by
  refine ⟨h.1, h.2.imp id ?_⟩
  rintro ⟨g, cap, cur, rfl, hbg, hg, h1, h2, h3, h4⟩
  refine ⟨g, cap, cur, rfl, hbg, ?_, h1, h2, h3, h4⟩
  rw [hb.block g (by
    have : w.heap[g]?.isSome := by rw [hg]; rfl
    simpa using this)]
  exact hg
theorem six_cells (w : World) (u0 u1 u2 u3 u4 u5 : Value) (t : Nat) : ∀ j u, [u0, u1, u2, u3, u4, u5][j]? = some u → ((w.alloc (.cells #[u0, u1, u2, u3, u4, u5] t)).drew).cell? ((⟨w.heap.size, 0, none⟩ : Addr).add j) = some u := by
  intro j u h
  have hb := Box.made w t #[u0, u1, u2, u3, u4, u5]
  match j, h with
  | 0, h => obtain rfl : u0 = u := by simpa using h
            exact hb.cell 0
  | 1, h => obtain rfl : u1 = u := by simpa using h
            exact hb.cell 1
  | 2, h => obtain rfl : u2 = u := by simpa using h
            exact hb.cell 2
  | 3, h => obtain rfl : u3 = u := by simpa using h
            exact hb.cell 3
  | 4, h => obtain rfl : u4 = u := by simpa using h
            exact hb.cell 4
  | 5, h => obtain rfl : u5 = u := by simpa using h
            exact hb.cell 5
  | n + 6, h => simp at h
theorem pn_row3 {w : World} {base e n g cap : Nat} {xs : List Value} (h : w.ownsRow base e 3 (.slice (some ⟨g, 0, none⟩) n cap) n xs) : ∃ cl : Array Value, w.heap[g]? = some (.cells cl e (0, 0)) ∧ ∀ j, j < n * 3 → cl[j]? = xs[j]? := by
  rcases h.2 with ⟨h1, _⟩ | ⟨g', cap', cur, hv, _, hg, _, _, _, ht⟩
  · cases h1
  · cases hv
    refine ⟨cur, hg, fun j hj => ?_⟩
    rw [← ht, List.getElem?_take, if_pos (by omega), Array.getElem?_toList]

set_option maxHeartbeats 3200000 in
set_option maxRecDepth 100000 in
theorem partsOf3 (b0 b1 b2 b3 b4 b5 : Bool) (a0 a1 a2 a3 a4 a5 a6 a7 a8 a9 a10 a11 : Option Addr) (k0 k1 k2 k3 k4 k5 k6 k7 k8 k9 k10 k11 c0 c1 c2 c3 c4 c5 c6 c7 c8 c9 c10 c11 : Nat) (g : Nat) (w : World) (hk : ∀ V, Below w.heap.size w V → (V.cell? ⟨g, 0, none⟩ = some (.bool b0) ∧ V.cell? ⟨g, 1, none⟩ = some (.slice a0 k0 c0) ∧ V.cell? ⟨g, 2, none⟩ = some (.slice a1 k1 c1) ∧ V.cell? ⟨g, 3, none⟩ = some (.bool b1) ∧ V.cell? ⟨g, 4, none⟩ = some (.slice a2 k2 c2) ∧ V.cell? ⟨g, 5, none⟩ = some (.slice a3 k3 c3)) ∧ (V.cell? ⟨g, 6, none⟩ = some (.bool b2) ∧ V.cell? ⟨g, 7, none⟩ = some (.slice a4 k4 c4) ∧ V.cell? ⟨g, 8, none⟩ = some (.slice a5 k5 c5) ∧ V.cell? ⟨g, 9, none⟩ = some (.bool b3) ∧ V.cell? ⟨g, 10, none⟩ = some (.slice a6 k6 c6) ∧ V.cell? ⟨g, 11, none⟩ = some (.slice a7 k7 c7)) ∧ (V.cell? ⟨g, 12, none⟩ = some (.bool b4) ∧ V.cell? ⟨g, 13, none⟩ = some (.slice a8 k8 c8) ∧ V.cell? ⟨g, 14, none⟩ = some (.slice a9 k9 c9) ∧ V.cell? ⟨g, 15, none⟩ = some (.bool b5) ∧ V.cell? ⟨g, 16, none⟩ = some (.slice a10 k10 c10) ∧ V.cell? ⟨g, 17, none⟩ = some (.slice a11 k11 c11))) :
    Calls Tryz.prog 61 #[.slice (some ⟨g, 0, none⟩) 3 3] w fun e w' => ∃ v, e = .returned v ∧ w'.ownsRow w.heap.size 25 3 v 6 [.bool b0, .slice a0 k0 c0, .slice a1 k1 c1, .bool b1, .slice a2 k2 c2, .slice a3 k3 c3, .bool b2, .slice a4 k4 c4, .slice a5 k5 c5, .bool b3, .slice a6 k6 c6, .slice a7 k7 c7, .bool b4, .slice a8 k8 c8, .slice a9 k9 c9, .bool b5, .slice a10 k10 c10, .slice a11 k11 c11] ∧ Below w.heap.size w w' := by
  obtain ⟨i0, hi, hz0, hz1, hz2⟩ := info_parts Tryz.infoRp
  have HK := hid hk
  clear hk
  go_enter Tryz.func61, Tryz.ntmps61
  go_wp2_with fail
  refine wp_loop_rounds 4 ?_
  have HO : Hid (w.ownsRow w.heap.size 25 3 (.slice none 0 0) 0 []) := World.ownsRow_nil _ _ _ _
  have hb : Below w.heap.size w w := Below.refl _ _
  rw [rounds_succ]
  have hs0 := (HK.out w hb).1
  obtain ⟨e0, e1, e2, e3, e4, e5⟩ := hs0
  have hs0 := (HK.out _ hb.drew).1
  have HOA : Hid ((w.alloc (.cells #[.bool b0, .slice a0 k0 c0, .slice a1 k1 c1, .bool b1, .slice a2 k2 c2, .slice a3 k3 c3] 25)).drew.ownsRow w.heap.size 25 3 (.slice none 0 0) 0 []) := pn_later3 HO.out (bt (alloc_later w (.cells #[.bool b0, .slice a0 k0 c0, .slice a1 k1 c1, .bool b1, .slice a2 k2 c2, .slice a3 k3 c3] 25)) (Below.drew (Below.refl _ _)))
  have hbA : Below w.heap.size w (w.alloc (.cells #[.bool b0, .slice a0 k0 c0, .slice a1 k1 c1, .bool b1, .slice a2 k2 c2, .slice a3 k3 c3] 25)).drew := (bt hb (alloc_later w (.cells #[.bool b0, .slice a0 k0 c0, .slice a1 k1 c1, .bool b1, .slice a2 k2 c2, .slice a3 k3 c3] 25))).drew
  have hsA := (HK.out _ hbA).1
  have hsz := hb.size
  go_wp2_with fail
  go_region_held3 (fun V : World => V.cell? ⟨g, 0, none⟩ = some (.bool b0) ∧ V.cell? ⟨g, 1, none⟩ = some (.slice a0 k0 c0) ∧ V.cell? ⟨g, 2, none⟩ = some (.slice a1 k1 c1) ∧ V.cell? ⟨g, 3, none⟩ = some (.bool b1) ∧ V.cell? ⟨g, 4, none⟩ = some (.slice a2 k2 c2) ∧ V.cell? ⟨g, 5, none⟩ = some (.slice a3 k3 c3)) (first | exact hs0 | exact hsA | exact hs1 | go_keep)
    (first | (refine step_append_own rfl (.tmp 11) (.tmp 22) 42 rfl w.heap.size 25 i0 (.agg #[.bool false, .slice none 0 0, .slice none 0 0]) 3 56 Tryz.underlying42 hi hz0 hz1 hz2 rfl (by decide) (.slice none 0 0) 0 [] rfl HOA.out ⟨w.heap.size, 0, none⟩ 2 2 [.bool b0, .slice a0 k0 c0, .slice a1 k1 c1, .bool b1, .slice a2 k2 c2, .slice a3 k3 c3] rfl rfl (six_cells w _ _ _ _ _ _ _) (by simp [Value.oneCell']) (by unfold maxLen; omega) (by omega) hbA.size ?_; intro v1 w1 o1 gr1; have hs1 := (HK.out _ (hbA.grown gr1 hbA.size (fun k hk => (HOA.out.lt k hk).1))).1))
  have hb1 : Below w.heap.size w w1 := hbA.grown gr1 hbA.size (fun k hk => (HOA.out.lt k hk).1)
  obtain ⟨q1, d1, hv1⟩ := pn_slice3 o1
  subst hv1
  replace HO := hid o1
  replace hb := hb1
  clear o1 gr1 hb1 HOA hbA hsA hs0 hs1 e0 e1 e2 e3 e4 e5 hsz
  go_wp2_with fail
  rw [rounds_succ]
  have hs0 := (HK.out w1 hb).2.1
  obtain ⟨e0, e1, e2, e3, e4, e5⟩ := hs0
  have hs0 := (HK.out _ hb.drew).2.1
  have HOA : Hid ((w1.alloc (.cells #[.bool b2, .slice a4 k4 c4, .slice a5 k5 c5, .bool b3, .slice a6 k6 c6, .slice a7 k7 c7] 25)).drew.ownsRow w.heap.size 25 3 (.slice q1 2 d1) 2 ([] ++ [.bool b0, .slice a0 k0 c0, .slice a1 k1 c1, .bool b1, .slice a2 k2 c2, .slice a3 k3 c3])) := pn_later3 HO.out (bt (alloc_later w1 (.cells #[.bool b2, .slice a4 k4 c4, .slice a5 k5 c5, .bool b3, .slice a6 k6 c6, .slice a7 k7 c7] 25)) (Below.drew (Below.refl _ _)))
  have hbA : Below w.heap.size w (w1.alloc (.cells #[.bool b2, .slice a4 k4 c4, .slice a5 k5 c5, .bool b3, .slice a6 k6 c6, .slice a7 k7 c7] 25)).drew := (bt hb (alloc_later w1 (.cells #[.bool b2, .slice a4 k4 c4, .slice a5 k5 c5, .bool b3, .slice a6 k6 c6, .slice a7 k7 c7] 25))).drew
  have hsA := (HK.out _ hbA).2.1
  have hsz := hb.size
  go_wp2_with fail
  go_region_held3 (fun V : World => V.cell? ⟨g, 6, none⟩ = some (.bool b2) ∧ V.cell? ⟨g, 7, none⟩ = some (.slice a4 k4 c4) ∧ V.cell? ⟨g, 8, none⟩ = some (.slice a5 k5 c5) ∧ V.cell? ⟨g, 9, none⟩ = some (.bool b3) ∧ V.cell? ⟨g, 10, none⟩ = some (.slice a6 k6 c6) ∧ V.cell? ⟨g, 11, none⟩ = some (.slice a7 k7 c7)) (first | exact hs0 | exact hsA | exact hs2 | go_keep)
    (first | (refine step_append_own rfl (.tmp 11) (.tmp 22) 42 rfl w.heap.size 25 i0 (.agg #[.bool false, .slice none 0 0, .slice none 0 0]) 3 56 Tryz.underlying42 hi hz0 hz1 hz2 rfl (by decide) (.slice q1 2 d1) 2 ([] ++ [.bool b0, .slice a0 k0 c0, .slice a1 k1 c1, .bool b1, .slice a2 k2 c2, .slice a3 k3 c3]) rfl HOA.out ⟨w1.heap.size, 0, none⟩ 2 2 [.bool b2, .slice a4 k4 c4, .slice a5 k5 c5, .bool b3, .slice a6 k6 c6, .slice a7 k7 c7] rfl rfl (six_cells w1 _ _ _ _ _ _ _) (by simp [Value.oneCell']) (by unfold maxLen; omega) (by omega) hbA.size ?_; intro v2 w2 o2 gr2; have hs2 := (HK.out _ (hbA.grown gr2 hbA.size (fun k hk => (HOA.out.lt k hk).1))).2.1))
  have hb2 : Below w.heap.size w w2 := hbA.grown gr2 hbA.size (fun k hk => (HOA.out.lt k hk).1)
  obtain ⟨q2, d2, hv2⟩ := pn_slice3 o2
  subst hv2
  replace HO := hid o2
  replace hb := hb2
  clear o2 gr2 hb2 HOA hbA hsA hs0 hs2 e0 e1 e2 e3 e4 e5 hsz
  go_wp2_with fail
  rw [rounds_succ]
  have hs0 := (HK.out w2 hb).2.2
  obtain ⟨e0, e1, e2, e3, e4, e5⟩ := hs0
  have hs0 := (HK.out _ hb.drew).2.2
  have HOA : Hid ((w2.alloc (.cells #[.bool b4, .slice a8 k8 c8, .slice a9 k9 c9, .bool b5, .slice a10 k10 c10, .slice a11 k11 c11] 25)).drew.ownsRow w.heap.size 25 3 (.slice q2 4 d2) 4 (([] ++ [.bool b0, .slice a0 k0 c0, .slice a1 k1 c1, .bool b1, .slice a2 k2 c2, .slice a3 k3 c3]) ++ [.bool b2, .slice a4 k4 c4, .slice a5 k5 c5, .bool b3, .slice a6 k6 c6, .slice a7 k7 c7])) := pn_later3 HO.out (bt (alloc_later w2 (.cells #[.bool b4, .slice a8 k8 c8, .slice a9 k9 c9, .bool b5, .slice a10 k10 c10, .slice a11 k11 c11] 25)) (Below.drew (Below.refl _ _)))
  have hbA : Below w.heap.size w (w2.alloc (.cells #[.bool b4, .slice a8 k8 c8, .slice a9 k9 c9, .bool b5, .slice a10 k10 c10, .slice a11 k11 c11] 25)).drew := (bt hb (alloc_later w2 (.cells #[.bool b4, .slice a8 k8 c8, .slice a9 k9 c9, .bool b5, .slice a10 k10 c10, .slice a11 k11 c11] 25))).drew
  have hsA := (HK.out _ hbA).2.2
  have hsz := hb.size
  go_wp2_with fail
  go_region_held3 (fun V : World => V.cell? ⟨g, 12, none⟩ = some (.bool b4) ∧ V.cell? ⟨g, 13, none⟩ = some (.slice a8 k8 c8) ∧ V.cell? ⟨g, 14, none⟩ = some (.slice a9 k9 c9) ∧ V.cell? ⟨g, 15, none⟩ = some (.bool b5) ∧ V.cell? ⟨g, 16, none⟩ = some (.slice a10 k10 c10) ∧ V.cell? ⟨g, 17, none⟩ = some (.slice a11 k11 c11)) (first | exact hs0 | exact hsA | exact hs3 | go_keep)
    (first | (refine step_append_own rfl (.tmp 11) (.tmp 22) 42 rfl w.heap.size 25 i0 (.agg #[.bool false, .slice none 0 0, .slice none 0 0]) 3 56 Tryz.underlying42 hi hz0 hz1 hz2 rfl (by decide) (.slice q2 4 d2) 4 (([] ++ [.bool b0, .slice a0 k0 c0, .slice a1 k1 c1, .bool b1, .slice a2 k2 c2, .slice a3 k3 c3]) ++ [.bool b2, .slice a4 k4 c4, .slice a5 k5 c5, .bool b3, .slice a6 k6 c6, .slice a7 k7 c7]) rfl HOA.out ⟨w2.heap.size, 0, none⟩ 2 2 [.bool b4, .slice a8 k8 c8, .slice a9 k9 c9, .bool b5, .slice a10 k10 c10, .slice a11 k11 c11] rfl rfl (six_cells w2 _ _ _ _ _ _ _) (by simp [Value.oneCell']) (by unfold maxLen; omega) (by omega) hbA.size ?_; intro v3 w3 o3 gr3; have hs3 := (HK.out _ (hbA.grown gr3 hbA.size (fun k hk => (HOA.out.lt k hk).1))).2.2))
  have hb3 : Below w.heap.size w w3 := hbA.grown gr3 hbA.size (fun k hk => (HOA.out.lt k hk).1)
  obtain ⟨q3, d3, hv3⟩ := pn_slice3 o3
  subst hv3
  replace HO := hid o3
  replace hb := hb3
  clear o3 gr3 hb3 HOA hbA hsA hs0 hs3 e0 e1 e2 e3 e4 e5 hsz
  go_wp2_with fail
  rw [rounds_succ]
  have HBB := hid hb
  clear hb HK
  go_wp2_with fail
  go_ret
  exact ⟨_, rfl, HO.out, HBB.out⟩

set_option maxHeartbeats 3200000 in
set_option maxRecDepth 100000 in
theorem apartRatios6 (base : Nat) (b0 b1 b2 b3 b4 b5 : Bool) (a0 a1 a2 a3 a4 a5 a6 a7 a8 a9 a10 a11 : Option Addr) (k0 k1 k2 k3 k4 k5 k6 k7 k8 k9 k10 k11 c0 c1 c2 c3 c4 c5 c6 c7 c8 c9 c10 c11 : Nat) (g cp : Nat) (X : Nat → List Int) (w : World) (hk : ∀ V, Below w.heap.size w V → (V.cell? ⟨g, 0, none⟩ = some (.bool b0) ∧ V.cell? ⟨g, 1, none⟩ = some (.slice a0 k0 c0) ∧ V.cell? ⟨g, 2, none⟩ = some (.slice a1 k1 c1) ∧ V.cell? ⟨g, 3, none⟩ = some (.bool b1) ∧ V.cell? ⟨g, 4, none⟩ = some (.slice a2 k2 c2) ∧ V.cell? ⟨g, 5, none⟩ = some (.slice a3 k3 c3)) ∧ (V.cell? ⟨g, 6, none⟩ = some (.bool b2) ∧ V.cell? ⟨g, 7, none⟩ = some (.slice a4 k4 c4) ∧ V.cell? ⟨g, 8, none⟩ = some (.slice a5 k5 c5) ∧ V.cell? ⟨g, 9, none⟩ = some (.bool b3) ∧ V.cell? ⟨g, 10, none⟩ = some (.slice a6 k6 c6) ∧ V.cell? ⟨g, 11, none⟩ = some (.slice a7 k7 c7)) ∧ (V.cell? ⟨g, 12, none⟩ = some (.bool b4) ∧ V.cell? ⟨g, 13, none⟩ = some (.slice a8 k8 c8) ∧ V.cell? ⟨g, 14, none⟩ = some (.slice a9 k9 c9) ∧ V.cell? ⟨g, 15, none⟩ = some (.bool b5) ∧ V.cell? ⟨g, 16, none⟩ = some (.slice a10 k10 c10) ∧ V.cell? ⟨g, 17, none⟩ = some (.slice a11 k11 c11))) (hbs : base ≤ w.heap.size) (hcp : 6 ≤ cp)
    (hwd : ∀ j, j < 12 → Wd (X j)) (hlen : ∀ j, j < 12 → (X j).length ≤ 1099511627776) (hown : ∀ j, j < 12 → w.ownsRow base 88 1 (([.slice a0 k0 c0, .slice a1 k1 c1, .slice a2 k2 c2, .slice a3 k3 c3, .slice a4 k4 c4, .slice a5 k5 c5, .slice a6 k6 c6, .slice a7 k7 c7, .slice a8 k8 c8, .slice a9 k9 c9, .slice a10 k10 c10, .slice a11 k11 c11] : List Value)[j]?.getD undef) (X j).length ((X j).map (Value.int .u32)))
    (hap : ∀ i j, i < 12 → j < 12 → i ≠ j → (([.slice a0 k0 c0, .slice a1 k1 c1, .slice a2 k2 c2, .slice a3 k3 c3, .slice a4 k4 c4, .slice a5 k5 c5, .slice a6 k6 c6, .slice a7 k7 c7, .slice a8 k8 c8, .slice a9 k9 c9, .slice a10 k10 c10, .slice a11 k11 c11] : List Value)[i]?.getD undef).ownBlock = none ∨ (([.slice a0 k0 c0, .slice a1 k1 c1, .slice a2 k2 c2, .slice a3 k3 c3, .slice a4 k4 c4, .slice a5 k5 c5, .slice a6 k6 c6, .slice a7 k7 c7, .slice a8 k8 c8, .slice a9 k9 c9, .slice a10 k10 c10, .slice a11 k11 c11] : List Value)[i]?.getD undef).ownBlock ≠ (([.slice a0 k0 c0, .slice a1 k1 c1, .slice a2 k2 c2, .slice a3 k3 c3, .slice a4 k4 c4, .slice a5 k5 c5, .slice a6 k6 c6, .slice a7 k7 c7, .slice a8 k8 c8, .slice a9 k9 c9, .slice a10 k10 c10, .slice a11 k11 c11] : List Value)[j]?.getD undef).ownBlock) :
    Calls Tryz.prog 22 #[.slice (some ⟨g, 0, none⟩) 6 cp] w fun e w' => e = .returned (.bool true) ∧ Below base w w' := by
  obtain ⟨i0, hi, hz0, hz1, hz2⟩ := info_parts Tryz.infoL
  have HF := hid (And.intro hwd (And.intro hlen (And.intro hown hap)))
  have HK := hid hk
  have HCP := hid hcp
  clear hk hwd hlen hown hap hcp
  go_enter Tryz.func22, Tryz.ntmps22
  go_wp2_with fail
  refine wp_loop_rounds 7 ?_
  have HO : Hid (w.ownsRow w.heap.size 23 1 (.slice none 0 0) 0 []) := World.ownsRow_nil _ _ _ _
  have hb : Below w.heap.size w w := Below.refl _ _
  rw [rounds_succ]
  have hs0 := (HK.out w hb).1
  obtain ⟨e0, e1, e2, e3, e4, e5⟩ := hs0
  have hs0 := (HK.out _ hb.drew).1
  have HOA : Hid ((w.alloc (.cells #[.slice a0 k0 c0, .slice a1 k1 c1] 23)).drew.ownsRow w.heap.size 23 1 (.slice none 0 0) 0 []) := owns_later HO.out (bt (alloc_later w (.cells #[.slice a0 k0 c0, .slice a1 k1 c1] 23)) (Below.drew (Below.refl _ _)))
  have hbA : Below w.heap.size w (w.alloc (.cells #[.slice a0 k0 c0, .slice a1 k1 c1] 23)).drew := (bt hb (alloc_later w (.cells #[.slice a0 k0 c0, .slice a1 k1 c1] 23))).drew
  have hsA := (HK.out _ hbA).1
  have hsz := hb.size
  go_wp2_with fail
  go_region_held3 (fun V : World => V.cell? ⟨g, 0, none⟩ = some (.bool b0) ∧ V.cell? ⟨g, 1, none⟩ = some (.slice a0 k0 c0) ∧ V.cell? ⟨g, 2, none⟩ = some (.slice a1 k1 c1) ∧ V.cell? ⟨g, 3, none⟩ = some (.bool b1) ∧ V.cell? ⟨g, 4, none⟩ = some (.slice a2 k2 c2) ∧ V.cell? ⟨g, 5, none⟩ = some (.slice a3 k3 c3)) (first | exact hs0 | exact hsA | exact hs1 | go_keep)
    (first | (refine step_append_own rfl (.tmp 11) (.tmp 22) 82 rfl w.heap.size 23 i0 (.slice none 0 0) 1 24 Tryz.underlying82 hi hz0 hz1 hz2 rfl (by decide) (.slice none 0 0) 0 [] rfl HOA.out ⟨w.heap.size, 0, none⟩ 2 2 [.slice a0 k0 c0, .slice a1 k1 c1] rfl rfl (two_cells w _ _ _) (by simp [Value.oneCell']) (by unfold maxLen; omega) (by omega) hbA.size ?_; intro v1 w1 o1 gr1; have hs1 := (HK.out _ (hbA.grown gr1 hbA.size (fun k hk => (HOA.out.lt k hk).1))).1))
  have hb1 : Below w.heap.size w w1 := hbA.grown gr1 hbA.size (fun k hk => (HOA.out.lt k hk).1)
  obtain ⟨q1, d1, hv1⟩ := own_slice o1
  subst hv1
  replace HO := hid o1
  replace hb := hb1
  clear o1 gr1 hb1 HOA hbA hsA hs0 hs1 e0 e1 e2 e3 e4 e5 hsz
  go_wp2_with fail
  rw [rounds_succ]
  have hs0 := (HK.out w1 hb).1
  obtain ⟨e0, e1, e2, e3, e4, e5⟩ := hs0
  have hs0 := (HK.out _ hb.drew).1
  have HOA : Hid ((w1.alloc (.cells #[.slice a2 k2 c2, .slice a3 k3 c3] 23)).drew.ownsRow w.heap.size 23 1 (.slice q1 2 d1) 2 ([] ++ [.slice a0 k0 c0, .slice a1 k1 c1])) := owns_later HO.out (bt (alloc_later w1 (.cells #[.slice a2 k2 c2, .slice a3 k3 c3] 23)) (Below.drew (Below.refl _ _)))
  have hbA : Below w.heap.size w (w1.alloc (.cells #[.slice a2 k2 c2, .slice a3 k3 c3] 23)).drew := (bt hb (alloc_later w1 (.cells #[.slice a2 k2 c2, .slice a3 k3 c3] 23))).drew
  have hsA := (HK.out _ hbA).1
  have hsz := hb.size
  go_wp2_with fail
  go_region_held3 (fun V : World => V.cell? ⟨g, 0, none⟩ = some (.bool b0) ∧ V.cell? ⟨g, 1, none⟩ = some (.slice a0 k0 c0) ∧ V.cell? ⟨g, 2, none⟩ = some (.slice a1 k1 c1) ∧ V.cell? ⟨g, 3, none⟩ = some (.bool b1) ∧ V.cell? ⟨g, 4, none⟩ = some (.slice a2 k2 c2) ∧ V.cell? ⟨g, 5, none⟩ = some (.slice a3 k3 c3)) (first | exact hs0 | exact hsA | exact hs2 | go_keep)
    (first | (refine step_append_own rfl (.tmp 11) (.tmp 22) 82 rfl w.heap.size 23 i0 (.slice none 0 0) 1 24 Tryz.underlying82 hi hz0 hz1 hz2 rfl (by decide) (.slice q1 2 d1) 2 ([] ++ [.slice a0 k0 c0, .slice a1 k1 c1]) rfl HOA.out ⟨w1.heap.size, 0, none⟩ 2 2 [.slice a2 k2 c2, .slice a3 k3 c3] rfl rfl (two_cells w1 _ _ _) (by simp [Value.oneCell']) (by unfold maxLen; omega) (by omega) hbA.size ?_; intro v2 w2 o2 gr2; have hs2 := (HK.out _ (hbA.grown gr2 hbA.size (fun k hk => (HOA.out.lt k hk).1))).1))
  have hb2 : Below w.heap.size w w2 := hbA.grown gr2 hbA.size (fun k hk => (HOA.out.lt k hk).1)
  obtain ⟨q2, d2, hv2⟩ := own_slice o2
  subst hv2
  replace HO := hid o2
  replace hb := hb2
  clear o2 gr2 hb2 HOA hbA hsA hs0 hs2 e0 e1 e2 e3 e4 e5 hsz
  go_wp2_with fail
  rw [rounds_succ]
  have hs0 := (HK.out w2 hb).2.1
  obtain ⟨e0, e1, e2, e3, e4, e5⟩ := hs0
  have hs0 := (HK.out _ hb.drew).2.1
  have HOA : Hid ((w2.alloc (.cells #[.slice a4 k4 c4, .slice a5 k5 c5] 23)).drew.ownsRow w.heap.size 23 1 (.slice q2 4 d2) 4 (([] ++ [.slice a0 k0 c0, .slice a1 k1 c1]) ++ [.slice a2 k2 c2, .slice a3 k3 c3])) := owns_later HO.out (bt (alloc_later w2 (.cells #[.slice a4 k4 c4, .slice a5 k5 c5] 23)) (Below.drew (Below.refl _ _)))
  have hbA : Below w.heap.size w (w2.alloc (.cells #[.slice a4 k4 c4, .slice a5 k5 c5] 23)).drew := (bt hb (alloc_later w2 (.cells #[.slice a4 k4 c4, .slice a5 k5 c5] 23))).drew
  have hsA := (HK.out _ hbA).2.1
  have hsz := hb.size
  go_wp2_with fail
  go_region_held3 (fun V : World => V.cell? ⟨g, 6, none⟩ = some (.bool b2) ∧ V.cell? ⟨g, 7, none⟩ = some (.slice a4 k4 c4) ∧ V.cell? ⟨g, 8, none⟩ = some (.slice a5 k5 c5) ∧ V.cell? ⟨g, 9, none⟩ = some (.bool b3) ∧ V.cell? ⟨g, 10, none⟩ = some (.slice a6 k6 c6) ∧ V.cell? ⟨g, 11, none⟩ = some (.slice a7 k7 c7)) (first | exact hs0 | exact hsA | exact hs3 | go_keep)
    (first | (refine step_append_own rfl (.tmp 11) (.tmp 22) 82 rfl w.heap.size 23 i0 (.slice none 0 0) 1 24 Tryz.underlying82 hi hz0 hz1 hz2 rfl (by decide) (.slice q2 4 d2) 4 (([] ++ [.slice a0 k0 c0, .slice a1 k1 c1]) ++ [.slice a2 k2 c2, .slice a3 k3 c3]) rfl HOA.out ⟨w2.heap.size, 0, none⟩ 2 2 [.slice a4 k4 c4, .slice a5 k5 c5] rfl rfl (two_cells w2 _ _ _) (by simp [Value.oneCell']) (by unfold maxLen; omega) (by omega) hbA.size ?_; intro v3 w3 o3 gr3; have hs3 := (HK.out _ (hbA.grown gr3 hbA.size (fun k hk => (HOA.out.lt k hk).1))).2.1))
  have hb3 : Below w.heap.size w w3 := hbA.grown gr3 hbA.size (fun k hk => (HOA.out.lt k hk).1)
  obtain ⟨q3, d3, hv3⟩ := own_slice o3
  subst hv3
  replace HO := hid o3
  replace hb := hb3
  clear o3 gr3 hb3 HOA hbA hsA hs0 hs3 e0 e1 e2 e3 e4 e5 hsz
  go_wp2_with fail
  rw [rounds_succ]
  have hs0 := (HK.out w3 hb).2.1
  obtain ⟨e0, e1, e2, e3, e4, e5⟩ := hs0
  have hs0 := (HK.out _ hb.drew).2.1
  have HOA : Hid ((w3.alloc (.cells #[.slice a6 k6 c6, .slice a7 k7 c7] 23)).drew.ownsRow w.heap.size 23 1 (.slice q3 6 d3) 6 ((([] ++ [.slice a0 k0 c0, .slice a1 k1 c1]) ++ [.slice a2 k2 c2, .slice a3 k3 c3]) ++ [.slice a4 k4 c4, .slice a5 k5 c5])) := owns_later HO.out (bt (alloc_later w3 (.cells #[.slice a6 k6 c6, .slice a7 k7 c7] 23)) (Below.drew (Below.refl _ _)))
  have hbA : Below w.heap.size w (w3.alloc (.cells #[.slice a6 k6 c6, .slice a7 k7 c7] 23)).drew := (bt hb (alloc_later w3 (.cells #[.slice a6 k6 c6, .slice a7 k7 c7] 23))).drew
  have hsA := (HK.out _ hbA).2.1
  have hsz := hb.size
  go_wp2_with fail
  go_region_held3 (fun V : World => V.cell? ⟨g, 6, none⟩ = some (.bool b2) ∧ V.cell? ⟨g, 7, none⟩ = some (.slice a4 k4 c4) ∧ V.cell? ⟨g, 8, none⟩ = some (.slice a5 k5 c5) ∧ V.cell? ⟨g, 9, none⟩ = some (.bool b3) ∧ V.cell? ⟨g, 10, none⟩ = some (.slice a6 k6 c6) ∧ V.cell? ⟨g, 11, none⟩ = some (.slice a7 k7 c7)) (first | exact hs0 | exact hsA | exact hs4 | go_keep)
    (first | (refine step_append_own rfl (.tmp 11) (.tmp 22) 82 rfl w.heap.size 23 i0 (.slice none 0 0) 1 24 Tryz.underlying82 hi hz0 hz1 hz2 rfl (by decide) (.slice q3 6 d3) 6 ((([] ++ [.slice a0 k0 c0, .slice a1 k1 c1]) ++ [.slice a2 k2 c2, .slice a3 k3 c3]) ++ [.slice a4 k4 c4, .slice a5 k5 c5]) rfl HOA.out ⟨w3.heap.size, 0, none⟩ 2 2 [.slice a6 k6 c6, .slice a7 k7 c7] rfl rfl (two_cells w3 _ _ _) (by simp [Value.oneCell']) (by unfold maxLen; omega) (by omega) hbA.size ?_; intro v4 w4 o4 gr4; have hs4 := (HK.out _ (hbA.grown gr4 hbA.size (fun k hk => (HOA.out.lt k hk).1))).2.1))
  have hb4 : Below w.heap.size w w4 := hbA.grown gr4 hbA.size (fun k hk => (HOA.out.lt k hk).1)
  obtain ⟨q4, d4, hv4⟩ := own_slice o4
  subst hv4
  replace HO := hid o4
  replace hb := hb4
  clear o4 gr4 hb4 HOA hbA hsA hs0 hs4 e0 e1 e2 e3 e4 e5 hsz
  go_wp2_with fail
  rw [rounds_succ]
  have hs0 := (HK.out w4 hb).2.2
  obtain ⟨e0, e1, e2, e3, e4, e5⟩ := hs0
  have hs0 := (HK.out _ hb.drew).2.2
  have HOA : Hid ((w4.alloc (.cells #[.slice a8 k8 c8, .slice a9 k9 c9] 23)).drew.ownsRow w.heap.size 23 1 (.slice q4 8 d4) 8 (((([] ++ [.slice a0 k0 c0, .slice a1 k1 c1]) ++ [.slice a2 k2 c2, .slice a3 k3 c3]) ++ [.slice a4 k4 c4, .slice a5 k5 c5]) ++ [.slice a6 k6 c6, .slice a7 k7 c7])) := owns_later HO.out (bt (alloc_later w4 (.cells #[.slice a8 k8 c8, .slice a9 k9 c9] 23)) (Below.drew (Below.refl _ _)))
  have hbA : Below w.heap.size w (w4.alloc (.cells #[.slice a8 k8 c8, .slice a9 k9 c9] 23)).drew := (bt hb (alloc_later w4 (.cells #[.slice a8 k8 c8, .slice a9 k9 c9] 23))).drew
  have hsA := (HK.out _ hbA).2.2
  have hsz := hb.size
  go_wp2_with fail
  go_region_held3 (fun V : World => V.cell? ⟨g, 12, none⟩ = some (.bool b4) ∧ V.cell? ⟨g, 13, none⟩ = some (.slice a8 k8 c8) ∧ V.cell? ⟨g, 14, none⟩ = some (.slice a9 k9 c9) ∧ V.cell? ⟨g, 15, none⟩ = some (.bool b5) ∧ V.cell? ⟨g, 16, none⟩ = some (.slice a10 k10 c10) ∧ V.cell? ⟨g, 17, none⟩ = some (.slice a11 k11 c11)) (first | exact hs0 | exact hsA | exact hs5 | go_keep)
    (first | (refine step_append_own rfl (.tmp 11) (.tmp 22) 82 rfl w.heap.size 23 i0 (.slice none 0 0) 1 24 Tryz.underlying82 hi hz0 hz1 hz2 rfl (by decide) (.slice q4 8 d4) 8 (((([] ++ [.slice a0 k0 c0, .slice a1 k1 c1]) ++ [.slice a2 k2 c2, .slice a3 k3 c3]) ++ [.slice a4 k4 c4, .slice a5 k5 c5]) ++ [.slice a6 k6 c6, .slice a7 k7 c7]) rfl HOA.out ⟨w4.heap.size, 0, none⟩ 2 2 [.slice a8 k8 c8, .slice a9 k9 c9] rfl rfl (two_cells w4 _ _ _) (by simp [Value.oneCell']) (by unfold maxLen; omega) (by omega) hbA.size ?_; intro v5 w5 o5 gr5; have hs5 := (HK.out _ (hbA.grown gr5 hbA.size (fun k hk => (HOA.out.lt k hk).1))).2.2))
  have hb5 : Below w.heap.size w w5 := hbA.grown gr5 hbA.size (fun k hk => (HOA.out.lt k hk).1)
  obtain ⟨q5, d5, hv5⟩ := own_slice o5
  subst hv5
  replace HO := hid o5
  replace hb := hb5
  clear o5 gr5 hb5 HOA hbA hsA hs0 hs5 e0 e1 e2 e3 e4 e5 hsz
  go_wp2_with fail
  rw [rounds_succ]
  have hs0 := (HK.out w5 hb).2.2
  obtain ⟨e0, e1, e2, e3, e4, e5⟩ := hs0
  have hs0 := (HK.out _ hb.drew).2.2
  have HOA : Hid ((w5.alloc (.cells #[.slice a10 k10 c10, .slice a11 k11 c11] 23)).drew.ownsRow w.heap.size 23 1 (.slice q5 10 d5) 10 ((((([] ++ [.slice a0 k0 c0, .slice a1 k1 c1]) ++ [.slice a2 k2 c2, .slice a3 k3 c3]) ++ [.slice a4 k4 c4, .slice a5 k5 c5]) ++ [.slice a6 k6 c6, .slice a7 k7 c7]) ++ [.slice a8 k8 c8, .slice a9 k9 c9])) := owns_later HO.out (bt (alloc_later w5 (.cells #[.slice a10 k10 c10, .slice a11 k11 c11] 23)) (Below.drew (Below.refl _ _)))
  have hbA : Below w.heap.size w (w5.alloc (.cells #[.slice a10 k10 c10, .slice a11 k11 c11] 23)).drew := (bt hb (alloc_later w5 (.cells #[.slice a10 k10 c10, .slice a11 k11 c11] 23))).drew
  have hsA := (HK.out _ hbA).2.2
  have hsz := hb.size
  go_wp2_with fail
  go_region_held3 (fun V : World => V.cell? ⟨g, 12, none⟩ = some (.bool b4) ∧ V.cell? ⟨g, 13, none⟩ = some (.slice a8 k8 c8) ∧ V.cell? ⟨g, 14, none⟩ = some (.slice a9 k9 c9) ∧ V.cell? ⟨g, 15, none⟩ = some (.bool b5) ∧ V.cell? ⟨g, 16, none⟩ = some (.slice a10 k10 c10) ∧ V.cell? ⟨g, 17, none⟩ = some (.slice a11 k11 c11)) (first | exact hs0 | exact hsA | exact hs6 | go_keep)
    (first | (refine step_append_own rfl (.tmp 11) (.tmp 22) 82 rfl w.heap.size 23 i0 (.slice none 0 0) 1 24 Tryz.underlying82 hi hz0 hz1 hz2 rfl (by decide) (.slice q5 10 d5) 10 ((((([] ++ [.slice a0 k0 c0, .slice a1 k1 c1]) ++ [.slice a2 k2 c2, .slice a3 k3 c3]) ++ [.slice a4 k4 c4, .slice a5 k5 c5]) ++ [.slice a6 k6 c6, .slice a7 k7 c7]) ++ [.slice a8 k8 c8, .slice a9 k9 c9]) rfl HOA.out ⟨w5.heap.size, 0, none⟩ 2 2 [.slice a10 k10 c10, .slice a11 k11 c11] rfl rfl (two_cells w5 _ _ _) (by simp [Value.oneCell']) (by unfold maxLen; omega) (by omega) hbA.size ?_; intro v6 w6 o6 gr6; have hs6 := (HK.out _ (hbA.grown gr6 hbA.size (fun k hk => (HOA.out.lt k hk).1))).2.2))
  have hb6 : Below w.heap.size w w6 := hbA.grown gr6 hbA.size (fun k hk => (HOA.out.lt k hk).1)
  obtain ⟨q6, d6, hv6⟩ := own_slice o6
  subst hv6
  replace HO := hid o6
  replace hb := hb6
  clear o6 gr6 hb6 HOA hbA hsA hs0 hs6 e0 e1 e2 e3 e4 e5 hsz
  go_wp2_with fail
  rw [rounds_succ]
  obtain ⟨gl, cap, hv, hcap, _⟩ := own_shape HO.out (by omega)
  obtain ⟨rfl, rfl⟩ : q6 = some ⟨gl, 0, none⟩ ∧ d6 = cap := by simpa using hv
  clear hv
  have HLs : Hid (Lists w6 base gl 12 (fun j => ([.slice a0 k0 c0, .slice a1 k1 c1, .slice a2 k2 c2, .slice a3 k3 c3, .slice a4 k4 c4, .slice a5 k5 c5, .slice a6 k6 c6, .slice a7 k7 c7, .slice a8 k8 c8, .slice a9 k9 c9, .slice a10 k10 c10, .slice a11 k11 c11] : List Value)[j]?.getD undef) X) := by
    obtain ⟨cl, hg, hcl⟩ := own_row HO.out
    refine ⟨HF.out.1, HF.out.2.1, fun j hj => owns_later (HF.out.2.2.1 j hj) hb, HF.out.2.2.2, ⟨cl, hg, fun j hj => ?_⟩⟩
    rw [hcl j hj]
    match j, hj with
    | 0, _ => rfl
    | 1, _ => rfl
    | 2, _ => rfl
    | 3, _ => rfl
    | 4, _ => rfl
    | 5, _ => rfl
    | 6, _ => rfl
    | 7, _ => rfl
    | 8, _ => rfl
    | 9, _ => rfl
    | 10, _ => rfl
    | 11, _ => rfl
  have HAP := hid (apart_cap base gl 12 d6 _ X w6 HLs.out (by omega) (by have := hb.size; omega) hcap)
  have HBB := hid (hb.mono hbs)
  clear HLs HO hb hcap
  clear HK HF
  go_wp2_with fail
  refine Calls.mono HAP.out ?_
  rintro e wE ⟨rfl, hbE⟩
  have HBE := hid (HBB.out.trans hbE)
  clear hbE HAP
  go_wp2_with fail
  go_ret
  exact ⟨rfl, HBE.out⟩

set_option maxHeartbeats 1600000 in
set_option maxRecDepth 100000 in
theorem apartGausses3 (base : Nat) (b0 b1 b2 b3 b4 b5 : Bool) (a0 a1 a2 a3 a4 a5 a6 a7 a8 a9 a10 a11 : Option Addr) (k0 k1 k2 k3 k4 k5 k6 k7 k8 k9 k10 k11 c0 c1 c2 c3 c4 c5 c6 c7 c8 c9 c10 c11 : Nat) (g : Nat) (X : Nat → List Int) (w : World) (hbx : Box w g 45 #[.bool b0, .slice a0 k0 c0, .slice a1 k1 c1, .bool b1, .slice a2 k2 c2, .slice a3 k3 c3, .bool b2, .slice a4 k4 c4, .slice a5 k5 c5, .bool b3, .slice a6 k6 c6, .slice a7 k7 c7, .bool b4, .slice a8 k8 c8, .slice a9 k9 c9, .bool b5, .slice a10 k10 c10, .slice a11 k11 c11]) (hbs : base ≤ w.heap.size)
    (hwd : ∀ j, j < 12 → Wd (X j)) (hlen : ∀ j, j < 12 → (X j).length ≤ 1099511627776) (hown : ∀ j, j < 12 → w.ownsRow base 88 1 (([.slice a0 k0 c0, .slice a1 k1 c1, .slice a2 k2 c2, .slice a3 k3 c3, .slice a4 k4 c4, .slice a5 k5 c5, .slice a6 k6 c6, .slice a7 k7 c7, .slice a8 k8 c8, .slice a9 k9 c9, .slice a10 k10 c10, .slice a11 k11 c11] : List Value)[j]?.getD undef) (X j).length ((X j).map (Value.int .u32)))
    (hap : ∀ i j, i < 12 → j < 12 → i ≠ j → (([.slice a0 k0 c0, .slice a1 k1 c1, .slice a2 k2 c2, .slice a3 k3 c3, .slice a4 k4 c4, .slice a5 k5 c5, .slice a6 k6 c6, .slice a7 k7 c7, .slice a8 k8 c8, .slice a9 k9 c9, .slice a10 k10 c10, .slice a11 k11 c11] : List Value)[i]?.getD undef).ownBlock = none ∨ (([.slice a0 k0 c0, .slice a1 k1 c1, .slice a2 k2 c2, .slice a3 k3 c3, .slice a4 k4 c4, .slice a5 k5 c5, .slice a6 k6 c6, .slice a7 k7 c7, .slice a8 k8 c8, .slice a9 k9 c9, .slice a10 k10 c10, .slice a11 k11 c11] : List Value)[i]?.getD undef).ownBlock ≠ (([.slice a0 k0 c0, .slice a1 k1 c1, .slice a2 k2 c2, .slice a3 k3 c3, .slice a4 k4 c4, .slice a5 k5 c5, .slice a6 k6 c6, .slice a7 k7 c7, .slice a8 k8 c8, .slice a9 k9 c9, .slice a10 k10 c10, .slice a11 k11 c11] : List Value)[j]?.getD undef).ownBlock) :
    Calls Tryz.prog 33 #[.slice (some ⟨g, 0, none⟩) 3 3] w fun e w' => e = .returned (.bool true) ∧ Below base w w' := by
  have hk : ∀ V, Below w.heap.size w V → (V.cell? ⟨g, 0, none⟩ = some (.bool b0) ∧ V.cell? ⟨g, 1, none⟩ = some (.slice a0 k0 c0) ∧ V.cell? ⟨g, 2, none⟩ = some (.slice a1 k1 c1) ∧ V.cell? ⟨g, 3, none⟩ = some (.bool b1) ∧ V.cell? ⟨g, 4, none⟩ = some (.slice a2 k2 c2) ∧ V.cell? ⟨g, 5, none⟩ = some (.slice a3 k3 c3)) ∧ (V.cell? ⟨g, 6, none⟩ = some (.bool b2) ∧ V.cell? ⟨g, 7, none⟩ = some (.slice a4 k4 c4) ∧ V.cell? ⟨g, 8, none⟩ = some (.slice a5 k5 c5) ∧ V.cell? ⟨g, 9, none⟩ = some (.bool b3) ∧ V.cell? ⟨g, 10, none⟩ = some (.slice a6 k6 c6) ∧ V.cell? ⟨g, 11, none⟩ = some (.slice a7 k7 c7)) ∧ (V.cell? ⟨g, 12, none⟩ = some (.bool b4) ∧ V.cell? ⟨g, 13, none⟩ = some (.slice a8 k8 c8) ∧ V.cell? ⟨g, 14, none⟩ = some (.slice a9 k9 c9) ∧ V.cell? ⟨g, 15, none⟩ = some (.bool b5) ∧ V.cell? ⟨g, 16, none⟩ = some (.slice a10 k10 c10) ∧ V.cell? ⟨g, 17, none⟩ = some (.slice a11 k11 c11)) := fun V hb => by
    have h := hbx.later hb hbx.lt
    exact ⟨⟨h.cell 0, h.cell 1, h.cell 2, h.cell 3, h.cell 4, h.cell 5⟩, ⟨h.cell 6, h.cell 7, h.cell 8, h.cell 9, h.cell 10, h.cell 11⟩, ⟨h.cell 12, h.cell 13, h.cell 14, h.cell 15, h.cell 16, h.cell 17⟩⟩
  have HP := hid (partsOf3 b0 b1 b2 b3 b4 b5 a0 a1 a2 a3 a4 a5 a6 a7 a8 a9 a10 a11 k0 k1 k2 k3 k4 k5 k6 k7 k8 k9 k10 k11 c0 c1 c2 c3 c4 c5 c6 c7 c8 c9 c10 c11 g w hk)
  have HF := hid (And.intro hwd (And.intro hlen (And.intro hown hap)))
  clear hbx hwd hlen hown hap hk
  go_enter Tryz.func33, Tryz.ntmps33
  go_wp2_with fail
  refine Calls.mono HP.out ?_
  rintro e w1 ⟨v, rfl, ho, hb⟩
  obtain ⟨q, d, hv⟩ := pn_slice3 ho
  subst hv
  obtain ⟨gl, rfl, hd⟩ : ∃ gl, q = some ⟨gl, 0, none⟩ ∧ 6 ≤ d := by
    rcases ho.2 with ⟨_, h0⟩ | ⟨g', cap, cur, hv, _, _, h1, _⟩
    · omega
    · cases hv; exact ⟨g', rfl, h1⟩
  have hk : ∀ V, Below w1.heap.size w1 V → (V.cell? ⟨gl, 0, none⟩ = some (.bool b0) ∧ V.cell? ⟨gl, 1, none⟩ = some (.slice a0 k0 c0) ∧ V.cell? ⟨gl, 2, none⟩ = some (.slice a1 k1 c1) ∧ V.cell? ⟨gl, 3, none⟩ = some (.bool b1) ∧ V.cell? ⟨gl, 4, none⟩ = some (.slice a2 k2 c2) ∧ V.cell? ⟨gl, 5, none⟩ = some (.slice a3 k3 c3)) ∧ (V.cell? ⟨gl, 6, none⟩ = some (.bool b2) ∧ V.cell? ⟨gl, 7, none⟩ = some (.slice a4 k4 c4) ∧ V.cell? ⟨gl, 8, none⟩ = some (.slice a5 k5 c5) ∧ V.cell? ⟨gl, 9, none⟩ = some (.bool b3) ∧ V.cell? ⟨gl, 10, none⟩ = some (.slice a6 k6 c6) ∧ V.cell? ⟨gl, 11, none⟩ = some (.slice a7 k7 c7)) ∧ (V.cell? ⟨gl, 12, none⟩ = some (.bool b4) ∧ V.cell? ⟨gl, 13, none⟩ = some (.slice a8 k8 c8) ∧ V.cell? ⟨gl, 14, none⟩ = some (.slice a9 k9 c9) ∧ V.cell? ⟨gl, 15, none⟩ = some (.bool b5) ∧ V.cell? ⟨gl, 16, none⟩ = some (.slice a10 k10 c10) ∧ V.cell? ⟨gl, 17, none⟩ = some (.slice a11 k11 c11)) := fun V hbv => by
    obtain ⟨cl, hg, hcl⟩ := pn_row3 (pn_later3 ho hbv)
    have hc : ∀ j, V.cell? ⟨gl, j, none⟩ = cl[j]? := fun j => by simp [World.cell?, hg]
    exact ⟨⟨by rw [hc, hcl 0 (by omega)]; rfl, by rw [hc, hcl 1 (by omega)]; rfl, by rw [hc, hcl 2 (by omega)]; rfl, by rw [hc, hcl 3 (by omega)]; rfl, by rw [hc, hcl 4 (by omega)]; rfl, by rw [hc, hcl 5 (by omega)]; rfl⟩, ⟨by rw [hc, hcl 6 (by omega)]; rfl, by rw [hc, hcl 7 (by omega)]; rfl, by rw [hc, hcl 8 (by omega)]; rfl, by rw [hc, hcl 9 (by omega)]; rfl, by rw [hc, hcl 10 (by omega)]; rfl, by rw [hc, hcl 11 (by omega)]; rfl⟩, ⟨by rw [hc, hcl 12 (by omega)]; rfl, by rw [hc, hcl 13 (by omega)]; rfl, by rw [hc, hcl 14 (by omega)]; rfl, by rw [hc, hcl 15 (by omega)]; rfl, by rw [hc, hcl 16 (by omega)]; rfl, by rw [hc, hcl 17 (by omega)]; rfl⟩⟩
  have HA := hid (apartRatios6 base b0 b1 b2 b3 b4 b5 a0 a1 a2 a3 a4 a5 a6 a7 a8 a9 a10 a11 k0 k1 k2 k3 k4 k5 k6 k7 k8 k9 k10 k11 c0 c1 c2 c3 c4 c5 c6 c7 c8 c9 c10 c11 gl d X w1 hk (Nat.le_trans hbs hb.size) hd HF.out.1 HF.out.2.1 (fun j hj => owns_later (HF.out.2.2.1 j hj) hb) HF.out.2.2.2)
  have HB := hid (hb.mono hbs)
  clear ho hb hk HF HP hd
  go_wp2_with fail
  refine Calls.mono HA.out ?_
  rintro e w2 ⟨rfl, hb2⟩
  have HB2 := hid (HB.out.trans hb2)
  clear HA hb2
  go_wp2_with fail
  go_ret
  exact ⟨rfl, HB2.out⟩
end Go.Proofs.YtabkgpnckaaclaaGreatDoor

/- The laws' Small and z; Exact of any complex number, the program's beside the document's; twelve lists that lie apart; SameNumber. -/
namespace Go.Proofs.YtabkgpnckaaclaaGreatDoor
open Go.RowKit
set_option linter.unusedVariables false

/-- Few words, or just more than may be. -/
def smK (k : Nat) : Bool := decide (k ≤ 80) || (decide (2048 < k) && decide (k < 2057))

set_option maxHeartbeats 800000 in
set_option maxRecDepth 100000 in
theorem psmall_any (a : Option Addr) (k ca : Nat) (w : World) : Calls Tryz.prog 57 #[.slice a k ca, .int .i64 80] w fun e w' => e = .returned (.bool (smK k)) ∧ w' = w := by
  by_cases h1 : k ≤ 80
  · have e : smK k = true := by simp [smK, h1]
    have q1 : (k : Int) ≤ 80 := by omega
    rw [e]
    clear h1 e
    go_enter Tryz.func57, Tryz.ntmps57
    go_wp2_with fail
    go_ret
    exact ⟨rfl, rfl⟩
  · by_cases h2 : 2048 < k
    · by_cases h3 : k < 2057
      · have e : smK k = true := by simp [smK, h2, h3]
        have q1 : ¬ (k : Int) ≤ 80 := by omega
        have q2 : (2048 : Int) < (k : Int) := by omega
        have q3 : (k : Int) < 2057 := by omega
        rw [e]
        clear h1 h2 h3 e
        go_enter Tryz.func57, Tryz.ntmps57
        go_wp2_with fail
        go_ret
        exact ⟨rfl, rfl⟩
      · have e : smK k = false := by simp [smK, h1, h2, h3]
        have q1 : ¬ (k : Int) ≤ 80 := by omega
        have q2 : (2048 : Int) < (k : Int) := by omega
        have q3 : ¬ (k : Int) < 2057 := by omega
        rw [e]
        clear h1 h2 h3 e
        go_enter Tryz.func57, Tryz.ntmps57
        go_wp2_with fail
        go_ret
        exact ⟨rfl, rfl⟩
    · have e : smK k = false := by simp [smK, h1, h2]
      have q1 : ¬ (k : Int) ≤ 80 := by omega
      have q2 : ¬ (2048 : Int) < (k : Int) := by omega
      rw [e]
      clear h1 h2 e
      go_enter Tryz.func57, Tryz.ntmps57
      go_wp2_with fail
      go_ret
      exact ⟨rfl, rfl⟩

set_option maxHeartbeats 800000 in
set_option maxRecDepth 100000 in
theorem pSmall_any (n : Bool) (a : Option Addr) (k ca : Nat) (b : Option Addr) (l cb : Nat) (w : World) : Calls Tryz.prog 23 #[.agg #[.bool n, .slice a k ca, .slice b l cb], .int .i64 80] w fun e w' => e = .returned (.bool (smK k && smK l)) ∧ Below w.heap.size w w' := by
  have HB := hid (alloc_later w (.cells #[.bool n, .slice a k ca, .slice b l cb] 25))
  have H1 := hid (fun V => psmall_any a k ca V)
  have H2 := hid (fun V => psmall_any b l cb V)
  cases h : smK k
  · rw [h] at H1
    rw [Bool.false_and]
    clear h H2
    go_enter Tryz.func23, Tryz.ntmps23
    go_wp2_with fail
    refine Calls.mono (H1.out _) ?_
    rintro e w1 ⟨rfl, rfl⟩
    go_wp2_with fail
    go_ret
    exact ⟨rfl, HB.out⟩
  · rw [h] at H1
    rw [Bool.true_and]
    generalize smK l = r at *
    clear h
    go_enter Tryz.func23, Tryz.ntmps23
    go_wp2_with fail
    refine Calls.mono (H1.out _) ?_
    rintro e w1 ⟨rfl, rfl⟩
    go_wp2_with fail
    refine Calls.mono (H2.out _) ?_
    rintro e w1 ⟨rfl, rfl⟩
    go_wp2_with fail
    go_ret
    exact ⟨rfl, HB.out⟩

set_option maxHeartbeats 800000 in
set_option maxRecDepth 100000 in
theorem plawZ_any (a b : Nat) (w : World) :
    Calls Tryz.prog 28 #[.agg #[.int .u64 (a : Int), .int .u64 (b : Int)]] w fun e w' => e = .returned (.complex .f64 a b) ∧ Below w.heap.size w w' := by
  have fa := from_run a
  have fb := from_run b
  have h0 := Box.made w 47 #[.int .u64 (a : Int), .int .u64 (b : Int)]
  have hb0 : Below w.heap.size w (w.alloc (.cells #[.int .u64 (a : Int), .int .u64 (b : Int)] 47)) := (Below.refl _ _).alloc (Nat.le_refl _) _
  go_enter Tryz.func28, Tryz.ntmps28
  go_wp2_with fail
  generalize w.alloc (.cells #[.int .u64 (a : Int), .int .u64 (b : Int)] 47) = V at *
  have hs0 : V.drew.cell? ⟨w.heap.size, 0, none⟩ = some (.int .u64 (a : Int)) ∧ V.drew.cell? ⟨w.heap.size, 1, none⟩ = some (.int .u64 (b : Int)) := ⟨h0.cell 0, h0.cell 1⟩
  have HB := hid (hb0.drew)
  clear h0 hb0
  go_region_held3 (fun U : World => U.cell? ⟨w.heap.size, 0, none⟩ = some (.int .u64 (a : Int)) ∧ U.cell? ⟨w.heap.size, 1, none⟩ = some (.int .u64 (b : Int))) (exact hs0) (fail)
  all_goals
    go_wp2_with fail
    go_ret
    exact ⟨rfl, HB.out⟩

/-- What Exact tells of a complex number. -/
def ET (x y : Nat) (s : Bool) (zs ds : List Int) (t : Bool) (zs' ds' : List Int) (code : Int) : Prop :=
  ((fin x && fin y) = false ∧ s = false ∧ zs = [] ∧ ds = [] ∧ t = false ∧ zs' = [] ∧ ds' = [] ∧ code = 8) ∨ ((fin x && fin y) = true ∧ RTells 0 (fq x) s zs ds 0 ∧ RTells 0 (fq y) t zs' ds' 0 ∧ code = 0)
theorem ET.one {x y : Nat} {s : Bool} {zs ds : List Int} {t : Bool} {zs' ds' : List Int} {c : Int} {s2 : Bool} {zs2 ds2 : List Int} {t2 : Bool} {zs3 ds3 : List Int} {c2 : Int} (h : ET x y s zs ds t zs' ds' c) (g : ET x y s2 zs2 ds2 t2 zs3 ds3 c2) : s = s2 ∧ zs = zs2 ∧ ds = ds2 ∧ t = t2 ∧ zs' = zs3 ∧ ds' = ds3 ∧ c = c2 := by
  rcases h with ⟨h0, h1, h2, h3, h4, h5, h6, h7⟩ | ⟨h0, h1, h2, h3⟩
  · rcases g with ⟨g0, g1, g2, g3, g4, g5, g6, g7⟩ | ⟨g0, _⟩
    · exact ⟨by rw [h1, g1], by rw [h2, g2], by rw [h3, g3], by rw [h4, g4], by rw [h5, g5], by rw [h6, g6], by rw [h7, g7]⟩
    · rw [h0] at g0; cases g0
  · rcases g with ⟨g0, _⟩ | ⟨g0, g1, g2, g3⟩
    · rw [h0] at g0; cases g0
    · obtain ⟨e1, e2, e3, _⟩ := h1.same g1
      obtain ⟨f1, f2, f3, _⟩ := h2.same g2
      exact ⟨e1, e2, e3, f1, f2, f3, by rw [h3, g3]⟩
theorem RTells.fewp {e : Int} {q : Rat} {n : Bool} {xs ys : List Int} {code : Int} (h : RTells e q n xs ys code) : xs.length ≤ 2048 ∧ ys.length ≤ 2048 := by
  by_cases he : e = 0
  · by_cases hl : rlong q
    · obtain ⟨_, h1, h2, _⟩ := h.long he hl
      subst h1; subst h2
      exact ⟨by simp, by simp⟩
    · obtain ⟨_, h1, _⟩ := h.good he hl
      obtain ⟨l1, l2, _⟩ := rchk_ok h1
      omega
  · obtain ⟨_, h1, h2, _⟩ := h.bad he
    subst h1; subst h2
    exact ⟨by simp, by simp⟩
theorem ET.few {x y : Nat} {s : Bool} {zs ds : List Int} {t : Bool} {zs' ds' : List Int} {c : Int} (h : ET x y s zs ds t zs' ds' c) : (zs.length ≤ 2048 ∧ ds.length ≤ 2048 ∧ zs'.length ≤ 2048 ∧ ds'.length ≤ 2048) ∧ Wd zs ∧ Wd ds ∧ Wd zs' ∧ Wd ds' := by
  rcases h with ⟨_, _, rfl, rfl, _, rfl, rfl, _⟩ | ⟨_, h1, h2, _⟩
  · exact ⟨⟨by simp, by simp, by simp, by simp⟩, Wd.nil, Wd.nil, Wd.nil, Wd.nil⟩
  · exact ⟨⟨h1.fewp.1, h1.fewp.2, h2.fewp.1, h2.fewp.2⟩, h1.wx, h1.wy, h2.wx, h2.wy⟩
theorem ap_nil (u : Value) : Ap (.slice none 0 0) u := .inl rfl
theorem pexact_all (x y : Nat) (w : World) (hx : x < 18446744073709551616) (hy : y < 18446744073709551616) (hT : TabB w) :
    Calls Tryz.prog 27 #[.complex .f64 x y] w fun e w' => ∃ s a ca b cb zs ds t a' ca' b' cb' zs' ds' code, e = .returned (.tuple #[.agg #[.bool s, .slice a (List.length zs) ca, .slice b (List.length ds) cb, .bool t, .slice a' (List.length zs') ca', .slice b' (List.length ds') cb'], .int .i64 code]) ∧ (w'.ownsRow w.heap.size 88 1 (.slice a zs.length ca) zs.length (zs.map (Value.int .u32)) ∧ w'.ownsRow w.heap.size 88 1 (.slice b ds.length cb) ds.length (ds.map (Value.int .u32)) ∧ w'.ownsRow w.heap.size 88 1 (.slice a' zs'.length ca') zs'.length (zs'.map (Value.int .u32)) ∧ w'.ownsRow w.heap.size 88 1 (.slice b' ds'.length cb') ds'.length (ds'.map (Value.int .u32))) ∧ ET x y s zs ds t zs' ds' code ∧ Ap4 (.slice a zs.length ca) (.slice b ds.length cb) (.slice a' zs'.length ca') (.slice b' ds'.length cb') ∧ Below w.heap.size w w' := by
  cases hf : (fin x && fin y)
  · refine Calls.mono (pexact_bad x y w hx hy hT hf) ?_
    rintro e w' ⟨rfl, hb⟩
    exact ⟨false, none, 0, none, 0, [], [], false, none, 0, none, 0, [], [], 8, rfl, ⟨World.ownsRow_nil _ _ _ _, World.ownsRow_nil _ _ _ _, World.ownsRow_nil _ _ _ _, World.ownsRow_nil _ _ _ _⟩, .inl ⟨hf, rfl, rfl, rfl, rfl, rfl, rfl, rfl⟩, ⟨ap_nil _, ap_nil _, ap_nil _, ap_nil _, ap_nil _, ap_nil _⟩, hb⟩
  · have h1 : fin x = true := by cases h : fin x; rw [h] at hf; cases hf; rfl
    have h2 : fin y = true := by rw [h1] at hf; simpa using hf
    refine Calls.mono (pexact_own x y w ((fi_fin hx).1 h1) ((fi_fin hy).1 h2) hT) ?_
    rintro e w' ⟨s, a, ca, b, cb, zs, ds, t, a', ca', b', cb', zs', ds', rfl, o1, o2, o3, o4, t1, t2, ap, hb⟩
    exact ⟨s, a, ca, b, cb, zs, ds, t, a', ca', b', cb', zs', ds', 0, rfl, ⟨o1, o2, o3, o4⟩, .inr ⟨hf, t1, t2, rfl⟩, ap, hb⟩

set_option maxHeartbeats 800000 in
set_option maxRecDepth 100000 in
theorem dexact_bad (x y : Nat) (w : World) (hf : (fin x && fin y) = false) :
    Calls Tryz.prog 29 #[.complex .f64 x y] w fun e w' => e = .returned (.tuple #[.agg #[.bool false, .slice none 0 0, .slice none 0 0, .bool false, .slice none 0 0, .slice none 0 0], .int .i64 8]) ∧ Below w.heap.size w w' := by
  obtain ⟨X, hX⟩ : ∃ X, w.alloc (.cells #[.bool false, .slice none 0 0, .slice none 0 0, .bool false, .slice none 0 0, .slice none 0 0] 45) = X := ⟨_, rfl⟩
  have b1 : Below w.heap.size w X := by rw [← hX]; exact alloc_later _ _
  have HP : Hid (Box X w.heap.size 45 #[.bool false, .slice none 0 0, .slice none 0 0, .bool false, .slice none 0 0, .slice none 0 0]) := by rw [← hX]; exact Box.made w _ _
  have HB1 := hid b1
  have HF := hid (zdFinite_any x y X)
  rw [hf] at HF
  clear b1 hf
  go_enter Tryz.func29, Tryz.ntmps29
  go_wp2_with fail
  clear hX
  refine Calls.mono HF.out ?_
  rintro e w1 ⟨rfl, hb⟩
  obtain ⟨⟨g0, g1, g2, g3, g4, g5⟩, ⟨f0, f1, f2, f3, f4, f5⟩, m0, m1, m2, m3, m4, m5⟩ := zero_box6 (HP.out.later hb HP.out.lt)
  have HB2 := hid (bt HB1.out hb)
  clear hb HF HP
  go_wp2_with fail
  refine bodyPost_ret (v := .tuple #[.agg #[.bool false, .slice none 0 0, .slice none 0 0, .bool false, .slice none 0 0, .slice none 0 0], .int .i64 8]) (by simp [results, Tryz.results29, go_sem, g0, g1, g2, g3, g4, g5]) rfl ?_
  exact ⟨rfl, HB2.out⟩
theorem sl_none (W : World) : Sl W (.slice none 0 0) [] := Sl.own (base := W.heap.size) (e := 88) (n := 0) (xs := []) (World.ownsRow_nil _ _ _ _) Wd.nil
theorem dexact_all (x y : Nat) (w : World) (hx : x < 18446744073709551616) (hy : y < 18446744073709551616) (hT : TabB w) :
    Calls Tryz.prog 29 #[.complex .f64 x y] w fun e w' => ∃ s a ca b cb zs ds t a' ca' b' cb' zs' ds' code, e = .returned (.tuple #[.agg #[.bool s, .slice a (List.length zs) ca, .slice b (List.length ds) cb, .bool t, .slice a' (List.length zs') ca', .slice b' (List.length ds') cb'], .int .i64 code]) ∧ (Sl w' (.slice a zs.length ca) zs ∧ Sl w' (.slice b ds.length cb) ds ∧ Sl w' (.slice a' zs'.length ca') zs' ∧ Sl w' (.slice b' ds'.length cb') ds') ∧ ET x y s zs ds t zs' ds' code ∧ Below w.heap.size w w' := by
  cases hf : (fin x && fin y)
  · refine Calls.mono (dexact_bad x y w hf) ?_
    rintro e w' ⟨rfl, hb⟩
    exact ⟨false, none, 0, none, 0, [], [], false, none, 0, none, 0, [], [], 8, rfl, ⟨sl_none _, sl_none _, sl_none _, sl_none _⟩, .inl ⟨hf, rfl, rfl, rfl, rfl, rfl, rfl, rfl⟩, hb⟩
  · have h1 : fin x = true := by cases h : fin x; rw [h] at hf; cases hf; rfl
    have h2 : fin y = true := by rw [h1] at hf; simpa using hf
    refine Calls.mono (dexact_fin x y w ((fi_fin hx).1 h1) ((fi_fin hy).1 h2) hT) ?_
    rintro e w' ⟨s, a, ca, b, cb, zs, ds, t, a', ca', b', cb', zs', ds', rfl, o1, o2, o3, o4, t1, t2, hb⟩
    exact ⟨s, a, ca, b, cb, zs, ds, t, a', ca', b', cb', zs', ds', 0, rfl, ⟨o1, o2, o3, o4⟩, .inr ⟨hf, t1, t2, rfl⟩, hb⟩

/-- Four lists apart, by their numbers. -/
theorem ap_four {v : Nat → Value} (h : Ap4 (v 0) (v 1) (v 2) (v 3)) : ∀ i j, i < 4 → j < 4 → i ≠ j → Ap (v i) (v j) := by
  obtain ⟨h01, h23, h02, h03, h12, h13⟩ := h
  intro i j hi hj hne
  match i, hi, j, hj with
  | 0, _, 0, _ => omega
  | 0, _, 1, _ => exact h01
  | 0, _, 2, _ => exact h02
  | 0, _, 3, _ => exact h03
  | 1, _, 0, _ => exact h01.turn
  | 1, _, 1, _ => omega
  | 1, _, 2, _ => exact h12
  | 1, _, 3, _ => exact h13
  | 2, _, 0, _ => exact h02.turn
  | 2, _, 1, _ => exact h12.turn
  | 2, _, 2, _ => omega
  | 2, _, 3, _ => exact h23
  | 3, _, 0, _ => exact h03.turn
  | 3, _, 1, _ => exact h13.turn
  | 3, _, 2, _ => exact h23.turn
  | 3, _, 3, _ => omega
theorem ap_twelve {v : Nat → Value} (a0 a1 b0 b1 c0 c1 : Nat) (ia : ∀ j, j < 4 → Within (v j) a0 a1) (ib : ∀ j, j < 4 → Within (v (4 + j)) b0 b1) (ic : ∀ j, j < 4 → Within (v (8 + j)) c0 c1) (h1 : a1 ≤ b0) (h2 : b1 ≤ c0) (h3 : b0 ≤ b1)
    (pa : Ap4 (v 0) (v 1) (v 2) (v 3)) (pb : Ap4 (v 4) (v 5) (v 6) (v 7)) (pc : Ap4 (v 8) (v 9) (v 10) (v 11)) : ∀ i j, i < 12 → j < 12 → i ≠ j → (v i).ownBlock = none ∨ (v i).ownBlock ≠ (v j).ownBlock := by
  have qa := ap_four pa
  have qb := ap_four (v := fun k => v (4 + k)) pb
  have qc := ap_four (v := fun k => v (8 + k)) pc
  intro i j hi hj hne
  rcases Nat.lt_or_ge i 4 with gi | gi
  · rcases Nat.lt_or_ge j 4 with gj | gj
    · exact qa i j gi gj hne
    · rcases Nat.lt_or_ge j 8 with gj' | gj'
      · obtain ⟨m, rfl⟩ : ∃ m, j = 4 + m := ⟨j - 4, by omega⟩
        exact Ap.far (ia i gi) (ib m (by omega)) (by omega)
      · obtain ⟨m, rfl⟩ : ∃ m, j = 8 + m := ⟨j - 8, by omega⟩
        exact Ap.far (ia i gi) (ic m (by omega)) (by omega)
  · rcases Nat.lt_or_ge i 8 with gi' | gi'
    · obtain ⟨k, rfl⟩ : ∃ k, i = 4 + k := ⟨i - 4, by omega⟩
      rcases Nat.lt_or_ge j 4 with gj | gj
      · exact Ap.far (ib k (by omega)) (ia j gj) (by omega)
      · rcases Nat.lt_or_ge j 8 with gj' | gj'
        · obtain ⟨m, rfl⟩ : ∃ m, j = 4 + m := ⟨j - 4, by omega⟩
          exact qb k m (by omega) (by omega) (by omega)
        · obtain ⟨m, rfl⟩ : ∃ m, j = 8 + m := ⟨j - 8, by omega⟩
          exact Ap.far (ib k (by omega)) (ic m (by omega)) (by omega)
    · obtain ⟨k, rfl⟩ : ∃ k, i = 8 + k := ⟨i - 8, by omega⟩
      rcases Nat.lt_or_ge j 4 with gj | gj
      · exact Ap.far (ic k (by omega)) (ia j gj) (by omega)
      · rcases Nat.lt_or_ge j 8 with gj' | gj'
        · obtain ⟨m, rfl⟩ : ∃ m, j = 4 + m := ⟨j - 4, by omega⟩
          exact Ap.far (ic k (by omega)) (ib m (by omega)) (by omega)
        · obtain ⟨m, rfl⟩ : ∃ m, j = 8 + m := ⟨j - 8, by omega⟩
          exact qc k m (by omega) (by omega) (by omega)

set_option maxHeartbeats 800000 in
set_option maxRecDepth 100000 in
theorem pSameFloat (x : Nat) (w : World) : Calls Tryz.prog 20 #[.float .f64 x, .float .f64 x] w fun e w' => e = .returned (.bool true) ∧ w' = w := by
  cases hn : isnan x with
  | false =>
    have h1 : (FloatKind.f64.format.order x x == some .eq) = true := by rw [order_refl hn]; rfl
    go_enter Tryz.func20, Tryz.ntmps20
    go_wp2_with fail
    go_ret
    exact ⟨rfl, rfl⟩
  | true =>
    have h1 : (FloatKind.f64.format.order x x == some .eq) = false := by rw [order_nan_l hn]; rfl
    have h2 : (FloatKind.f64.format.order x x != some .eq) = true := by rw [order_nan_l hn]; rfl
    go_enter Tryz.func20, Tryz.ntmps20
    go_wp2_with fail
    go_ret
    exact ⟨rfl, rfl⟩
set_option maxHeartbeats 800000 in
set_option maxRecDepth 100000 in
theorem pSameNumber (a b : Nat) (w : World) : Calls Tryz.prog 30 #[.complex .f64 a b, .complex .f64 a b] w fun e w' => e = .returned (.bool true) ∧ w' = w := by
  have H1 := hid (fun V => pSameFloat a V)
  have H2 := hid (fun V => pSameFloat b V)
  go_enter Tryz.func30, Tryz.ntmps30
  go_wp2_with fail
  refine Calls.mono (H1.out _) ?_
  rintro e w1 ⟨rfl, rfl⟩
  go_wp2_with fail
  refine Calls.mono (H2.out _) ?_
  rintro e w2 ⟨rfl, rfl⟩
  go_wp2_with fail
  go_ret
  exact ⟨rfl, rfl⟩
end Go.Proofs.YtabkgpnckaaclaaGreatDoor

/- The document's own fractions: Make, size, Small. -/
namespace Go.Proofs.YtabkgpnckaaclaaGreatDoor
open Go.RowKit
set_option linter.unusedVariables false

end Go.Proofs.YtabkgpnckaaclaaGreatDoor

/- The document's own fractions: Small; two fractions with the same words. -/
namespace Go.Proofs.YtabkgpnckaaclaaGreatDoor
open Go.RowKit
set_option linter.unusedVariables false

set_option maxHeartbeats 1600000 in
set_option maxRecDepth 100000 in
theorem sameRatio_eq (n : Bool) (v u v' u' : Value) (xs ys : List Int) (w : World) (h : Sl w v xs) (g : Sl w u ys) (h' : Sl w v' xs) (g' : Sl w u' ys) (lx : xs.length ≤ 281474976710656) (ly : ys.length ≤ 281474976710656) :
    Calls Tryz.prog 19 #[.agg #[.bool n, v, u], .agg #[.bool n, v', u']] w fun e w' => e = .returned (.bool true) ∧ Below w.heap.size w w' := by
  have HB : Hid (Below w.heap.size w ((w.alloc (.cells #[.bool n, v, u] 25)).alloc (.cells #[.bool n, v', u'] 25))) := bt (alloc_later _ _) (alloc_later _ _)
  have HN : Hid (Box ((w.alloc (.cells #[.bool n, v, u] 25)).alloc (.cells #[.bool n, v', u'] 25)) w.heap.size 25 #[.bool n, v, u]) := Box.later (Box.made w _ _) (alloc_later _ _) (by simp)
  have HM : Hid (Box ((w.alloc (.cells #[.bool n, v, u] 25)).alloc (.cells #[.bool n, v', u'] 25)) (w.heap.size + 1) 25 #[.bool n, v', u']) := by
    have e := Box.made (w.alloc (.cells #[.bool n, v, u] 25)) 25 #[.bool n, v', u']
    simp at e
    exact e
  have H1 := hid (same_sl v v' xs xs _ (h.later HB.out) (h'.later HB.out) lx lx)
  rw [decide_eq_true rfl] at H1
  have H2 := hid (fun ww (hb : Below _ ((w.alloc (.cells #[.bool n, v, u] 25)).alloc (.cells #[.bool n, v', u'] 25)) ww) => same_sl u u' ys ys ww ((g.later HB.out).later hb) ((g'.later HB.out).later hb) ly ly)
  rw [decide_eq_true rfl] at H2
  have hbb : (n == n) = true := by simp
  obtain ⟨a, ca, rfl, hr⟩ := h
  obtain ⟨b, cb, rfl, gr⟩ := g
  obtain ⟨a', ca', rfl, hr'⟩ := h'
  obtain ⟨b', cb', rfl, gr'⟩ := g'
  clear hr gr hr' gr'
  go_enter Tryz.func19, Tryz.ntmps19
  go_wp2_with fail
  refine Calls.mono H1.out ?_
  generalize ((w.alloc (.cells #[.bool n, .slice a xs.length ca, .slice b ys.length cb] 25)).alloc (.cells #[.bool n, .slice a' xs.length ca', .slice b' ys.length cb'] 25)) = X at *
  rintro e w1 ⟨rfl, hb1⟩
  obtain ⟨p0, p1, p2, _, _, _⟩ := res_box3 HN.out hb1
  obtain ⟨q0, q1, q2, _, _, _⟩ := res_box3 HM.out hb1
  have HC := hid (H2.out w1 hb1)
  have HB1 := hid (bt HB.out hb1)
  clear hb1 H1 H2
  go_wp2_with fail
  refine Calls.mono HC.out ?_
  rintro e w2 ⟨rfl, hb2⟩
  have HBN := hid (bt HB1.out hb2)
  clear hb2 HC
  go_wp2_with fail
  go_ret
  exact ⟨rfl, HBN.out⟩
end Go.Proofs.YtabkgpnckaaclaaGreatDoor

/- The table of places, from what the card lays. -/
namespace Go.Proofs.YtabkgpnckaaclaaGreatDoor
open Go.RowKit
set_option linter.unusedVariables false

theorem tabB_of {W : World} {cs : List Value} (hv : W.var? Tryz.prog "math/bits.deBruijn64tab" = some cs.toArray) (e1 : Tryz.prog.globalNamed "math/bits.deBruijn64tab" = some 1) (hcs : cs = (Lib.deBruijn64tab.map fun (n : Nat) => (n : Int)).map fun z => Value.int .u8 z) : TabB W := fun j hj => by
  unfold World.var? at hv
  rw [e1] at hv
  simp only [Option.bind_some] at hv
  unfold World.cell?
  cases hh : W.heap[(1 : Nat)]? with
  | none => rw [hh] at hv; cases hv
  | some o =>
    rw [hh] at hv
    cases o with
    | cells c t m =>
      simp only [Option.some.injEq] at hv
      subst hv
      rw [hcs]
      have hl : j < Lib.deBruijn64tab.length := hj
      simp [List.getElem?_eq_getElem hl, List.getD_eq_getElem?_getD]
    | _ => simp at hv

end Go.Proofs.YtabkgpnckaaclaaGreatDoor

/- A complex fraction, a constituent, that came in is read. -/
namespace Go.Proofs.YtabkgpnckaaclaaGreatDoor
open Go.ChangeShapes Go.WideShapes Go.ChangeAt Go.RowKit Go.Joins Go.Deep
set_option linter.unusedVariables false

/-- A slice of words that came in: nil, or a row of 'cap' cells. -/
def InRow (w : World) (a : Option Addr) (len cap : Nat) (zs : List Int) : Prop :=
  (a = none ∧ len = 0 ∧ cap = 0 ∧ zs = []) ∨
  ∃ x, a = some x ∧ len ≤ cap ∧ cap ≤ maxLen ∧ zs.length = cap ∧ (∀ i, i < zs.length → w.cell? (x.add i) = some (.int .u32 (zs.getD i 0))) ∧ ∀ n ∈ zs, (Lit.int .u32 n).wf = true
theorem arr6 {cs : Array Value} (h : cs.size = 6) : ∃ c0 c1 c2 c3 c4 c5, cs = #[c0, c1, c2, c3, c4, c5] := by
  rcases cs with ⟨l⟩
  match l, h with
  | [c0, c1, c2, c3, c4, c5], _ => exact ⟨c0, c1, c2, c3, c4, c5, rfl⟩
theorem in_row {H : Type} {enc : TypeId × Value → H} {w : World} {held : Bool} {n : Nat} {v : Value} {x : DataW H × List MemPlace} (h : DataW.trod enc Tryz.prog w 0 (fun _ => true) held n 23 [v] = some x) : ∃ a len cap zs, v = .slice a len cap ∧ InRow w a len cap zs := by
  rcases open_ints Tryz.underlying23 Tryz.underlying88 (by kernel_rfl) h with ⟨hcs, _⟩ | ⟨x, l, cc, zs, hcs, _, hl, hm, hz, _, hcell, hwz⟩
  · simp at hcs
    exact ⟨none, 0, 0, [], hcs, .inl ⟨rfl, rfl, rfl, rfl⟩⟩
  · simp at hcs
    exact ⟨some x, l, cc, zs, hcs, .inr ⟨_, rfl, hl, hm, by simpa using hz, hcell, hwz⟩⟩
theorem in_ratio {H : Type} {enc : TypeId × Value → H} {w : World} {held : Bool} {n : Nat} {v0 v1 v2 : Value} {x : DataW H × List MemPlace} (h : DataW.trod enc Tryz.prog w 0 (fun _ => true) held n 25 [v0, v1, v2] = some x) :
    ∃ s a len cap zs b lem cbp ys, v0 = .bool s ∧ v1 = .slice a len cap ∧ v2 = .slice b lem cbp ∧ InRow w a len cap zs ∧ InRow w b lem cbp ys := by
  obtain ⟨y0, y1, y2, m, _, _, t0, t1, t2⟩ := trod_struct3 Tryz.underlying25 h
  have k0 : Tryz.prog.cellsOf 4 = 1 := by kernel_rfl
  have k1 : Tryz.prog.cellsOf 23 = 1 := by kernel_rfl
  simp [k0] at t0
  simp [k1] at t1 t2
  obtain ⟨s, hs, _⟩ := DataW.trod_bool Tryz.underlying4 t0
  simp at hs
  obtain ⟨a, len, cap, zs, e1, r1⟩ := in_row t1
  obtain ⟨b, lem, cbp, ys, e2, r2⟩ := in_row t2
  exact ⟨s, a, len, cap, zs, b, lem, cbp, ys, hs, e1, e2, r1, r2⟩
theorem in_gauss {H : Type} {enc : TypeId × Value → H} {w : World} {held : Bool} {n : Nat} {v0 v1 v2 v3 v4 v5 : Value} {x : DataW H × List MemPlace} (h : DataW.trod enc Tryz.prog w 0 (fun _ => true) held n 45 [v0, v1, v2, v3, v4, v5] = some x) :
    (∃ s a len cap zs b lem cbp ys, v0 = .bool s ∧ v1 = .slice a len cap ∧ v2 = .slice b lem cbp ∧ InRow w a len cap zs ∧ InRow w b lem cbp ys) ∧ (∃ s a len cap zs b lem cbp ys, v3 = .bool s ∧ v4 = .slice a len cap ∧ v5 = .slice b lem cbp ∧ InRow w a len cap zs ∧ InRow w b lem cbp ys) := by
  obtain ⟨y0, y1, m, _, _, t0, t1⟩ := trod_struct2 Tryz.underlying45 h
  have k0 : Tryz.prog.cellsOf 25 = 3 := by kernel_rfl
  simp [k0] at t0 t1
  exact ⟨in_ratio t0, in_ratio t1⟩
set_option maxHeartbeats 800000 in
set_option maxRecDepth 100000 in
theorem open_gauss {H : Type} {enc : TypeId × Value → H} {w : World} {held : Bool} {r : Reach} {b0 : Nat} {v : Value} {d : DataW H} {p : List MemPlace} (hv : Value.okWide Tryz.prog w r b0 45 v) (h : DataW.Trod enc Tryz.prog w 0 (fun _ => true) held 45 v d p) :
    ∃ (n : Bool) (a : Option Addr) (len cap : Nat) (zs : List Int) (b : Option Addr) (lem cbp : Nat) (ys : List Int) (m : Bool) (c : Option Addr) (lec cac : Nat) (us : List Int) (e : Option Addr) (lee cae : Nat) (vs : List Int),
      v = .agg #[.bool n, .slice a len cap, .slice b lem cbp, .bool m, .slice c lec cac, .slice e lee cae] ∧ InRow w a len cap zs ∧ InRow w b lem cbp ys ∧ InRow w c lec cac us ∧ InRow w e lee cae vs := by
  obtain ⟨cs, rfl, hsz⟩ := okWide_struct Tryz.underlying45 hv
  obtain ⟨c0, c1, c2, c3, c4, c5, rfl⟩ := arr6 (hsz.trans (by kernel_rfl))
  obtain ⟨fuel, hf⟩ := h
  obtain ⟨⟨n, a, len, cap, zs, b, lem, cbp, ys, e1, e2, e3, r1, r2⟩, m2, c, lec, cac, us, e, lee, cae, vs, e4, e5, e6, r3, r4⟩ := in_gauss (v0 := c0) (v1 := c1) (v2 := c2) (v3 := c3) (v4 := c4) (v5 := c5) hf
  exact ⟨n, a, len, cap, zs, b, lem, cbp, ys, m2, c, lec, cac, us, e, lee, cae, vs, by rw [e1, e2, e3, e4, e5, e6], r1, r2, r3, r4⟩
end Go.Proofs.YtabkgpnckaaclaaGreatDoor

/- The law PartsExact answers true, and writes nothing that was there: whatever complex fraction and complex number come in. (tools/mkpartsexact.py) -/
namespace Go.Proofs.YtabkgpnckaaclaaGreatDoor
open Go.RowKit
set_option linter.unusedVariables false

theorem plentf {W : World} {base g cap : Nat} {xs : List Int} (ho : W.ownsRow base 88 1 (.slice (some ⟨g, 0, none⟩) (xs.length + 3) cap) (xs.length + 3) ((xs ++ marks 3).map (Value.int .u32))) : W.ownsRow base 88 1 (.slice (some ⟨g, 0, none⟩) xs.length cap) xs.length (xs.map (Value.int .u32)) := by
  rw [List.map_append] at ho
  exact owns_front (k := 3) ho (by simp)

set_option maxHeartbeats 1600000 in
set_option maxRecDepth 100000 in
theorem psameGauss_eq (n : Bool) (a : Option Addr) (ca : Nat) (xs : List Int) (b : Option Addr) (cb : Nat) (ys : List Int) (m : Bool) (c : Option Addr) (cc : Nat) (us : List Int) (d : Option Addr) (cd : Nat) (vs : List Int) (a2 : Option Addr) (ca2 : Nat) (b2 : Option Addr) (cb2 : Nat) (c2 : Option Addr) (cc2 : Nat) (d2 : Option Addr) (cd2 : Nat) (w : World) (sx : Sl w (.slice a xs.length ca) xs) (sy : Sl w (.slice b ys.length cb) ys) (su : Sl w (.slice c us.length cc) us) (sw : Sl w (.slice d vs.length cd) vs) (sx2 : Sl w (.slice a2 xs.length ca2) xs) (sy2 : Sl w (.slice b2 ys.length cb2) ys) (su2 : Sl w (.slice c2 us.length cc2) us) (sw2 : Sl w (.slice d2 vs.length cd2) vs) (lx : xs.length ≤ 281474976710656) (ly : ys.length ≤ 281474976710656) (lu : us.length ≤ 281474976710656) (lv : vs.length ≤ 281474976710656) :
    Calls Tryz.prog 31 #[.agg #[.bool n, .slice a xs.length ca, .slice b ys.length cb, .bool m, .slice c us.length cc, .slice d vs.length cd], .agg #[.bool n, .slice a2 xs.length ca2, .slice b2 ys.length cb2, .bool m, .slice c2 us.length cc2, .slice d2 vs.length cd2]] w fun e w' => e = .returned (.bool true) ∧ Below w.heap.size w w' := by
  obtain ⟨X, hX⟩ : ∃ X, (w.alloc (.cells #[.bool n, .slice a xs.length ca, .slice b ys.length cb, .bool m, .slice c us.length cc, .slice d vs.length cd] 45)).alloc (.cells #[.bool n, .slice a2 xs.length ca2, .slice b2 ys.length cb2, .bool m, .slice c2 us.length cc2, .slice d2 vs.length cd2] 45) = X := ⟨_, rfl⟩
  have b1 : Below w.heap.size w X := by rw [← hX]; exact bt (alloc_later _ _) (alloc_later _ _)
  have HA : Hid (Box X w.heap.size 45 #[.bool n, .slice a xs.length ca, .slice b ys.length cb, .bool m, .slice c us.length cc, .slice d vs.length cd]) := by rw [← hX]; exact (Box.made w _ _).later (alloc_later _ _) (Box.made w _ _).lt
  have HZ : Hid (Box X (w.heap.size + 1) 45 #[.bool n, .slice a2 xs.length ca2, .slice b2 ys.length cb2, .bool m, .slice c2 us.length cc2, .slice d2 vs.length cd2]) := by
    have h := Box.made (w.alloc (.cells #[.bool n, .slice a xs.length ca, .slice b ys.length cb, .bool m, .slice c us.length cc, .slice d vs.length cd] 45)) 45 #[.bool n, .slice a2 xs.length ca2, .slice b2 ys.length cb2, .bool m, .slice c2 us.length cc2, .slice d2 vs.length cd2]
    rw [show (w.alloc (.cells #[.bool n, .slice a xs.length ca, .slice b ys.length cb, .bool m, .slice c us.length cc, .slice d vs.length cd] 45)).heap.size = w.heap.size + 1 by simp, hX] at h
    exact h
  have HK : Hid (∀ V, Below X.heap.size X V → (V.cell? ⟨w.heap.size, 0, none⟩ = some (.bool n) ∧ V.cell? ⟨w.heap.size, 1, none⟩ = some (.slice a xs.length ca) ∧ V.cell? ⟨w.heap.size, 2, none⟩ = some (.slice b ys.length cb) ∧ V.cell? ⟨w.heap.size, 3, none⟩ = some (.bool m) ∧ V.cell? ⟨w.heap.size, 4, none⟩ = some (.slice c us.length cc) ∧ V.cell? ⟨w.heap.size, 5, none⟩ = some (.slice d vs.length cd)) ∧ (V.cell? ⟨w.heap.size + 1, 0, none⟩ = some (.bool n) ∧ V.cell? ⟨w.heap.size + 1, 1, none⟩ = some (.slice a2 xs.length ca2) ∧ V.cell? ⟨w.heap.size + 1, 2, none⟩ = some (.slice b2 ys.length cb2) ∧ V.cell? ⟨w.heap.size + 1, 3, none⟩ = some (.bool m) ∧ V.cell? ⟨w.heap.size + 1, 4, none⟩ = some (.slice c2 us.length cc2) ∧ V.cell? ⟨w.heap.size + 1, 5, none⟩ = some (.slice d2 vs.length cd2))) := fun V hv => ⟨Cl6.of (HA.out.later hv HA.out.lt), Cl6.of (HZ.out.later hv HZ.out.lt)⟩
  have HL1 := hid (sameRatio_eq n _ _ _ _ xs ys X (sx.later b1) (sy.later b1) (sx2.later b1) (sy2.later b1) lx ly)
  have HL2 := hid (fun V (hv : Below X.heap.size X V) => sameRatio_eq m _ _ _ _ us vs V ((su.later b1).later hv) ((sw.later b1).later hv) ((su2.later b1).later hv) ((sw2.later b1).later hv) lu lv)
  have HB1 := hid b1
  obtain ⟨⟨e0, e1, e2, e3, e4, e5⟩, ⟨i0, i1, i2, i3, i4, i5⟩⟩ := HK.out X (Below.refl _ _)
  clear sx sy su sw sx2 sy2 su2 sw2 b1 lx ly lu lv HA HZ
  go_enter Tryz.func31, Tryz.ntmps31
  go_wp2_with fail
  clear hX
  refine Calls.mono HL1.out ?_
  rintro e w1 ⟨rfl, hb1⟩
  have HL3 := hid (HL2.out w1 hb1)
  have HB2 := hid (bt HB1.out hb1)
  clear e0 e1 e2 e3 e4 e5 i0 i1 i2 i3 i4 i5 HL1 HL2
  obtain ⟨⟨e0, e1, e2, e3, e4, e5⟩, ⟨i0, i1, i2, i3, i4, i5⟩⟩ := HK.out w1 hb1
  clear hb1
  go_wp2_with fail
  refine Calls.mono HL3.out ?_
  rintro e w2 ⟨rfl, hb2⟩
  have HBN := hid (bt HB2.out hb2)
  clear HL3 hb2 e0 e1 e2 e3 e4 e5 i0 i1 i2 i3 i4 i5
  go_wp2_with fail
  go_ret
  exact ⟨rfl, HBN.out⟩

set_option maxHeartbeats 6400000 in
set_option maxRecDepth 100000 in
theorem partsExact_go (n : Bool) (a : Option Addr) (ca : Nat) (xs : List Int) (b : Option Addr) (cb : Nat) (ys : List Int) (m : Bool) (c : Option Addr) (cc : Nat) (us : List Int) (d : Option Addr) (cd : Nat) (vs : List Int) (x y : Nat) (w : World) (hx : x < 18446744073709551616) (hy : y < 18446744073709551616) (hT : TabB w) (sx : Sl w (.slice a xs.length ca) xs) (sy : Sl w (.slice b ys.length cb) ys) (su : Sl w (.slice c us.length cc) us) (sw : Sl w (.slice d vs.length cd) vs) (lx : xs.length ≤ 3000) (ly : ys.length ≤ 3000) (lu : us.length ≤ 3000) (lv : vs.length ≤ 3000) (q1 : (smK xs.length && smK ys.length) = true) (q2 : (smK us.length && smK vs.length) = true) :
    Calls Tryz.prog 4 #[.agg #[.bool n, .slice a xs.length ca, .slice b ys.length cb, .bool m, .slice c us.length cc, .slice d vs.length cd], .agg #[.int .u64 (x : Int), .int .u64 (y : Int)]] w fun e w' => e = .returned (.bool true) ∧ Below w.heap.size w w' := by
  obtain ⟨P, hP⟩ : ∃ P, (w.alloc (.cells #[.bool n, .slice a xs.length ca, .slice b ys.length cb, .bool m, .slice c us.length cc, .slice d vs.length cd] 45)).alloc (.cells #[.int .u64 (x : Int), .int .u64 (y : Int)] 47) = P := ⟨_, rfl⟩
  have b1 : Below w.heap.size w P := by rw [← hP]; exact bt (alloc_later _ _) (alloc_later _ _)
  have HW0 := hid b1
  have HZP := hid b1.size
  have HA0 : Hid (Box P w.heap.size 45 #[.bool n, .slice a xs.length ca, .slice b ys.length cb, .bool m, .slice c us.length cc, .slice d vs.length cd]) := by rw [← hP]; exact (Box.made w _ _).later (alloc_later _ _) (Box.made w _ _).lt
  have HN0 : Hid (Box P (w.heap.size + 1) 47 #[.int .u64 (x : Int), .int .u64 (y : Int)]) := by
    have h := Box.made (w.alloc (.cells #[.bool n, .slice a xs.length ca, .slice b ys.length cb, .bool m, .slice c us.length cc, .slice d vs.length cd] 45)) 47 #[.int .u64 (x : Int), .int .u64 (y : Int)]
    rw [show (w.alloc (.cells #[.bool n, .slice a xs.length ca, .slice b ys.length cb, .bool m, .slice c us.length cc, .slice d vs.length cd] 45)).heap.size = w.heap.size + 1 by simp, hP] at h
    exact h
  have SR0 := hid (And.intro (sx.later b1) (And.intro (sy.later b1) (And.intro (su.later b1) (sw.later b1))))
  have ST0 := hid (hT.later b1)
  have HXY := hid (And.intro hx hy)
  have HWD := hid (And.intro sx.wd (And.intro sy.wd (And.intro su.wd sw.wd)))
  clear sx sy su sw hT b1 hx hy
  have HS1 := hid (fun V => pSmall_any n a xs.length ca b ys.length cb V)
  have HS2 := hid (fun V => pSmall_any m c us.length cc d vs.length cd V)
  rw [q1] at HS1
  rw [q2] at HS2
  clear q1 q2
  go_enter Tryz.func4, Tryz.ntmps4
  have HC := hid (HS1.out P)
  have clA_0 : P.cell? ⟨w.heap.size, 0, none⟩ = some (.bool n) := HA0.out.cell 0
  have clA_1 : P.cell? ⟨w.heap.size, 1, none⟩ = some (.slice a xs.length ca) := HA0.out.cell 1
  have clA_2 : P.cell? ⟨w.heap.size, 2, none⟩ = some (.slice b ys.length cb) := HA0.out.cell 2
  go_wp2_with fail
  clear hP
  refine Calls.mono HC.out ?_
  rintro e w1 ⟨rfl, hb⟩
  clear clA_0 clA_1 clA_2
  clear HC
  have HW1 := hid (bt HW0.out hb)
  have Z1 := hid (Below.size hb)
  have HA1 := hid (HA0.out.later hb HA0.out.lt)
  have HN1 := hid (HN0.out.later hb HN0.out.lt)
  have SR1 := hid (And.intro (SR0.out.1.later hb) (And.intro (SR0.out.2.1.later hb) (And.intro (SR0.out.2.2.1.later hb) (SR0.out.2.2.2.later hb))))
  have ST1 := hid (ST0.out.later hb)
  clear HW0 HA0 HN0 SR0 ST0
  clear hb
  have HC := hid (HS2.out w1)
  have clA_3 : w1.cell? ⟨w.heap.size, 3, none⟩ = some (.bool m) := HA1.out.cell 3
  have clA_4 : w1.cell? ⟨w.heap.size, 4, none⟩ = some (.slice c us.length cc) := HA1.out.cell 4
  have clA_5 : w1.cell? ⟨w.heap.size, 5, none⟩ = some (.slice d vs.length cd) := HA1.out.cell 5
  go_wp2_with fail
  refine Calls.mono HC.out ?_
  rintro e w2 ⟨rfl, hb⟩
  clear clA_3 clA_4 clA_5
  clear HC
  have HW2 := hid (bt HW1.out hb)
  have Z2 := hid (Below.size hb)
  have HA2 := hid (HA1.out.later hb HA1.out.lt)
  have HN2 := hid (HN1.out.later hb HN1.out.lt)
  have SR2 := hid (And.intro (SR1.out.1.later hb) (And.intro (SR1.out.2.1.later hb) (And.intro (SR1.out.2.2.1.later hb) (SR1.out.2.2.2.later hb))))
  have ST2 := hid (ST1.out.later hb)
  clear HW1 HA1 HN1 SR1 ST1
  clear hb HS1 HS2
  have HC := hid (lentGauss_any n a ca xs b cb ys m c cc us d cd vs w2 SR2.out.1 SR2.out.2.1 SR2.out.2.2.1 SR2.out.2.2.2 (by omega) (by omega) (by omega) (by omega))
  have clA_0 : w2.cell? ⟨w.heap.size, 0, none⟩ = some (.bool n) := HA2.out.cell 0
  have clA_1 : w2.cell? ⟨w.heap.size, 1, none⟩ = some (.slice a xs.length ca) := HA2.out.cell 1
  have clA_2 : w2.cell? ⟨w.heap.size, 2, none⟩ = some (.slice b ys.length cb) := HA2.out.cell 2
  have clA_3 : w2.cell? ⟨w.heap.size, 3, none⟩ = some (.bool m) := HA2.out.cell 3
  have clA_4 : w2.cell? ⟨w.heap.size, 4, none⟩ = some (.slice c us.length cc) := HA2.out.cell 4
  have clA_5 : w2.cell? ⟨w.heap.size, 5, none⟩ = some (.slice d vs.length cd) := HA2.out.cell 5
  go_wp2_with fail
  refine Calls.mono HC.out ?_
  rintro e w3 ⟨g1, c1, g2, c2, g3, c3, g4, c4, rfl, ho, hg, hb⟩
  clear clA_0 clA_1 clA_2 clA_3 clA_4 clA_5
  clear HC
  have HW3 := hid (bt HW2.out hb)
  have Z3 := hid (Below.size hb)
  have HA3 := hid (HA2.out.later hb HA2.out.lt)
  have HN3 := hid (HN2.out.later hb HN2.out.lt)
  have SR3 := hid (And.intro (SR2.out.1.later hb) (And.intro (SR2.out.2.1.later hb) (And.intro (SR2.out.2.2.1.later hb) (SR2.out.2.2.2.later hb))))
  have ST3 := hid (ST2.out.later hb)
  clear HW2 HA2 HN2 SR2 ST2
  have HG : Hid (w2.heap.size ≤ g1 ∧ g1 < g2 ∧ g2 < g3 ∧ g3 < g4 ∧ g4 < w3.heap.size) := ⟨(ho.1.lt g1 rfl).1, hg.1, hg.2.1, hg.2.2, (ho.2.2.2.lt g4 rfl).2⟩
  have SL0 := hid ho
  clear ho hg hb
  have GP := hid (Box.made w3 45 #[.bool n, .slice (some ⟨g1, 0, none⟩) xs.length c1, .slice (some ⟨g2, 0, none⟩) ys.length c2, .bool m, .slice (some ⟨g3, 0, none⟩) us.length c3, .slice (some ⟨g4, 0, none⟩) vs.length c4])
  have LP := hid (alloc_later w3 (.cells #[.bool n, .slice (some ⟨g1, 0, none⟩) xs.length c1, .slice (some ⟨g2, 0, none⟩) ys.length c2, .bool m, .slice (some ⟨g3, 0, none⟩) us.length c3, .slice (some ⟨g4, 0, none⟩) vs.length c4] 45))
  obtain ⟨YP, hYP⟩ : ∃ YP, w3.alloc (.cells #[.bool n, .slice (some ⟨g1, 0, none⟩) xs.length c1, .slice (some ⟨g2, 0, none⟩) ys.length c2, .bool m, .slice (some ⟨g3, 0, none⟩) us.length c3, .slice (some ⟨g4, 0, none⟩) vs.length c4] 45) = YP := ⟨_, rfl⟩
  rw [hYP] at GP LP
  have HW4 := hid (bt HW3.out LP.out)
  have Z4 := hid (Below.size LP.out)
  have HA4 := hid (HA3.out.later LP.out HA3.out.lt)
  have HN4 := hid (HN3.out.later LP.out HN3.out.lt)
  have SR4 := hid (And.intro (SR3.out.1.later LP.out) (And.intro (SR3.out.2.1.later LP.out) (And.intro (SR3.out.2.2.1.later LP.out) (SR3.out.2.2.2.later LP.out))))
  have ST4 := hid (ST3.out.later LP.out)
  have SL4 := hid (And.intro (owns_later SL0.out.1 LP.out) (And.intro (owns_later SL0.out.2.1 LP.out) (And.intro (owns_later SL0.out.2.2.1 LP.out) (owns_later SL0.out.2.2.2 LP.out))))
  clear HW3 HA3 HN3 SR3 ST3 SL0
  have HC := hid (p2nearest_any n (some ⟨g1, 0, none⟩) c1 xs (some ⟨g2, 0, none⟩) c2 ys m (some ⟨g3, 0, none⟩) c3 us (some ⟨g4, 0, none⟩) c4 vs YP (Sl.own (plentf SL4.out.1) HWD.out.1) (Sl.own (plentf SL4.out.2.1) HWD.out.2.1) (Sl.own (plentf SL4.out.2.2.1) HWD.out.2.2.1) (Sl.own (plentf SL4.out.2.2.2) HWD.out.2.2.2))
  have clP_0 : YP.cell? ⟨w3.heap.size, 0, none⟩ = some (.bool n) := GP.out.cell 0
  have clP_1 : YP.cell? ⟨w3.heap.size, 1, none⟩ = some (.slice (some ⟨g1, 0, none⟩) xs.length c1) := GP.out.cell 1
  have clP_2 : YP.cell? ⟨w3.heap.size, 2, none⟩ = some (.slice (some ⟨g2, 0, none⟩) ys.length c2) := GP.out.cell 2
  have clP_3 : YP.cell? ⟨w3.heap.size, 3, none⟩ = some (.bool m) := GP.out.cell 3
  have clP_4 : YP.cell? ⟨w3.heap.size, 4, none⟩ = some (.slice (some ⟨g3, 0, none⟩) us.length c3) := GP.out.cell 4
  have clP_5 : YP.cell? ⟨w3.heap.size, 5, none⟩ = some (.slice (some ⟨g4, 0, none⟩) vs.length c4) := GP.out.cell 5
  go_wp2_with fail
  clear hYP
  refine Calls.mono HC.out ?_
  rintro e w4 ⟨u1, u2, f1, rfl, h1, hb⟩
  clear clP_0 clP_1 clP_2 clP_3 clP_4 clP_5
  clear HC
  have HW5 := hid (bt HW4.out hb)
  have Z5 := hid (Below.size hb)
  have HA5 := hid (HA4.out.later hb HA4.out.lt)
  have HN5 := hid (HN4.out.later hb HN4.out.lt)
  have HP5 := hid (GP.out.later hb GP.out.lt)
  have SR5 := hid (And.intro (SR4.out.1.later hb) (And.intro (SR4.out.2.1.later hb) (And.intro (SR4.out.2.2.1.later hb) (SR4.out.2.2.2.later hb))))
  have ST5 := hid (ST4.out.later hb)
  have SL5 := hid (And.intro (owns_later SL4.out.1 hb) (And.intro (owns_later SL4.out.2.1 hb) (And.intro (owns_later SL4.out.2.2.1 hb) (owns_later SL4.out.2.2.2 hb))))
  clear HW4 HA4 HN4 GP SR4 ST4 SL4
  have HN1 := hid h1
  clear h1 hb
  have HC := hid (d2nearest_any n a ca xs b cb ys m c cc us d cd vs w4 SR5.out.1 SR5.out.2.1 SR5.out.2.2.1 SR5.out.2.2.2 (by omega) (by omega) (by omega) (by omega))
  have clA_0 : w4.cell? ⟨w.heap.size, 0, none⟩ = some (.bool n) := HA5.out.cell 0
  have clA_1 : w4.cell? ⟨w.heap.size, 1, none⟩ = some (.slice a xs.length ca) := HA5.out.cell 1
  have clA_2 : w4.cell? ⟨w.heap.size, 2, none⟩ = some (.slice b ys.length cb) := HA5.out.cell 2
  have clA_3 : w4.cell? ⟨w.heap.size, 3, none⟩ = some (.bool m) := HA5.out.cell 3
  have clA_4 : w4.cell? ⟨w.heap.size, 4, none⟩ = some (.slice c us.length cc) := HA5.out.cell 4
  have clA_5 : w4.cell? ⟨w.heap.size, 5, none⟩ = some (.slice d vs.length cd) := HA5.out.cell 5
  go_wp2_with fail
  refine Calls.mono HC.out ?_
  rintro e w5 ⟨u3, u4, f2, rfl, h2, hb⟩
  clear clA_0 clA_1 clA_2 clA_3 clA_4 clA_5
  clear HC
  have HW6 := hid (bt HW5.out hb)
  have Z6 := hid (Below.size hb)
  have HA6 := hid (HA5.out.later hb HA5.out.lt)
  have HN6 := hid (HN5.out.later hb HN5.out.lt)
  have HP6 := hid (HP5.out.later hb HP5.out.lt)
  have SR6 := hid (And.intro (SR5.out.1.later hb) (And.intro (SR5.out.2.1.later hb) (And.intro (SR5.out.2.2.1.later hb) (SR5.out.2.2.2.later hb))))
  have ST6 := hid (ST5.out.later hb)
  have SL6 := hid (And.intro (owns_later SL5.out.1 hb) (And.intro (owns_later SL5.out.2.1 hb) (And.intro (owns_later SL5.out.2.2.1 hb) (owns_later SL5.out.2.2.2 hb))))
  clear HW5 HA5 HN5 HP5 SR5 ST5 SL5
  obtain ⟨rfl, rfl, rfl⟩ := HN1.out.one h2
  clear h2 hb HN1
  have HC := hid (plawZ_any x y w5)
  have clN_0 : w5.cell? ⟨w.heap.size + 1, 0, none⟩ = some (.int .u64 (x : Int)) := HN6.out.cell 0
  have clN_1 : w5.cell? ⟨w.heap.size + 1, 1, none⟩ = some (.int .u64 (y : Int)) := HN6.out.cell 1
  go_wp2_with fail
  refine Calls.mono HC.out ?_
  rintro e w6 ⟨rfl, hb⟩
  clear clN_0 clN_1
  clear HC
  have HW7 := hid (bt HW6.out hb)
  have Z7 := hid (Below.size hb)
  have HA7 := hid (HA6.out.later hb HA6.out.lt)
  have HN7 := hid (HN6.out.later hb HN6.out.lt)
  have HP7 := hid (HP6.out.later hb HP6.out.lt)
  have SR7 := hid (And.intro (SR6.out.1.later hb) (And.intro (SR6.out.2.1.later hb) (And.intro (SR6.out.2.2.1.later hb) (SR6.out.2.2.2.later hb))))
  have ST7 := hid (ST6.out.later hb)
  have SL7 := hid (And.intro (owns_later SL6.out.1 hb) (And.intro (owns_later SL6.out.2.1 hb) (And.intro (owns_later SL6.out.2.2.1 hb) (owns_later SL6.out.2.2.2 hb))))
  clear HW6 HA6 HN6 HP6 SR6 ST6 SL6
  clear hb
  have HC := hid (pexact_all x y w6 HXY.out.1 HXY.out.2 ST7.out)
  go_wp2_with fail
  refine Calls.mono HC.out ?_
  rintro e w7 ⟨s1, e1, k1, f1, l1, z1, d1, t1, p1, q1, o1, r1, z2, d2, h1, rfl, ho, ht, hap, hb⟩
  clear HC
  have HW8 := hid (bt HW7.out hb)
  have Z8 := hid (Below.size hb)
  have HA8 := hid (HA7.out.later hb HA7.out.lt)
  have HN8 := hid (HN7.out.later hb HN7.out.lt)
  have HP8 := hid (HP7.out.later hb HP7.out.lt)
  have SR8 := hid (And.intro (SR7.out.1.later hb) (And.intro (SR7.out.2.1.later hb) (And.intro (SR7.out.2.2.1.later hb) (SR7.out.2.2.2.later hb))))
  have ST8 := hid (ST7.out.later hb)
  have SL8 := hid (And.intro (owns_later SL7.out.1 hb) (And.intro (owns_later SL7.out.2.1 hb) (And.intro (owns_later SL7.out.2.2.1 hb) (owns_later SL7.out.2.2.2 hb))))
  clear HW7 HA7 HN7 HP7 SR7 ST7 SL7
  have HT1 := hid ht
  have SO1 := hid ho
  have HI1 := hid (And.intro hap (And.intro (Within.owns ho.1) (And.intro (Within.owns ho.2.1) (And.intro (Within.owns ho.2.2.1) (Within.owns ho.2.2.2)))))
  clear ho ht hb hap
  have GB := hid (Box.made w7 45 #[.bool s1, .slice e1 z1.length k1, .slice f1 d1.length l1, .bool t1, .slice p1 z2.length q1, .slice o1 d2.length r1])
  have LB := hid (alloc_later w7 (.cells #[.bool s1, .slice e1 z1.length k1, .slice f1 d1.length l1, .bool t1, .slice p1 z2.length q1, .slice o1 d2.length r1] 45))
  obtain ⟨YB, hYB⟩ : ∃ YB, w7.alloc (.cells #[.bool s1, .slice e1 z1.length k1, .slice f1 d1.length l1, .bool t1, .slice p1 z2.length q1, .slice o1 d2.length r1] 45) = YB := ⟨_, rfl⟩
  rw [hYB] at GB LB
  have HW9 := hid (bt HW8.out LB.out)
  have Z9 := hid (Below.size LB.out)
  have HA9 := hid (HA8.out.later LB.out HA8.out.lt)
  have HN9 := hid (HN8.out.later LB.out HN8.out.lt)
  have HP9 := hid (HP8.out.later LB.out HP8.out.lt)
  have SR9 := hid (And.intro (SR8.out.1.later LB.out) (And.intro (SR8.out.2.1.later LB.out) (And.intro (SR8.out.2.2.1.later LB.out) (SR8.out.2.2.2.later LB.out))))
  have ST9 := hid (ST8.out.later LB.out)
  have SL9 := hid (And.intro (owns_later SL8.out.1 LB.out) (And.intro (owns_later SL8.out.2.1 LB.out) (And.intro (owns_later SL8.out.2.2.1 LB.out) (owns_later SL8.out.2.2.2 LB.out))))
  have SO19 := hid (And.intro (owns_later SO1.out.1 LB.out) (And.intro (owns_later SO1.out.2.1 LB.out) (And.intro (owns_later SO1.out.2.2.1 LB.out) (owns_later SO1.out.2.2.2 LB.out))))
  clear HW8 HA8 HN8 HP8 SR8 ST8 SL8 SO1
  have HC := hid (plawZ_any x y YB)
  have clN_0 : YB.cell? ⟨w.heap.size + 1, 0, none⟩ = some (.int .u64 (x : Int)) := HN9.out.cell 0
  have clN_1 : YB.cell? ⟨w.heap.size + 1, 1, none⟩ = some (.int .u64 (y : Int)) := HN9.out.cell 1
  go_wp2_with fail
  clear hYB
  refine Calls.mono HC.out ?_
  rintro e w8 ⟨rfl, hb⟩
  clear clN_0 clN_1
  clear HC
  have HW10 := hid (bt HW9.out hb)
  have Z10 := hid (Below.size hb)
  have HA10 := hid (HA9.out.later hb HA9.out.lt)
  have HN10 := hid (HN9.out.later hb HN9.out.lt)
  have HP10 := hid (HP9.out.later hb HP9.out.lt)
  have HB10 := hid (GB.out.later hb GB.out.lt)
  have SR10 := hid (And.intro (SR9.out.1.later hb) (And.intro (SR9.out.2.1.later hb) (And.intro (SR9.out.2.2.1.later hb) (SR9.out.2.2.2.later hb))))
  have ST10 := hid (ST9.out.later hb)
  have SL10 := hid (And.intro (owns_later SL9.out.1 hb) (And.intro (owns_later SL9.out.2.1 hb) (And.intro (owns_later SL9.out.2.2.1 hb) (owns_later SL9.out.2.2.2 hb))))
  have SO110 := hid (And.intro (owns_later SO19.out.1 hb) (And.intro (owns_later SO19.out.2.1 hb) (And.intro (owns_later SO19.out.2.2.1 hb) (owns_later SO19.out.2.2.2 hb))))
  clear HW9 HA9 HN9 HP9 GB SR9 ST9 SL9 SO19
  clear hb
  have HC := hid (pexact_all x y w8 HXY.out.1 HXY.out.2 ST10.out)
  go_wp2_with fail
  refine Calls.mono HC.out ?_
  rintro e w9 ⟨s2_, e2, k2, f2, l2, z2_, d2_, t2_, p2, q2, o2, r2, y2_, v2_, h2_, rfl, ho, ht, hap, hb⟩
  clear HC
  have HW11 := hid (bt HW10.out hb)
  have Z11 := hid (Below.size hb)
  have HA11 := hid (HA10.out.later hb HA10.out.lt)
  have HN11 := hid (HN10.out.later hb HN10.out.lt)
  have HP11 := hid (HP10.out.later hb HP10.out.lt)
  have HB11 := hid (HB10.out.later hb HB10.out.lt)
  have SR11 := hid (And.intro (SR10.out.1.later hb) (And.intro (SR10.out.2.1.later hb) (And.intro (SR10.out.2.2.1.later hb) (SR10.out.2.2.2.later hb))))
  have ST11 := hid (ST10.out.later hb)
  have SL11 := hid (And.intro (owns_later SL10.out.1 hb) (And.intro (owns_later SL10.out.2.1 hb) (And.intro (owns_later SL10.out.2.2.1 hb) (owns_later SL10.out.2.2.2 hb))))
  have SO111 := hid (And.intro (owns_later SO110.out.1 hb) (And.intro (owns_later SO110.out.2.1 hb) (And.intro (owns_later SO110.out.2.2.1 hb) (owns_later SO110.out.2.2.2 hb))))
  clear HW10 HA10 HN10 HP10 HB10 SR10 ST10 SL10 SO110
  obtain ⟨rfl, rfl, rfl, rfl, rfl, rfl, rfl⟩ := HT1.out.one ht
  have SO2 := hid ho
  have HI2 := hid (And.intro hap (And.intro (Within.owns ho.1) (And.intro (Within.owns ho.2.1) (And.intro (Within.owns ho.2.2.1) (Within.owns ho.2.2.2)))))
  clear ho ht hb hap
  have GC := hid (Box.made w9 45 #[.bool s1, .slice e2 z1.length k2, .slice f2 d1.length l2, .bool t1, .slice p2 z2.length q2, .slice o2 d2.length r2])
  have LC := hid (alloc_later w9 (.cells #[.bool s1, .slice e2 z1.length k2, .slice f2 d1.length l2, .bool t1, .slice p2 z2.length q2, .slice o2 d2.length r2] 45))
  obtain ⟨YC, hYC⟩ : ∃ YC, w9.alloc (.cells #[.bool s1, .slice e2 z1.length k2, .slice f2 d1.length l2, .bool t1, .slice p2 z2.length q2, .slice o2 d2.length r2] 45) = YC := ⟨_, rfl⟩
  rw [hYC] at GC LC
  have HW12 := hid (bt HW11.out LC.out)
  have Z12 := hid (Below.size LC.out)
  have HA12 := hid (HA11.out.later LC.out HA11.out.lt)
  have HN12 := hid (HN11.out.later LC.out HN11.out.lt)
  have HP12 := hid (HP11.out.later LC.out HP11.out.lt)
  have HB12 := hid (HB11.out.later LC.out HB11.out.lt)
  have SR12 := hid (And.intro (SR11.out.1.later LC.out) (And.intro (SR11.out.2.1.later LC.out) (And.intro (SR11.out.2.2.1.later LC.out) (SR11.out.2.2.2.later LC.out))))
  have ST12 := hid (ST11.out.later LC.out)
  have SL12 := hid (And.intro (owns_later SL11.out.1 LC.out) (And.intro (owns_later SL11.out.2.1 LC.out) (And.intro (owns_later SL11.out.2.2.1 LC.out) (owns_later SL11.out.2.2.2 LC.out))))
  have SO112 := hid (And.intro (owns_later SO111.out.1 LC.out) (And.intro (owns_later SO111.out.2.1 LC.out) (And.intro (owns_later SO111.out.2.2.1 LC.out) (owns_later SO111.out.2.2.2 LC.out))))
  have SO212 := hid (And.intro (owns_later SO2.out.1 LC.out) (And.intro (owns_later SO2.out.2.1 LC.out) (And.intro (owns_later SO2.out.2.2.1 LC.out) (owns_later SO2.out.2.2.2 LC.out))))
  clear HW11 HA11 HN11 HP11 HB11 SR11 ST11 SL11 SO111 SO2
  have HC := hid (plawZ_any x y YC)
  have clN_0 : YC.cell? ⟨w.heap.size + 1, 0, none⟩ = some (.int .u64 (x : Int)) := HN12.out.cell 0
  have clN_1 : YC.cell? ⟨w.heap.size + 1, 1, none⟩ = some (.int .u64 (y : Int)) := HN12.out.cell 1
  go_wp2_with fail
  clear hYC
  refine Calls.mono HC.out ?_
  rintro e wA ⟨rfl, hb⟩
  clear clN_0 clN_1
  clear HC
  have HW13 := hid (bt HW12.out hb)
  have Z13 := hid (Below.size hb)
  have HA13 := hid (HA12.out.later hb HA12.out.lt)
  have HN13 := hid (HN12.out.later hb HN12.out.lt)
  have HP13 := hid (HP12.out.later hb HP12.out.lt)
  have HB13 := hid (HB12.out.later hb HB12.out.lt)
  have HC13 := hid (GC.out.later hb GC.out.lt)
  have SR13 := hid (And.intro (SR12.out.1.later hb) (And.intro (SR12.out.2.1.later hb) (And.intro (SR12.out.2.2.1.later hb) (SR12.out.2.2.2.later hb))))
  have ST13 := hid (ST12.out.later hb)
  have SL13 := hid (And.intro (owns_later SL12.out.1 hb) (And.intro (owns_later SL12.out.2.1 hb) (And.intro (owns_later SL12.out.2.2.1 hb) (owns_later SL12.out.2.2.2 hb))))
  have SO113 := hid (And.intro (owns_later SO112.out.1 hb) (And.intro (owns_later SO112.out.2.1 hb) (And.intro (owns_later SO112.out.2.2.1 hb) (owns_later SO112.out.2.2.2 hb))))
  have SO213 := hid (And.intro (owns_later SO212.out.1 hb) (And.intro (owns_later SO212.out.2.1 hb) (And.intro (owns_later SO212.out.2.2.1 hb) (owns_later SO212.out.2.2.2 hb))))
  clear HW12 HA12 HN12 HP12 HB12 GC SR12 ST12 SL12 SO112 SO212
  clear hb
  have HC := hid (dexact_all x y wA HXY.out.1 HXY.out.2 ST13.out)
  go_wp2_with fail
  refine Calls.mono HC.out ?_
  rintro e wB ⟨s3_, e3, k3, f3, l3, z3_, d3_, t3_, p3, q3, o3, r3, y3_, v3_, h3_, rfl, ho, ht, hb⟩
  clear HC
  have HW14 := hid (bt HW13.out hb)
  have Z14 := hid (Below.size hb)
  have HA14 := hid (HA13.out.later hb HA13.out.lt)
  have HN14 := hid (HN13.out.later hb HN13.out.lt)
  have HP14 := hid (HP13.out.later hb HP13.out.lt)
  have HB14 := hid (HB13.out.later hb HB13.out.lt)
  have HC14 := hid (HC13.out.later hb HC13.out.lt)
  have SR14 := hid (And.intro (SR13.out.1.later hb) (And.intro (SR13.out.2.1.later hb) (And.intro (SR13.out.2.2.1.later hb) (SR13.out.2.2.2.later hb))))
  have ST14 := hid (ST13.out.later hb)
  have SL14 := hid (And.intro (owns_later SL13.out.1 hb) (And.intro (owns_later SL13.out.2.1 hb) (And.intro (owns_later SL13.out.2.2.1 hb) (owns_later SL13.out.2.2.2 hb))))
  have SO114 := hid (And.intro (owns_later SO113.out.1 hb) (And.intro (owns_later SO113.out.2.1 hb) (And.intro (owns_later SO113.out.2.2.1 hb) (owns_later SO113.out.2.2.2 hb))))
  have SO214 := hid (And.intro (owns_later SO213.out.1 hb) (And.intro (owns_later SO213.out.2.1 hb) (And.intro (owns_later SO213.out.2.2.1 hb) (owns_later SO213.out.2.2.2 hb))))
  clear HW13 HA13 HN13 HP13 HB13 HC13 SR13 ST13 SL13 SO113 SO213
  obtain ⟨rfl, rfl, rfl, rfl, rfl, rfl, rfl⟩ := HT1.out.one ht
  have SD3 := hid ho
  clear ho ht hb
  have GD := hid (Box.made wB 45 #[.bool s1, .slice e3 z1.length k3, .slice f3 d1.length l3, .bool t1, .slice p3 z2.length q3, .slice o3 d2.length r3])
  have LD := hid (alloc_later wB (.cells #[.bool s1, .slice e3 z1.length k3, .slice f3 d1.length l3, .bool t1, .slice p3 z2.length q3, .slice o3 d2.length r3] 45))
  obtain ⟨YD, hYD⟩ : ∃ YD, wB.alloc (.cells #[.bool s1, .slice e3 z1.length k3, .slice f3 d1.length l3, .bool t1, .slice p3 z2.length q3, .slice o3 d2.length r3] 45) = YD := ⟨_, rfl⟩
  rw [hYD] at GD LD
  have HW15 := hid (bt HW14.out LD.out)
  have Z15 := hid (Below.size LD.out)
  have HA15 := hid (HA14.out.later LD.out HA14.out.lt)
  have HN15 := hid (HN14.out.later LD.out HN14.out.lt)
  have HP15 := hid (HP14.out.later LD.out HP14.out.lt)
  have HB15 := hid (HB14.out.later LD.out HB14.out.lt)
  have HC15 := hid (HC14.out.later LD.out HC14.out.lt)
  have SR15 := hid (And.intro (SR14.out.1.later LD.out) (And.intro (SR14.out.2.1.later LD.out) (And.intro (SR14.out.2.2.1.later LD.out) (SR14.out.2.2.2.later LD.out))))
  have ST15 := hid (ST14.out.later LD.out)
  have SL15 := hid (And.intro (owns_later SL14.out.1 LD.out) (And.intro (owns_later SL14.out.2.1 LD.out) (And.intro (owns_later SL14.out.2.2.1 LD.out) (owns_later SL14.out.2.2.2 LD.out))))
  have SO115 := hid (And.intro (owns_later SO114.out.1 LD.out) (And.intro (owns_later SO114.out.2.1 LD.out) (And.intro (owns_later SO114.out.2.2.1 LD.out) (owns_later SO114.out.2.2.2 LD.out))))
  have SO215 := hid (And.intro (owns_later SO214.out.1 LD.out) (And.intro (owns_later SO214.out.2.1 LD.out) (And.intro (owns_later SO214.out.2.2.1 LD.out) (owns_later SO214.out.2.2.2 LD.out))))
  have SD315 := hid (And.intro (SD3.out.1.later LD.out) (And.intro (SD3.out.2.1.later LD.out) (And.intro (SD3.out.2.2.1.later LD.out) (SD3.out.2.2.2.later LD.out))))
  clear HW14 HA14 HN14 HP14 HB14 HC14 SR14 ST14 SL14 SO114 SO214 SD3
  have HF := hid HT1.out.few
  have HC := hid (pSameNumber u1 u2 YD)
  go_wp2_with fail
  clear hYD
  refine Calls.mono HC.out ?_
  rintro e YD ⟨rfl, rfl⟩
  clear HC
  have HC := hid (psameGauss_eq s1 e1 k1 z1 f1 l1 d1 t1 p1 q1 z2 o1 r1 d2 e3 k3 f3 l3 p3 q3 o3 r3 YD (Sl.own SO115.out.1 HF.out.2.1) (Sl.own SO115.out.2.1 HF.out.2.2.1) (Sl.own SO115.out.2.2.1 HF.out.2.2.2.1) (Sl.own SO115.out.2.2.2 HF.out.2.2.2.2) SD315.out.1 SD315.out.2.1 SD315.out.2.2.1 SD315.out.2.2.2 (by have := HF.out.1; omega) (by have := HF.out.1; omega) (by have := HF.out.1; omega) (by have := HF.out.1; omega))
  have clB_0 : YD.cell? ⟨w7.heap.size, 0, none⟩ = some (.bool s1) := HB15.out.cell 0
  have clB_1 : YD.cell? ⟨w7.heap.size, 1, none⟩ = some (.slice e1 z1.length k1) := HB15.out.cell 1
  have clB_2 : YD.cell? ⟨w7.heap.size, 2, none⟩ = some (.slice f1 d1.length l1) := HB15.out.cell 2
  have clB_3 : YD.cell? ⟨w7.heap.size, 3, none⟩ = some (.bool t1) := HB15.out.cell 3
  have clB_4 : YD.cell? ⟨w7.heap.size, 4, none⟩ = some (.slice p1 z2.length q1) := HB15.out.cell 4
  have clB_5 : YD.cell? ⟨w7.heap.size, 5, none⟩ = some (.slice o1 d2.length r1) := HB15.out.cell 5
  have clD_0 : YD.cell? ⟨wB.heap.size, 0, none⟩ = some (.bool s1) := GD.out.cell 0
  have clD_1 : YD.cell? ⟨wB.heap.size, 1, none⟩ = some (.slice e3 z1.length k3) := GD.out.cell 1
  have clD_2 : YD.cell? ⟨wB.heap.size, 2, none⟩ = some (.slice f3 d1.length l3) := GD.out.cell 2
  have clD_3 : YD.cell? ⟨wB.heap.size, 3, none⟩ = some (.bool t1) := GD.out.cell 3
  have clD_4 : YD.cell? ⟨wB.heap.size, 4, none⟩ = some (.slice p3 z2.length q3) := GD.out.cell 4
  have clD_5 : YD.cell? ⟨wB.heap.size, 5, none⟩ = some (.slice o3 d2.length r3) := GD.out.cell 5
  go_wp2_with fail
  refine Calls.mono HC.out ?_
  rintro e wC ⟨rfl, hb⟩
  clear clB_0 clB_1 clB_2 clB_3 clB_4 clB_5 clD_0 clD_1 clD_2 clD_3 clD_4 clD_5
  clear HC
  have HW16 := hid (bt HW15.out hb)
  have Z16 := hid (Below.size hb)
  have HA16 := hid (HA15.out.later hb HA15.out.lt)
  have HN16 := hid (HN15.out.later hb HN15.out.lt)
  have HP16 := hid (HP15.out.later hb HP15.out.lt)
  have HB16 := hid (HB15.out.later hb HB15.out.lt)
  have HC16 := hid (HC15.out.later hb HC15.out.lt)
  have HD16 := hid (GD.out.later hb GD.out.lt)
  have SR16 := hid (And.intro (SR15.out.1.later hb) (And.intro (SR15.out.2.1.later hb) (And.intro (SR15.out.2.2.1.later hb) (SR15.out.2.2.2.later hb))))
  have ST16 := hid (ST15.out.later hb)
  have SL16 := hid (And.intro (owns_later SL15.out.1 hb) (And.intro (owns_later SL15.out.2.1 hb) (And.intro (owns_later SL15.out.2.2.1 hb) (owns_later SL15.out.2.2.2 hb))))
  have SO116 := hid (And.intro (owns_later SO115.out.1 hb) (And.intro (owns_later SO115.out.2.1 hb) (And.intro (owns_later SO115.out.2.2.1 hb) (owns_later SO115.out.2.2.2 hb))))
  have SO216 := hid (And.intro (owns_later SO215.out.1 hb) (And.intro (owns_later SO215.out.2.1 hb) (And.intro (owns_later SO215.out.2.2.1 hb) (owns_later SO215.out.2.2.2 hb))))
  have SD316 := hid (And.intro (SD315.out.1.later hb) (And.intro (SD315.out.2.1.later hb) (And.intro (SD315.out.2.2.1.later hb) (SD315.out.2.2.2.later hb))))
  clear HW15 HA15 HN15 HP15 HB15 HC15 GD SR15 ST15 SL15 SO115 SO215 SD315
  clear hb
  have HC := hid (psameGauss_eq s1 e2 k2 z1 f2 l2 d1 t1 p2 q2 z2 o2 r2 d2 e3 k3 f3 l3 p3 q3 o3 r3 wC (Sl.own SO216.out.1 HF.out.2.1) (Sl.own SO216.out.2.1 HF.out.2.2.1) (Sl.own SO216.out.2.2.1 HF.out.2.2.2.1) (Sl.own SO216.out.2.2.2 HF.out.2.2.2.2) SD316.out.1 SD316.out.2.1 SD316.out.2.2.1 SD316.out.2.2.2 (by have := HF.out.1; omega) (by have := HF.out.1; omega) (by have := HF.out.1; omega) (by have := HF.out.1; omega))
  have clC_0 : wC.cell? ⟨w9.heap.size, 0, none⟩ = some (.bool s1) := HC16.out.cell 0
  have clC_1 : wC.cell? ⟨w9.heap.size, 1, none⟩ = some (.slice e2 z1.length k2) := HC16.out.cell 1
  have clC_2 : wC.cell? ⟨w9.heap.size, 2, none⟩ = some (.slice f2 d1.length l2) := HC16.out.cell 2
  have clC_3 : wC.cell? ⟨w9.heap.size, 3, none⟩ = some (.bool t1) := HC16.out.cell 3
  have clC_4 : wC.cell? ⟨w9.heap.size, 4, none⟩ = some (.slice p2 z2.length q2) := HC16.out.cell 4
  have clC_5 : wC.cell? ⟨w9.heap.size, 5, none⟩ = some (.slice o2 d2.length r2) := HC16.out.cell 5
  have clD_0 : wC.cell? ⟨wB.heap.size, 0, none⟩ = some (.bool s1) := HD16.out.cell 0
  have clD_1 : wC.cell? ⟨wB.heap.size, 1, none⟩ = some (.slice e3 z1.length k3) := HD16.out.cell 1
  have clD_2 : wC.cell? ⟨wB.heap.size, 2, none⟩ = some (.slice f3 d1.length l3) := HD16.out.cell 2
  have clD_3 : wC.cell? ⟨wB.heap.size, 3, none⟩ = some (.bool t1) := HD16.out.cell 3
  have clD_4 : wC.cell? ⟨wB.heap.size, 4, none⟩ = some (.slice p3 z2.length q3) := HD16.out.cell 4
  have clD_5 : wC.cell? ⟨wB.heap.size, 5, none⟩ = some (.slice o3 d2.length r3) := HD16.out.cell 5
  go_wp2_with fail
  refine Calls.mono HC.out ?_
  rintro e wD ⟨rfl, hb⟩
  clear clC_0 clC_1 clC_2 clC_3 clC_4 clC_5 clD_0 clD_1 clD_2 clD_3 clD_4 clD_5
  clear HC
  have HW17 := hid (bt HW16.out hb)
  have Z17 := hid (Below.size hb)
  have HA17 := hid (HA16.out.later hb HA16.out.lt)
  have HN17 := hid (HN16.out.later hb HN16.out.lt)
  have HP17 := hid (HP16.out.later hb HP16.out.lt)
  have HB17 := hid (HB16.out.later hb HB16.out.lt)
  have HC17 := hid (HC16.out.later hb HC16.out.lt)
  have HD17 := hid (HD16.out.later hb HD16.out.lt)
  have SR17 := hid (And.intro (SR16.out.1.later hb) (And.intro (SR16.out.2.1.later hb) (And.intro (SR16.out.2.2.1.later hb) (SR16.out.2.2.2.later hb))))
  have ST17 := hid (ST16.out.later hb)
  have SL17 := hid (And.intro (owns_later SL16.out.1 hb) (And.intro (owns_later SL16.out.2.1 hb) (And.intro (owns_later SL16.out.2.2.1 hb) (owns_later SL16.out.2.2.2 hb))))
  have SO117 := hid (And.intro (owns_later SO116.out.1 hb) (And.intro (owns_later SO116.out.2.1 hb) (And.intro (owns_later SO116.out.2.2.1 hb) (owns_later SO116.out.2.2.2 hb))))
  have SO217 := hid (And.intro (owns_later SO216.out.1 hb) (And.intro (owns_later SO216.out.2.1 hb) (And.intro (owns_later SO216.out.2.2.1 hb) (owns_later SO216.out.2.2.2 hb))))
  have SD317 := hid (And.intro (SD316.out.1.later hb) (And.intro (SD316.out.2.1.later hb) (And.intro (SD316.out.2.2.1.later hb) (SD316.out.2.2.2.later hb))))
  clear HW16 HA16 HN16 HP16 HB16 HC16 HD16 SR16 ST16 SL16 SO116 SO216 SD316
  clear hb
  have HC := hid (keptGauss_any n a ca xs b cb ys m c cc us d cd vs g1 c1 g2 c2 g3 c3 g4 c4 _ wD SR17.out.1 SR17.out.2.1 SR17.out.2.2.1 SR17.out.2.2.2 (by omega) (by omega) (by omega) (by omega) SL17.out.1 SL17.out.2.1 SL17.out.2.2.1 SL17.out.2.2.2)
  have clP_0 : wD.cell? ⟨w3.heap.size, 0, none⟩ = some (.bool n) := HP17.out.cell 0
  have clP_1 : wD.cell? ⟨w3.heap.size, 1, none⟩ = some (.slice (some ⟨g1, 0, none⟩) xs.length c1) := HP17.out.cell 1
  have clP_2 : wD.cell? ⟨w3.heap.size, 2, none⟩ = some (.slice (some ⟨g2, 0, none⟩) ys.length c2) := HP17.out.cell 2
  have clP_3 : wD.cell? ⟨w3.heap.size, 3, none⟩ = some (.bool m) := HP17.out.cell 3
  have clP_4 : wD.cell? ⟨w3.heap.size, 4, none⟩ = some (.slice (some ⟨g3, 0, none⟩) us.length c3) := HP17.out.cell 4
  have clP_5 : wD.cell? ⟨w3.heap.size, 5, none⟩ = some (.slice (some ⟨g4, 0, none⟩) vs.length c4) := HP17.out.cell 5
  have clA_0 : wD.cell? ⟨w.heap.size, 0, none⟩ = some (.bool n) := HA17.out.cell 0
  have clA_1 : wD.cell? ⟨w.heap.size, 1, none⟩ = some (.slice a xs.length ca) := HA17.out.cell 1
  have clA_2 : wD.cell? ⟨w.heap.size, 2, none⟩ = some (.slice b ys.length cb) := HA17.out.cell 2
  have clA_3 : wD.cell? ⟨w.heap.size, 3, none⟩ = some (.bool m) := HA17.out.cell 3
  have clA_4 : wD.cell? ⟨w.heap.size, 4, none⟩ = some (.slice c us.length cc) := HA17.out.cell 4
  have clA_5 : wD.cell? ⟨w.heap.size, 5, none⟩ = some (.slice d vs.length cd) := HA17.out.cell 5
  go_wp2_with fail
  refine Calls.mono HC.out ?_
  rintro e wE ⟨rfl, hb⟩
  clear clP_0 clP_1 clP_2 clP_3 clP_4 clP_5 clA_0 clA_1 clA_2 clA_3 clA_4 clA_5
  clear HC
  have HW18 := hid (bt HW17.out hb)
  have Z18 := hid (Below.size hb)
  have HA18 := hid (HA17.out.later hb HA17.out.lt)
  have HN18 := hid (HN17.out.later hb HN17.out.lt)
  have HP18 := hid (HP17.out.later hb HP17.out.lt)
  have HB18 := hid (HB17.out.later hb HB17.out.lt)
  have HC18 := hid (HC17.out.later hb HC17.out.lt)
  have HD18 := hid (HD17.out.later hb HD17.out.lt)
  have SR18 := hid (And.intro (SR17.out.1.later hb) (And.intro (SR17.out.2.1.later hb) (And.intro (SR17.out.2.2.1.later hb) (SR17.out.2.2.2.later hb))))
  have ST18 := hid (ST17.out.later hb)
  have SL18 := hid (And.intro (owns_later SL17.out.1 hb) (And.intro (owns_later SL17.out.2.1 hb) (And.intro (owns_later SL17.out.2.2.1 hb) (owns_later SL17.out.2.2.2 hb))))
  have SO118 := hid (And.intro (owns_later SO117.out.1 hb) (And.intro (owns_later SO117.out.2.1 hb) (And.intro (owns_later SO117.out.2.2.1 hb) (owns_later SO117.out.2.2.2 hb))))
  have SO218 := hid (And.intro (owns_later SO217.out.1 hb) (And.intro (owns_later SO217.out.2.1 hb) (And.intro (owns_later SO217.out.2.2.1 hb) (owns_later SO217.out.2.2.2 hb))))
  have SD318 := hid (And.intro (SD317.out.1.later hb) (And.intro (SD317.out.2.1.later hb) (And.intro (SD317.out.2.2.1.later hb) (SD317.out.2.2.2.later hb))))
  clear HW17 HA17 HN17 HP17 HB17 HC17 HD17 SR17 ST17 SL17 SO117 SO217 SD317
  clear hb
  have hszB := HW18.out.size
  have hF := HF.out.1
  have z1_ := Z1.out
  have z2_ := Z2.out
  have z3_ := Z3.out
  have z4_ := Z4.out
  have z5_ := Z5.out
  have z6_ := Z6.out
  have z7_ := Z7.out
  have z8_ := Z8.out
  have z9_ := Z9.out
  have z10_ := Z10.out
  have z11_ := Z11.out
  have z12_ := Z12.out
  have z13_ := Z13.out
  have z14_ := Z14.out
  have z15_ := Z15.out
  have z16_ := Z16.out
  have z17_ := Z17.out
  have z18_ := Z18.out
  have zP := HZP.out
  have hwd : ∀ j, j < 12 → Wd (([xs, ys, us, vs, z1, d1, z2, d2, z1, d1, z2, d2] : List (List Int))[j]?.getD []) := fun j hj => by
    match j, hj with
    | 0, _ => exact HWD.out.1
    | 1, _ => exact HWD.out.2.1
    | 2, _ => exact HWD.out.2.2.1
    | 3, _ => exact HWD.out.2.2.2
    | 4, _ => exact HF.out.2.1
    | 5, _ => exact HF.out.2.2.1
    | 6, _ => exact HF.out.2.2.2.1
    | 7, _ => exact HF.out.2.2.2.2
    | 8, _ => exact HF.out.2.1
    | 9, _ => exact HF.out.2.2.1
    | 10, _ => exact HF.out.2.2.2.1
    | 11, _ => exact HF.out.2.2.2.2
  have hbig : ∀ j, j < 12 → (([xs, ys, us, vs, z1, d1, z2, d2, z1, d1, z2, d2] : List (List Int))[j]?.getD []).length ≤ 1099511627776 := fun j hj => by
    match j, hj with
    | 0, _ => show xs.length ≤ _; omega
    | 1, _ => show ys.length ≤ _; omega
    | 2, _ => show us.length ≤ _; omega
    | 3, _ => show vs.length ≤ _; omega
    | 4, _ => show z1.length ≤ _; omega
    | 5, _ => show d1.length ≤ _; omega
    | 6, _ => show z2.length ≤ _; omega
    | 7, _ => show d2.length ≤ _; omega
    | 8, _ => show z1.length ≤ _; omega
    | 9, _ => show d1.length ≤ _; omega
    | 10, _ => show z2.length ≤ _; omega
    | 11, _ => show d2.length ≤ _; omega
  have hown : ∀ j, j < 12 → wE.ownsRow w.heap.size 88 1 (([.slice (some ⟨g1, 0, none⟩) xs.length c1, .slice (some ⟨g2, 0, none⟩) ys.length c2, .slice (some ⟨g3, 0, none⟩) us.length c3, .slice (some ⟨g4, 0, none⟩) vs.length c4, .slice e1 z1.length k1, .slice f1 d1.length l1, .slice p1 z2.length q1, .slice o1 d2.length r1, .slice e2 z1.length k2, .slice f2 d1.length l2, .slice p2 z2.length q2, .slice o2 d2.length r2] : List Value)[j]?.getD undef) (([xs, ys, us, vs, z1, d1, z2, d2, z1, d1, z2, d2] : List (List Int))[j]?.getD []).length ((([xs, ys, us, vs, z1, d1, z2, d2, z1, d1, z2, d2] : List (List Int))[j]?.getD []).map (Value.int .u32)) := fun j hj => by
    match j, hj with
    | 0, _ => exact owns_base (plentf SL18.out.1) (by omega)
    | 1, _ => exact owns_base (plentf SL18.out.2.1) (by omega)
    | 2, _ => exact owns_base (plentf SL18.out.2.2.1) (by omega)
    | 3, _ => exact owns_base (plentf SL18.out.2.2.2) (by omega)
    | 4, _ => exact owns_base SO118.out.1 (by omega)
    | 5, _ => exact owns_base SO118.out.2.1 (by omega)
    | 6, _ => exact owns_base SO118.out.2.2.1 (by omega)
    | 7, _ => exact owns_base SO118.out.2.2.2 (by omega)
    | 8, _ => exact owns_base SO218.out.1 (by omega)
    | 9, _ => exact owns_base SO218.out.2.1 (by omega)
    | 10, _ => exact owns_base SO218.out.2.2.1 (by omega)
    | 11, _ => exact owns_base SO218.out.2.2.2 (by omega)
  have iw0 : Within (.slice (some ⟨g1, 0, none⟩) xs.length c1) w2.heap.size w3.heap.size := fun g hg => by have h1 := HG.out; simp [Value.ownBlock] at hg; omega
  have iw1 : Within (.slice (some ⟨g2, 0, none⟩) ys.length c2) w2.heap.size w3.heap.size := fun g hg => by have h1 := HG.out; simp [Value.ownBlock] at hg; omega
  have iw2 : Within (.slice (some ⟨g3, 0, none⟩) us.length c3) w2.heap.size w3.heap.size := fun g hg => by have h1 := HG.out; simp [Value.ownBlock] at hg; omega
  have iw3 : Within (.slice (some ⟨g4, 0, none⟩) vs.length c4) w2.heap.size w3.heap.size := fun g hg => by have h1 := HG.out; simp [Value.ownBlock] at hg; omega
  have pa : Ap4 (.slice (some ⟨g1, 0, none⟩) xs.length c1) (.slice (some ⟨g2, 0, none⟩) ys.length c2) (.slice (some ⟨g3, 0, none⟩) us.length c3) (.slice (some ⟨g4, 0, none⟩) vs.length c4) := by
    have h1 := HG.out
    refine ⟨.inr ?_, .inr ?_, .inr ?_, .inr ?_, .inr ?_, .inr ?_⟩ <;> simp [Value.ownBlock] <;> omega
  have hap := ap_twelve (v := fun j => ([.slice (some ⟨g1, 0, none⟩) xs.length c1, .slice (some ⟨g2, 0, none⟩) ys.length c2, .slice (some ⟨g3, 0, none⟩) us.length c3, .slice (some ⟨g4, 0, none⟩) vs.length c4, .slice e1 z1.length k1, .slice f1 d1.length l1, .slice p1 z2.length q1, .slice o1 d2.length r1, .slice e2 z1.length k2, .slice f2 d1.length l2, .slice p2 z2.length q2, .slice o2 d2.length r2] : List Value)[j]?.getD undef) _ _ _ _ _ _ (fun j hj => by
    match j, hj with
    | 0, _ => exact iw0
    | 1, _ => exact iw1
    | 2, _ => exact iw2
    | 3, _ => exact iw3) (fun j hj => by
    match j, hj with
    | 0, _ => exact HI1.out.2.1
    | 1, _ => exact HI1.out.2.2.1
    | 2, _ => exact HI1.out.2.2.2.1
    | 3, _ => exact HI1.out.2.2.2.2) (fun j hj => by
    match j, hj with
    | 0, _ => exact HI2.out.2.1
    | 1, _ => exact HI2.out.2.2.1
    | 2, _ => exact HI2.out.2.2.2.1
    | 3, _ => exact HI2.out.2.2.2.2) (by omega) (by omega) (by omega) pa HI1.out.1 HI2.out.1
  have HAP := hid (apartGausses3 w.heap.size n m s1 t1 s1 t1 (some ⟨g1, 0, none⟩) (some ⟨g2, 0, none⟩) (some ⟨g3, 0, none⟩) (some ⟨g4, 0, none⟩) e1 f1 p1 o1 e2 f2 p2 o2 xs.length ys.length us.length vs.length z1.length d1.length z2.length d2.length z1.length d1.length z2.length d2.length c1 c2 c3 c4 k1 l1 q1 r1 k2 l2 q2 r2 wE.heap.size (fun j => ([xs, ys, us, vs, z1, d1, z2, d2, z1, d1, z2, d2] : List (List Int))[j]?.getD []) (wE.alloc (.cells #[.bool n, .slice (some ⟨g1, 0, none⟩) xs.length c1, .slice (some ⟨g2, 0, none⟩) ys.length c2, .bool m, .slice (some ⟨g3, 0, none⟩) us.length c3, .slice (some ⟨g4, 0, none⟩) vs.length c4, .bool s1, .slice e1 z1.length k1, .slice f1 d1.length l1, .bool t1, .slice p1 z2.length q1, .slice o1 d2.length r1, .bool s1, .slice e2 z1.length k2, .slice f2 d1.length l2, .bool t1, .slice p2 z2.length q2, .slice o2 d2.length r2] 45)) (Box.made wE _ _) (by simp; omega) hwd hbig (fun j hj => owns_later (hown j hj) (alloc_later _ _)) hap)
  clear hap hown hwd hbig iw0 iw1 iw2 iw3 pa hF zP z1_ z2_ z3_ z4_ z5_ z6_ z7_ z8_ z9_ z10_ z11_ z12_ z13_ z14_ z15_ z16_ z17_ z18_
  have HBB := hid HW18.out
  obtain ⟨YE, hYE⟩ : ∃ YE, wE.alloc (.cells #[.bool n, .slice (some ⟨g1, 0, none⟩) xs.length c1, .slice (some ⟨g2, 0, none⟩) ys.length c2, .bool m, .slice (some ⟨g3, 0, none⟩) us.length c3, .slice (some ⟨g4, 0, none⟩) vs.length c4, .bool s1, .slice e1 z1.length k1, .slice f1 d1.length l1, .bool t1, .slice p1 z2.length q1, .slice o1 d2.length r1, .bool s1, .slice e2 z1.length k2, .slice f2 d1.length l2, .bool t1, .slice p2 z2.length q2, .slice o2 d2.length r2] 45) = YE := ⟨_, rfl⟩
  rw [hYE] at HAP
  have hlE : Below w.heap.size w YE := by rw [← hYE]; exact bt HBB.out (alloc_later _ _)
  have HLE := hid hlE
  clear hlE
  have clP_0 : wE.cell? ⟨w3.heap.size, 0, none⟩ = some (.bool n) := HP18.out.cell 0
  have clP_1 : wE.cell? ⟨w3.heap.size, 1, none⟩ = some (.slice (some ⟨g1, 0, none⟩) xs.length c1) := HP18.out.cell 1
  have clP_2 : wE.cell? ⟨w3.heap.size, 2, none⟩ = some (.slice (some ⟨g2, 0, none⟩) ys.length c2) := HP18.out.cell 2
  have clP_3 : wE.cell? ⟨w3.heap.size, 3, none⟩ = some (.bool m) := HP18.out.cell 3
  have clP_4 : wE.cell? ⟨w3.heap.size, 4, none⟩ = some (.slice (some ⟨g3, 0, none⟩) us.length c3) := HP18.out.cell 4
  have clP_5 : wE.cell? ⟨w3.heap.size, 5, none⟩ = some (.slice (some ⟨g4, 0, none⟩) vs.length c4) := HP18.out.cell 5
  have clB_0 : wE.cell? ⟨w7.heap.size, 0, none⟩ = some (.bool s1) := HB18.out.cell 0
  have clB_1 : wE.cell? ⟨w7.heap.size, 1, none⟩ = some (.slice e1 z1.length k1) := HB18.out.cell 1
  have clB_2 : wE.cell? ⟨w7.heap.size, 2, none⟩ = some (.slice f1 d1.length l1) := HB18.out.cell 2
  have clB_3 : wE.cell? ⟨w7.heap.size, 3, none⟩ = some (.bool t1) := HB18.out.cell 3
  have clB_4 : wE.cell? ⟨w7.heap.size, 4, none⟩ = some (.slice p1 z2.length q1) := HB18.out.cell 4
  have clB_5 : wE.cell? ⟨w7.heap.size, 5, none⟩ = some (.slice o1 d2.length r1) := HB18.out.cell 5
  have clC_0 : wE.cell? ⟨w9.heap.size, 0, none⟩ = some (.bool s1) := HC18.out.cell 0
  have clC_1 : wE.cell? ⟨w9.heap.size, 1, none⟩ = some (.slice e2 z1.length k2) := HC18.out.cell 1
  have clC_2 : wE.cell? ⟨w9.heap.size, 2, none⟩ = some (.slice f2 d1.length l2) := HC18.out.cell 2
  have clC_3 : wE.cell? ⟨w9.heap.size, 3, none⟩ = some (.bool t1) := HC18.out.cell 3
  have clC_4 : wE.cell? ⟨w9.heap.size, 4, none⟩ = some (.slice p2 z2.length q2) := HC18.out.cell 4
  have clC_5 : wE.cell? ⟨w9.heap.size, 5, none⟩ = some (.slice o2 d2.length r2) := HC18.out.cell 5
  go_wp2_with fail
  refine Calls.mono HAP.out ?_
  rintro e wF ⟨rfl, hbE⟩
  have HBE := hid (HLE.out.trans hbE)
  clear hbE HAP
  clear clP_0 clP_1 clP_2 clP_3 clP_4 clP_5 clB_0 clB_1 clB_2 clB_3 clB_4 clB_5 clC_0 clC_1 clC_2 clC_3 clC_4 clC_5
  go_wp2_with fail
  go_ret
  exact ⟨rfl, HBE.out⟩
set_option maxHeartbeats 1600000 in
set_option maxRecDepth 100000 in
theorem partsExact_off (n : Bool) (a : Option Addr) (k1 ca : Nat) (b : Option Addr) (k2 cb : Nat) (m : Bool) (c : Option Addr) (k3 cc : Nat) (d : Option Addr) (k4 cd : Nat) (x y : Int) (w : World) (hq : (smK k1 && smK k2) = false ∨ (smK k3 && smK k4) = false) :
    Calls Tryz.prog 4 #[.agg #[.bool n, .slice a k1 ca, .slice b k2 cb, .bool m, .slice c k3 cc, .slice d k4 cd], .agg #[.int .u64 x, .int .u64 y]] w fun e w' => e = .returned (.bool true) ∧ Below w.heap.size w w' := by
  obtain ⟨P, hP⟩ : ∃ P, (w.alloc (.cells #[.bool n, .slice a k1 ca, .slice b k2 cb, .bool m, .slice c k3 cc, .slice d k4 cd] 45)).alloc (.cells #[.int .u64 x, .int .u64 y] 47) = P := ⟨_, rfl⟩
  have b1 : Below w.heap.size w P := by rw [← hP]; exact bt (alloc_later _ _) (alloc_later _ _)
  have HA : Hid (Box P w.heap.size 45 #[.bool n, .slice a k1 ca, .slice b k2 cb, .bool m, .slice c k3 cc, .slice d k4 cd]) := by rw [← hP]; exact (Box.made w _ _).later (alloc_later _ _) (Box.made w _ _).lt
  have HS1 := hid (pSmall_any n a k1 ca b k2 cb P)
  have HS2 := hid (fun V => pSmall_any m c k3 cc d k4 cd V)
  have HB := hid b1
  clear b1
  obtain ⟨e0, e1, e2, e3, e4, e5⟩ := Cl6.of HA.out
  cases h1 : (smK k1 && smK k2)
  · rw [h1] at HS1
    clear hq h1 HS2
    go_enter Tryz.func4, Tryz.ntmps4
    go_wp2_with fail
    clear hP
    refine Calls.mono HS1.out ?_
    rintro e w1 ⟨rfl, hb⟩
    have HB2 := hid (bt HB.out hb)
    clear hb HS1 e0 e1 e2 e3 e4 e5
    go_wp2_with fail
    go_ret
    exact ⟨rfl, HB2.out⟩
  · rw [h1] at HS1
    have h2 : (smK k3 && smK k4) = false := hq.resolve_left (by rw [h1]; simp)
    rw [h2] at HS2
    clear hq h1 h2
    go_enter Tryz.func4, Tryz.ntmps4
    go_wp2_with fail
    clear hP
    refine Calls.mono HS1.out ?_
    rintro e w1 ⟨rfl, hb⟩
    have HB2 := hid (bt HB.out hb)
    clear e0 e1 e2 e3 e4 e5
    obtain ⟨e0, e1, e2, e3, e4, e5⟩ := Cl6.of (HA.out.later hb HA.out.lt)
    clear hb HS1
    go_wp2_with fail
    refine Calls.mono (HS2.out w1) ?_
    rintro e w2 ⟨rfl, hb⟩
    have HB3 := hid (bt HB2.out hb)
    clear hb HS2 e0 e1 e2 e3 e4 e5
    go_wp2_with fail
    go_ret
    exact ⟨rfl, HB3.out⟩
theorem smK_le {k : Nat} (h : smK k = true) : k ≤ 3000 := by
  unfold smK at h
  simp at h
  omega
theorem partsExact_in (n0 : Bool) (a0 : Option Addr) (k0 ca0 : Nat) (xs0 : List Int) (b0 : Option Addr) (l0 cb0 : Nat) (ys0 : List Int) (m0 : Bool) (c0 : Option Addr) (kc0 cc0 : Nat) (us0 : List Int) (d0 : Option Addr) (kd0 cd0 : Nat) (vs0 : List Int) (x y : Int) (x0 : 0 ≤ x) (x1 : x ≤ 18446744073709551615) (y0 : 0 ≤ y) (y1 : y ≤ 18446744073709551615) (w : World) (h0 : Reads w w.heap.size a0 k0 ca0 xs0) (g0 : Reads w w.heap.size b0 l0 cb0 ys0) (i0 : Reads w w.heap.size c0 kc0 cc0 us0) (j0 : Reads w w.heap.size d0 kd0 cd0 vs0) (htab : TabB w) :
    Calls Tryz.prog 4 #[.agg #[.bool n0, .slice a0 k0 ca0, .slice b0 l0 cb0, .bool m0, .slice c0 kc0 cc0, .slice d0 kd0 cd0], .agg #[.int .u64 x, .int .u64 y]] w fun e w' => e = .returned (.bool true) ∧ Below w.heap.size w w' := by
  by_cases hq : (smK k0 && smK l0) = false ∨ (smK kc0 && smK kd0) = false
  · exact partsExact_off n0 a0 k0 ca0 b0 l0 cb0 m0 c0 kc0 cc0 d0 kd0 cd0 x y w hq
  · have q1 : (smK k0 && smK l0) = true := by cases h : (smK k0 && smK l0); exact absurd (.inl h) hq; rfl
    have q2 : (smK kc0 && smK kd0) = true := by cases h : (smK kc0 && smK kd0); exact absurd (.inr h) hq; rfl
    have e0 := h0.1
    have f0 := g0.1
    have e1 := i0.1
    have f1 := j0.1
    subst e0
    subst f0
    subst e1
    subst f1
    obtain ⟨X, rfl⟩ := Int.eq_ofNat_of_zero_le x0
    obtain ⟨Y, rfl⟩ := Int.eq_ofNat_of_zero_le y0
    have r1 : smK xs0.length = true ∧ smK ys0.length = true := by simpa using q1
    have r2 : smK us0.length = true ∧ smK vs0.length = true := by simpa using q2
    exact partsExact_go n0 a0 ca0 xs0 b0 cb0 ys0 m0 c0 cc0 us0 d0 cd0 vs0 X Y w (by omega) (by omega) htab ⟨_, _, rfl, h0⟩ ⟨_, _, rfl, g0⟩ ⟨_, _, rfl, i0⟩ ⟨_, _, rfl, j0⟩ (smK_le r1.1) (smK_le r1.2) (smK_le r2.1) (smK_le r2.2) q1 q2
end Go.Proofs.YtabkgpnckaaclaaGreatDoor

