/- My texts on the way to PortReal, one behind the other: contracts of the program and of the document's answers. -/
import Derived.Test.YtnfemheabikolaaGreatDoorK1
import Derived.Test.YtnfemheabikolaaGreatDoorK2
import Derived.Test.YtnfemheabikolaaGreatDoorK3
import Derived.Test.YtnfemheabikolaaGreatDoorK4
import Derived.Test.YtnfemheabikolaaGreatDoorK5
import Derived.Test.YtnfemheabikolaaGreatDoorK6
import Derived.Test.YtnfemheabikolaaGreatDoorK7
import Derived.Deep.RegionHeld3
import Derived.Deep.RegionLaw
import Derived.Lib.SliceRun
import Derived.Laws.OwnMore
import Derived.LoopN
/- package port: changed, at any change that is told; of every port that is not too long. (tools/mkqc9.py, out of Qc3) -/
namespace Go.Proofs.YtnfemheabikolaaGreatDoor
open Go.RowKit
set_option linter.unusedVariables false
set_option linter.unusedSimpArgs false

def ChT (p : PL) (R : Nat → TV → Int → Prop) (q : PL) (c : Int) (w w' : World) : Prop := (∃ (i : Nat) (v : TV), i < p.ts.length ∧ (∀ j, j < i → ∃ u, R j u 0) ∧ R i v c ∧ c ≠ 0 ∧ Made q PV.zero w w') ∨ (c = 0 ∧ ∃ vs : List TV, vs.length = p.ts.length ∧ (∀ j v, vs[j]? = some v → R j v 0) ∧ Made q ⟨p.s, p.n, p.xs, p.ys, vs⟩ w w')
set_option maxHeartbeats 3200000 in
set_option maxRecDepth 100000 in
theorem pchanged_any (f : Nat) (cap : Array Value) (p : PL) (w : World) (h : p.ok w) (hf : p.v.few) (eg : ∀ args W, (callFunc f args).run Tryz.prog W = .ok (.enter f args) W) (R : Nat → TV → Int → Prop) (hC : ∀ j V, j < p.ts.length → Below w.heap.size w V → Calls Tryz.prog f (#[.agg (tT p.ts j).cells] ++ cap) V (TRet (R j) V)) : Calls Tryz.prog 62 #[.agg p.cells, .func (.func f) #[] cap] w fun e w' => ∃ (q : PL) (c : Int), e = .returned (.tuple #[.agg q.cells, .int .i64 c]) ∧ ChT p R q c w w' := by
  obtain ⟨i0, hi0, hz0, hz1, hz2⟩ := info_parts Tryz.infoT
  obtain ⟨s, n, a, ca, xs, b, cb, ys, t, ct, ts⟩ := p
  obtain ⟨hfx, hfy, hfl, hfe⟩ := hf
  have HTS : Hid (RdT w t ts) := h.ts
  have HCW : Hid (∀ j V, j < ts.length → Below w.heap.size w V → Calls Tryz.prog f (#[.agg #[.string (tT ts j).s, .int .i32 (tT ts j).f, .int .i32 (tT ts j).r, .bool (tT ts j).n, .slice (tT ts j).a (tT ts j).xs.length (tT ts j).ca, .slice (tT ts j).b (tT ts j).ys.length (tT ts j).cb, .bool (tT ts j).m, .slice (tT ts j).c (tT ts j).us.length (tT ts j).cc, .slice (tT ts j).d (tT ts j).vs.length (tT ts j).cd]] ++ cap) V (TRet (R j) V)) := hC
  have sx : Sl w (.slice a xs.length ca) xs := h.sx
  have sy : Sl w (.slice b ys.length cb) ys := h.sy
  have hfl' : ts.length ≤ 1000000 := by
    have : (ts.map TL.v).length ≤ 1000000 := hfl
    simpa using this
  clear h hfl hfe hC
  unfold PL.cells
  dsimp only
  obtain ⟨N, hN⟩ : ∃ N, ts.length = N := ⟨_, rfl⟩
  have HLN := hid hN
  rw [hN] at hfl' ⊢
  clear hN
  obtain ⟨X, hX⟩ : ∃ X, w.alloc (.cells #[.string s, .bool n, .slice a xs.length ca, .slice b ys.length cb, .slice t N ct] 27) = X := ⟨_, rfl⟩
  obtain ⟨Y, hY⟩ : ∃ Y, X.alloc (.cells #[.string ⟨#[]⟩, .bool false, .slice none 0 0, .slice none 0 0, .slice none 0 0] 27) = Y := ⟨_, rfl⟩
  have HX : Hid (Box Y w.heap.size 27 #[.string s, .bool n, .slice a xs.length ca, .slice b ys.length cb, .slice t N ct]) := by
    subst hY hX
    exact (Box.made w _ _).later (alloc_later _ _) (Box.made w 27 _).lt
  have HR : Hid (Box Y X.heap.size 27 #[.string ⟨#[]⟩, .bool false, .slice none 0 0, .slice none 0 0, .slice none 0 0]) := by
    subst hY
    exact Box.made X _ _
  have HXs : X.heap.size = w.heap.size + 1 := by subst hX; simp
  have HB : Hid (Below w.heap.size w Y) := by
    subst hY hX
    exact bt (alloc_later _ _) (alloc_later _ _)
  rw [HXs] at HR
  have HYs : Hid (w.heap.size + 1 < Y.heap.size) := HR.out.lt
  have HC : Hid (∀ V, Below Y.heap.size Y V → Calls Tryz.prog 115 #[.agg #[.bool n, .slice a xs.length ca, .slice b ys.length cb]] V fun e w' => ∃ a1 c1 a2 c2, e = .returned (.agg #[.bool n, .slice a1 xs.length c1, .slice a2 ys.length c2]) ∧ w'.ownsRow V.heap.size 78 1 (.slice a1 xs.length c1) xs.length (xs.map (Value.int .u32)) ∧ w'.ownsRow V.heap.size 78 1 (.slice a2 ys.length c2) ys.length (ys.map (Value.int .u32)) ∧ Below V.heap.size V w' ∧ Cut V (.slice a1 xs.length c1) (.slice a2 ys.length c2) w') := fun V hV => pcopyR_any n a ca xs b cb ys V (sx.later (bt HB.out hV)) (sy.later (bt HB.out hV)) hfx hfy
  have HS : Hid (∀ V, Box V w.heap.size 27 #[.string s, .bool n, .slice a xs.length ca, .slice b ys.length cb, .slice t N ct] → V.cell? ⟨w.heap.size, 0, none⟩ = some (.string s) ∧ V.cell? ⟨w.heap.size, 1, none⟩ = some (.bool n) ∧ V.cell? ⟨w.heap.size, 2, none⟩ = some (.slice a xs.length ca) ∧ V.cell? ⟨w.heap.size, 3, none⟩ = some (.slice b ys.length cb)) := fun V h => ⟨h.cell 0, h.cell 1, h.cell 2, h.cell 3⟩
  have HXL : Hid (∀ V, Below Y.heap.size Y V → Box V w.heap.size 27 #[.string s, .bool n, .slice a xs.length ca, .slice b ys.length cb, .slice t N ct]) := fun V hV => HX.out.later hV HX.out.lt
  have hd0 := hid (Below.refl Y.heap.size Y)
  clear sx sy hfx hfy
  go_enter Tryz.func62, Tryz.ntmps62
  go_wp2_with fail
  go_cut [6] from 11 (fun s3 wx => ∃ B a1 c1 a2 c2, s3 = .pointer (some ⟨B, 0, none⟩) ∧ Hid (CpI ⟨s, n, xs, ys, ts.map TL.v⟩ w B a1 c1 a2 c2 [] [] none 0 wx) ∧ Hid (Box wx w.heap.size 27 #[.string s, .bool n, .slice a xs.length ca, .slice b ys.length cb, .slice t N ct] ∧ Box wx (w.heap.size + 1) 27 #[.string ⟨#[]⟩, .bool false, .slice none 0 0, .slice none 0 0, .slice none 0 0]))
  case first =>
    have hs0 := HS.out _ (HXL.out _ hd0.out.drew)
    have hsa := HS.out _ (HXL.out _ ((bel_al hd0.out (.cells #[.string ⟨#[]⟩, .bool false, .slice none 0 0, .slice none 0 0, .slice none 0 0] 27)).drew))
    go_region_held3 (fun V : World => V.cell? ⟨w.heap.size, 0, none⟩ = some (.string s) ∧ V.cell? ⟨w.heap.size, 1, none⟩ = some (.bool n) ∧ V.cell? ⟨w.heap.size, 2, none⟩ = some (.slice a xs.length ca) ∧ V.cell? ⟨w.heap.size, 3, none⟩ = some (.slice b ys.length cb)) (first | exact hs2 | exact hs1a | exact hs1 | exact hsa | exact hs0 | go_keep)
      (first
        | (go_at_call 115; (with_reducible refine Calls.mono (HC.out _ (by first | exact hd0.out.drew | exact (bel_al hd0.out _).drew)) ?_); rintro e w1 ⟨a1, c1, a2, c2, rfl, o1, o2, b1, ct1⟩; (first | (have hbA := hid (bt hd0.out.drew b1)) | (have hbA := hid (bt (bel_al hd0.out _).drew b1))); have HA1 := hid (And.intro o1 (And.intro o2 (And.intro b1 ct1))); have hs1 := HS.out _ (HXL.out _ hbA.out); have hs1a := HS.out _ (HXL.out _ (bel_al hbA.out (.cells #[.string ⟨#[]⟩, .bool false, .slice none 0 0, .slice none 0 0, .slice none 0 0] 27))); (first | (have HQ := hid (Box.later ((Box.made Y 27 #[.string ⟨#[]⟩, .bool false, .slice none 0 0, .slice none 0 0, .slice none 0 0]).drewN 1) b1 (Box.made Y 27 _).lt)) | (have HQ := hid (Box.made w1 27 #[.string ⟨#[]⟩, .bool false, .slice none 0 0, .slice none 0 0, .slice none 0 0]))); obtain ⟨A0, A1, A2, A3, A4, hA0, hA1, hA2, hA3, hA4, ⟨q0, q1, q2, q3, q4⟩, ⟨f0, f1, f2, f3, f4⟩, HA⟩ := pchain5 HQ.out (.string s) (.bool n) (.slice a1 xs.length c1) (.slice a2 ys.length c2) (.slice none 0 0); have hs2 := HS.out A4 (HA.out.2.1 _ _ _ (by have h1 := hbA.out.size; have h2 := HYs.out; omega) (by first | exact HXL.out _ hbA.out | exact HXL.out _ (bel_al hbA.out _)))))
    all_goals
      have HN1 : Hid (w.heap.size + 1 < w1.heap.size) := by have h1 := hbA.out.size; have h2 := HYs.out; show _ < _; omega
      have HE : Hid (∃ B, A4.cell? ⟨B, 0, none⟩ = A4.cell? ⟨B, 0, none⟩) := ⟨0, rfl⟩
      clear HE q0 q1 q2 q3 q4 f0 f1 f2 f3 f4 hs0 hsa hs1 hs1a hs2 HC HS
      go_wp2_with fail
      go_meet
    · exact ⟨_, a1, c1, a2, c2, rfl, CpI.start (p := ⟨s, n, xs, ys, ts.map TL.v⟩) (bt HB.out hd0.out.drew) HA1.out.1 HA1.out.2.1 HA1.out.2.2.1 HA1.out.2.2.2 (alloc_later w1 _) HA.out HN1.out, HA.out.2.1 _ _ _ (by have h1 := HN1.out; omega) (HXL.out _ (bel_al hbA.out _)), HA.out.2.1 _ _ _ (by have h1 := HN1.out; omega) (HR.out.later (bel_al hbA.out _) HR.out.lt)⟩
    · exact ⟨_, a1, c1, a2, c2, rfl, CpI.start (p := ⟨s, n, xs, ys, ts.map TL.v⟩) (bt HB.out (bel_al hd0.out _).drew) HA1.out.1 HA1.out.2.1 HA1.out.2.2.1 HA1.out.2.2.2 (Below.refl _ w1) HA.out HYs.out, HA.out.2.1 _ _ _ (by have h1 := HYs.out; omega) (HXL.out _ hbA.out), HA.out.2.1 _ _ _ (by have h1 := HYs.out; omega) (HR.out.later hbA.out HR.out.lt)⟩
  case rest =>
    obtain ⟨B, a1, c1, a2, c2, rfl, HI, HBX⟩ := hcut
    have k4 : wc.cell? ⟨w.heap.size, 4, none⟩ = some (.slice t N ct) := HBX.out.1.cell 4
    have HRC := hid HBX.out.2
    have HBW := hid HI.out.bel
    clear HBX HC HS HXL HX HR hd0 hX hY HXs HYs HB
    go_wp2_with fail
    clear k4
    go_loopw [20] (fun x wr => ∃ (i : Nat) (L : List TL) (q : Option Addr) (cq : Nat), x = .int .i64 (i : Int) ∧ i ≤ N ∧ L.length = i ∧ Hid (∀ j v, (L.map TL.v)[j]? = some v → R j v 0) ∧ Hid (CpI ⟨s, n, xs, ys, ts.map TL.v⟩ w B a1 c1 a2 c2 L L q cq wr) ∧ Hid (Box wr (w.heap.size + 1) 27 #[.string ⟨#[]⟩, .bool false, .slice none 0 0, .slice none 0 0, .slice none 0 0])) (fun x _ => N - (intOf x).toNat)
    case atStart => exact ⟨0, [], none, 0, rfl, by omega, rfl, (fun j v h => by simp at h : ∀ j v, (([] : List TL).map TL.v)[j]? = some v → R j v 0), HI, HRC⟩
    case round =>
      obtain ⟨i, L, q, cq, rfl, hi, hLi, HV, HI, HRC⟩ := hrel
      by_cases hin : i < N
      · have hil : i < ts.length := by rw [HLN.out]; exact hin
        have HTW := hid (HTS.out.later HI.out.bel)
        rcases HTW.out.2 with e | ⟨bb, o, rfl, hbb, hc⟩
        · rw [e] at hil; exact absurd hil (by simp)
        have HCC : Hid (∀ V, Below w.heap.size w V → Calls Tryz.prog f (#[.agg #[.string (tT ts i).s, .int .i32 (tT ts i).f, .int .i32 (tT ts i).r, .bool (tT ts i).n, .slice (tT ts i).a (tT ts i).xs.length (tT ts i).ca, .slice (tT ts i).b (tT ts i).ys.length (tT ts i).cb, .bool (tT ts i).m, .slice (tT ts i).c (tT ts i).us.length (tT ts i).cc, .slice (tT ts i).d (tT ts i).vs.length (tT ts i).cd]] ++ cap) V (TRet (R i) V)) := fun V hV => HCW.out i V hil hV
        have HLL : Hid (L.length ≤ 1000000) := by show L.length ≤ _; omega
        have HVN : Hid (∀ u : TL, R i u.v 0 → ∀ j v, ((L ++ [u]).map TL.v)[j]? = some v → R j v 0) := fun u hu j v hj => by
          rw [List.map_append, List.map_cons, List.map_nil] at hj
          rcases Nat.lt_or_ge j i with hji | hji
          · rw [List.getElem?_append_left (by rw [List.length_map]; omega)] at hj
            exact HV.out j v hj
          · rw [List.getElem?_append_right (by rw [List.length_map]; omega), List.length_map] at hj
            have hj0 : j - L.length = 0 := by
              rcases Nat.eq_zero_or_pos (j - L.length) with h | h
              · exact h
              · rw [List.getElem?_eq_none (by simp; omega)] at hj; cases hj
            rw [hj0] at hj
            have ej : j = i := by omega
            rw [ej, ← Option.some.inj hj]
            exact hu
        have HVF : Hid (∀ j, j < i → ∃ u, R j u 0) := fun j hj => ⟨_, HV.out j _ (List.getElem?_eq_getElem (by rw [List.length_map]; omega))⟩
        have hci := hc i _ (tT_at hil)
        have e0 := hci 0 (by decide)
        have e1 := hci 1 (by decide)
        have e2 := hci 2 (by decide)
        have e3 := hci 3 (by decide)
        have e4 := hci 4 (by decide)
        have e5 := hci 5 (by decide)
        have e6 := hci 6 (by decide)
        have e7 := hci 7 (by decide)
        have e8 := hci 8 (by decide)
        clear hci hc
        generalize tT ts i = tt at *
        have c0 : wr.cell? ⟨bb, o + i * 9, none⟩ = some (.string tt.s) := e0
        have c1' : wr.cell? ⟨bb, o + i * 9 + 1, none⟩ = some (.int .i32 tt.f) := e1
        have c2' : wr.cell? ⟨bb, o + i * 9 + 2, none⟩ = some (.int .i32 tt.r) := e2
        have c3 : wr.cell? ⟨bb, o + i * 9 + 3, none⟩ = some (.bool tt.n) := e3
        have c4 : wr.cell? ⟨bb, o + i * 9 + 4, none⟩ = some (.slice tt.a tt.xs.length tt.ca) := e4
        have c5 : wr.cell? ⟨bb, o + i * 9 + 5, none⟩ = some (.slice tt.b tt.ys.length tt.cb) := e5
        have c6 : wr.cell? ⟨bb, o + i * 9 + 6, none⟩ = some (.bool tt.m) := e6
        have c7 : wr.cell? ⟨bb, o + i * 9 + 7, none⟩ = some (.slice tt.c tt.us.length tt.cc) := e7
        have c8 : wr.cell? ⟨bb, o + i * 9 + 8, none⟩ = some (.slice tt.d tt.vs.length tt.cd) := e8
        clear e0 e1 e2 e3 e4 e5 e6 e7 e8
        obtain ⟨A0, A1, A2, A3, A4, A5, A6, A7, A8, q0, q1, q2, q3, q4, q5, q6, q7, q8, ⟨r0, r1, r2, r3, r4, r5, r6, r7, r8⟩, ⟨f0, f1, f2, f3, f4, f5, f6, f7, f8⟩, HA⟩ := tlbox wr tt
        have HIA := hid (HI.out.later HA.out.2)
        have HRA := hid (HRC.out.later HA.out.2 HRC.out.lt)
        have HXA := hid HA.out.1
        have m0 : A8.cell? ⟨wr.heap.size, 0, none⟩ = some (.string tt.s) := HXA.out.cell 0
        have m1 : A8.cell? ⟨wr.heap.size, 1, none⟩ = some (.int .i32 tt.f) := HXA.out.cell 1
        have m2 : A8.cell? ⟨wr.heap.size, 2, none⟩ = some (.int .i32 tt.r) := HXA.out.cell 2
        have m3 : A8.cell? ⟨wr.heap.size, 3, none⟩ = some (.bool tt.n) := HXA.out.cell 3
        have m4 : A8.cell? ⟨wr.heap.size, 4, none⟩ = some (.slice tt.a tt.xs.length tt.ca) := HXA.out.cell 4
        have m5 : A8.cell? ⟨wr.heap.size, 5, none⟩ = some (.slice tt.b tt.ys.length tt.cb) := HXA.out.cell 5
        have m6 : A8.cell? ⟨wr.heap.size, 6, none⟩ = some (.bool tt.m) := HXA.out.cell 6
        have m7 : A8.cell? ⟨wr.heap.size, 7, none⟩ = some (.slice tt.c tt.us.length tt.cc) := HXA.out.cell 7
        have m8 : A8.cell? ⟨wr.heap.size, 8, none⟩ = some (.slice tt.d tt.vs.length tt.cd) := HXA.out.cell 8
        have hi0' : (0 : Int) ≤ (i : Int) := by omega
        have hi1 : (i : Int) < (N : Int) := by omega
        have HLE := hid hLi
        clear HI HRC HA hbb hLi
        go_wp2_with fail
        clear q0 q1 q2 q3 q4 q5 q6 q7 q8 r0 r1 r2 r3 r4 r5 r6 r7 r8 f0 f1 f2 f3 f4 f5 f6 f7 f8 c0 c1' c2' c3 c4 c5 c6 c7 c8
        refine Calls.mono (HCC.out _ HIA.out.bel) ?_
        rintro e w1 ⟨u, c, rfl, hu, ou, iu, b1⟩
        obtain ⟨W2, hW2⟩ : ∃ W2, w1.alloc (.cells #[.string u.s, .int .i32 u.f, .int .i32 u.r, .bool u.n, .slice u.a u.xs.length u.ca, .slice u.b u.ys.length u.cb, .bool u.m, .slice u.c u.us.length u.cc, .slice u.d u.vs.length u.cd] 37) = W2 := ⟨_, rfl⟩
        have HOB : Hid (Box W2 w1.heap.size 37 #[.string u.s, .int .i32 u.f, .int .i32 u.r, .bool u.n, .slice u.a u.xs.length u.ca, .slice u.b u.ys.length u.cb, .bool u.m, .slice u.c u.us.length u.cc, .slice u.d u.vs.length u.cd]) := by
          subst hW2
          exact Box.made w1 _ _
        have HB2 : Hid (Below w1.heap.size w1 W2) := by
          subst hW2
          exact alloc_later _ _
        have HU := hid hu
        have HI1 := hid ((HIA.out.call b1 ou iu).later HB2.out)
        have HR1 := hid (HRA.out.later (bt b1 HB2.out) HRA.out.lt)
        have n0 : W2.cell? ⟨w1.heap.size, 0, none⟩ = some (.string u.s) := HOB.out.cell 0
        have n1 : W2.cell? ⟨w1.heap.size, 1, none⟩ = some (.int .i32 u.f) := HOB.out.cell 1
        have n2 : W2.cell? ⟨w1.heap.size, 2, none⟩ = some (.int .i32 u.r) := HOB.out.cell 2
        have n3 : W2.cell? ⟨w1.heap.size, 3, none⟩ = some (.bool u.n) := HOB.out.cell 3
        have n4 : W2.cell? ⟨w1.heap.size, 4, none⟩ = some (.slice u.a u.xs.length u.ca) := HOB.out.cell 4
        have n5 : W2.cell? ⟨w1.heap.size, 5, none⟩ = some (.slice u.b u.ys.length u.cb) := HOB.out.cell 5
        have n6 : W2.cell? ⟨w1.heap.size, 6, none⟩ = some (.bool u.m) := HOB.out.cell 6
        have n7 : W2.cell? ⟨w1.heap.size, 7, none⟩ = some (.slice u.c u.us.length u.cc) := HOB.out.cell 7
        have n8 : W2.cell? ⟨w1.heap.size, 8, none⟩ = some (.slice u.d u.vs.length u.cd) := HOB.out.cell 8
        have hw12 : w1.heap.size < W2.heap.size := HOB.out.lt
        have z1 : W2.cell? ⟨B, 4, none⟩ = some (.slice q L.length cq) := HI1.out.box.cell 4
        clear m0 m1 m2 m3 m4 m5 m6 m7 m8 HIA HRA HXA HB2 HCC HOB b1 ou iu hu
        by_cases hc0 : c = 0
        · subst hc0
          obtain ⟨W3, hW3⟩ : ∃ W3, W2.alloc (.cells #[.string u.s, .int .i32 u.f, .int .i32 u.r, .bool u.n, .slice u.a u.xs.length u.ca, .slice u.b u.ys.length u.cb, .bool u.m, .slice u.c u.us.length u.cc, .slice u.d u.vs.length u.cd] 37) = W3 := ⟨_, rfl⟩
          have HI2 : Hid (CpI ⟨s, n, xs, ys, ts.map TL.v⟩ w B a1 c1 a2 c2 L (L ++ [u]) q cq W3) := by
            subst hW3
            exact HI1.out.later (alloc_later _ _)
          have HR2 : Hid (Box W3 (w.heap.size + 1) 27 #[.string ⟨#[]⟩, .bool false, .slice none 0 0, .slice none 0 0, .slice none 0 0]) := by
            subst hW3
            exact HR1.out.later (alloc_later _ _) HR1.out.lt
          have HNW : Hid (∀ j v, u.cells.toList[j]? = some v → W3.cell? ((⟨W2.heap.size, 0, none⟩ : Addr).add j) = some v) := by
            subst hW3
            exact qcells_new W2 _ _
          have z2 : W3.cell? ⟨B, 4, none⟩ = some (.slice q L.length cq) := HI2.out.box.cell 4
          go_wp2_with (first
            | (at_builtin; refine wpList_append_own_at _ rfl _ _ 25 rfl w.heap.size 37 i0 (.agg #[.string ⟨#[]⟩, .int .i32 0, .int .i32 0, .bool false, .slice none 0 0, .slice none 0 0, .bool false, .slice none 0 0, .slice none 0 0]) 9 136 Tryz.underlying25 hi0 hz0 hz1 hz2 rfl (by decide) (.slice q L.length cq) L.length (flatT L) rfl HI2.out.row ⟨W2.heap.size, 0, none⟩ 1 1 u.cells.toList rfl rfl HNW.out u.one ?hm ?hb HI2.out.bel.size ?_; rotate_right; intro v1 y1 o1 g1 _ at1; obtain ⟨HB1, a', ct', rfl, Z, hZ, HZ⟩ := HI2.out.add o1 g1; have z3 : y1.cell? ⟨B, 4, none⟩ = some (.slice q L.length cq) := HB1.out.cell 4; have z5 : y1.frozen? ⟨B, 4, none⟩ = false := HB1.out.free 4; have HR4 := hid (HZ.out.2 (w.heap.size + 1) _ _ ?hn HR2.out (.inl (by decide)))))
          case hm => have := HLL.out; unfold maxLen; omega
          case hb => have := HLL.out; omega
          case hn => have := HI2.out.low; omega
          have HVN' := hid (HVN.out u HU.out)
          have HLX : Hid ((L ++ [u]).length = i + 1) := by rw [List.length_append, HLE.out]; rfl
          clear z1 z2 z3 z5 n0 n1 n2 n3 n4 n5 n6 n7 n8 HVN HVF HI1 HI2 HR1 HR2
          (try go_wp2_with fail)
          go_roundw
          case rel => exact ⟨i + 1, L ++ [u], a', ct', by go_num, by omega, HLX.out, HVN', HZ.out.1, HR4⟩
          case measure => simp [intOf]; omega
        · have h0' : (c == 0) = false := by simp [hc0]
          have h0'' : (c != 0) = true := by simp [hc0]
          obtain ⟨W3, hW3⟩ : ∃ W3, W2.alloc (.cells #[.string u.s, .int .i32 u.f, .int .i32 u.r, .bool u.n, .slice u.a u.xs.length u.ca, .slice u.b u.ys.length u.cb, .bool u.m, .slice u.c u.us.length u.cc, .slice u.d u.vs.length u.cd] 37) = W3 := ⟨_, rfl⟩
          have HCN := hid hc0
          have HTW2 := hid hil
          have HBW2 := hid HI1.out.bel
          have hlow := HI1.out.low
          obtain ⟨⟨s0, s1, s2, s3, s4⟩, ⟨x0, x1, x2, x3, x4⟩, ⟨u0, u1, u2, u3, u4⟩⟩ := pzero5 HR1.out
          clear hc0 hil HVN HI1 z1 HLL
          go_wp2_with fail
          exact bodyPost_ret (pres_run (by rfl) HR1.out _ rfl) rfl ⟨PL.zero, c, rfl, .inl ⟨i, u.v, HTW2.out, HVF.out, HU.out, HCN.out, Made.none HBW2.out⟩⟩
      · obtain rfl : i = N := by omega
        have hi1 : ¬ (i : Int) < (i : Int) := by omega
        have hk0 : wr.cell? ⟨B, 0, none⟩ = some (.string s) := HI.out.box.cell 0
        have hk1 : wr.cell? ⟨B, 1, none⟩ = some (.bool n) := HI.out.box.cell 1
        have hk2 : wr.cell? ⟨B, 2, none⟩ = some (.slice a1 xs.length c1) := HI.out.box.cell 2
        have hk3 : wr.cell? ⟨B, 3, none⟩ = some (.slice a2 ys.length c2) := HI.out.box.cell 3
        have hk4 : wr.cell? ⟨B, 4, none⟩ = some (.slice q L.length cq) := HI.out.box.cell 4
        obtain ⟨A0, A1, A2, A3, A4, q0, q1, q2, q3, q4, ⟨r0, r1, r2, r3, r4⟩, ⟨f0, f1, f2, f3, f4⟩, HA⟩ := pchain5 HRC.out (.string s) (.bool n) (.slice a1 xs.length c1) (.slice a2 ys.length c2) (.slice q L.length cq)
        have HM : Hid (Made ⟨s, n, a1, c1, xs, a2, c2, ys, q, cq, L⟩ ⟨s, n, xs, ys, L.map TL.v⟩ w A4) := CpI.done (HI.out.re (L.map TL.v)) rfl (Nat.le_succ _) HA.out.2.2.1 HA.out.2.2.2.1 HA.out.2.2.2.2
        have HE := hid HA.out.1
        have HLE : Hid ((L.map TL.v).length = ts.length) := by rw [List.length_map, hLi]; exact HLN.out.symm
        clear HI HRC HA HTS HCW hLi
        go_wp2_with fail
        exact bodyPost_ret (pres_run (by rfl) HE.out _ rfl) rfl ⟨⟨s, n, a1, c1, xs, a2, c2, ys, q, cq, L⟩, 0, rfl, .inr ⟨rfl, L.map TL.v, HLE.out, HV.out, HM.out⟩⟩
end Go.Proofs.YtnfemheabikolaaGreatDoor

/- package port: Conj and Moved, of every port. (tools/mkqca.py) -/
namespace Go.Proofs.YtnfemheabikolaaGreatDoor
open Go.RowKit
set_option linter.unusedVariables false
set_option linter.unusedSimpArgs false

theorem Made.put {q : PL} {v : PV} {w V W A : World} {b : Nat} (hm : Made q v V W) (hV : Below w.heap.size w V) (hb : w.heap.size ≤ b) (hA : Box A b 27 #[.string q.s, .bool q.n, .slice q.a q.xs.length q.ca, .slice q.b q.ys.length q.cb, .slice q.t q.ts.length q.ct] ∧ (∀ b' t' vs, b' ≠ b → Box W b' t' vs → Box A b' t' vs) ∧ (∀ base e s v n xs, e ≠ 27 → W.ownsRow base e s v n xs → A.ownsRow base e s v n xs) ∧ (∀ B' x, B' ≤ b → Below B' x W → Below B' x A) ∧ A.heap.size = W.heap.size) : Made q v w A := by
  obtain ⟨_, _, h3, h4, h5⟩ := hA
  obtain ⟨c, d, c0, c1, l0, l1, sq⟩ := hm.sep
  have hs := hV.size
  have ho := hm.ow.base hs
  refine ⟨hm.v, ⟨h3 _ _ _ _ _ _ (by decide) ho.mx, h3 _ _ _ _ _ _ (by decide) ho.my, h3 _ _ _ _ _ _ (by decide) ho.row, fun t ht => ?_⟩, ⟨c, d, by omega, c1, fun g e => by have := l0 g e; omega, l1, sq.wide (Nat.le_refl _) (by omega)⟩, h4 _ _ hb (bt hV hm.bel)⟩
  have q := ho.els t ht
  exact ⟨h3 _ _ _ _ _ _ (by decide) q.1, h3 _ _ _ _ _ _ (by decide) q.2.1, h3 _ _ _ _ _ _ (by decide) q.2.2.1, h3 _ _ _ _ _ _ (by decide) q.2.2.2⟩
theorem PL.good.at_ {p : PL} (h : p.good) {j : Nat} (hj : j < p.ts.length) : (tT p.ts j).chk = 0 := (h.all j hj).1
def CnT (p : PL) (q : PL) (c : Int) (w w' : World) : Prop := (∃ z, PChk p.hd p.ts c z ∧ c ≠ 0 ∧ Made q PV.zero w w') ∨ (p.good ∧ c = 0 ∧ ∃ vs : List TV, vs.length = p.ts.length ∧ (∀ j v, vs[j]? = some v → CjT (tT p.ts j).v v 0) ∧ Made q ⟨p.s, p.n, p.xs, p.ys, vs⟩ w w')
set_option maxHeartbeats 3200000 in
set_option maxRecDepth 100000 in
theorem pConj_any (p : PL) (w : World) (hp : p.ok w) : Calls Tryz.prog 31 #[.agg p.cells] w fun e w' => ∃ (q : PL) (c : Int), e = .returned (.tuple #[.agg q.cells, .int .i64 c]) ∧ CnT p q c w w' := by
  obtain ⟨X, hX⟩ : ∃ X, w.alloc (.cells #[.string p.s, .bool p.n, .slice p.a p.xs.length p.ca, .slice p.b p.ys.length p.cb, .slice p.t p.ts.length p.ct] 27) = X := ⟨_, rfl⟩
  obtain ⟨Y, hY⟩ : ∃ Y, X.alloc (.cells #[.string ⟨#[]⟩, .bool false, .slice none 0 0, .slice none 0 0, .slice none 0 0] 27) = Y := ⟨_, rfl⟩
  have hXs : X.heap.size = w.heap.size + 1 := by subst hX; simp
  have HX : Hid (Box Y w.heap.size 27 #[.string p.s, .bool p.n, .slice p.a p.xs.length p.ca, .slice p.b p.ys.length p.cb, .slice p.t p.ts.length p.ct]) := by
    subst hY hX
    exact (Box.made w _ _).later (alloc_later _ _) (Box.made w 27 _).lt
  have HR : Hid (Box Y (w.heap.size + 1) 27 #[.string ⟨#[]⟩, .bool false, .slice none 0 0, .slice none 0 0, .slice none 0 0]) := by
    rw [← hXs]
    subst hY
    exact Box.made X _ _
  have HB : Hid (Below w.heap.size w Y) := by
    subst hY hX
    exact bt (alloc_later _ _) (alloc_later _ _)
  have HYs : Hid (w.heap.size + 1 < Y.heap.size) := HR.out.lt
  have HCH : Hid (p.good → ∀ V, Below Y.heap.size Y V → Calls Tryz.prog 62 #[.agg #[.string p.s, .bool p.n, .slice p.a p.xs.length p.ca, .slice p.b p.ys.length p.cb, .slice p.t p.ts.length p.ct], .func (.func 14) #[] #[]] V fun e w' => ∃ (q : PL) (c : Int), e = .returned (.tuple #[.agg #[.string q.s, .bool q.n, .slice q.a q.xs.length q.ca, .slice q.b q.ys.length q.cb, .slice q.t q.ts.length q.ct], .int .i64 c]) ∧ ChT p (fun j => CjT (tT p.ts j).v) q c V w') := fun hg V hV => by
    have hpV := hp.later (bt HB.out hV)
    exact pchanged_any 14 #[] p V hpV hg.few (enters_of Tryz.func14 (by kernel_rfl) rfl) _ (fun j U hj hU => pConjC_any (tT p.ts j) U ((hpV.ts.later hU).1 _ (tT_mem hj)) (hg.at_ hj))
  have HC1 := hid (plcheck_any p Y (hp.later HB.out))
  have HG : Hid (∀ z, PChk p.hd p.ts 0 z → p.good) := fun z h => h.good.1
  have k0 : Y.cell? ⟨w.heap.size, 0, none⟩ = some (.string p.s) := HX.out.cell 0
  have k1 : Y.cell? ⟨w.heap.size, 1, none⟩ = some (.bool p.n) := HX.out.cell 1
  have k2 : Y.cell? ⟨w.heap.size, 2, none⟩ = some (.slice p.a p.xs.length p.ca) := HX.out.cell 2
  have k3 : Y.cell? ⟨w.heap.size, 3, none⟩ = some (.slice p.b p.ys.length p.cb) := HX.out.cell 3
  have k4 : Y.cell? ⟨w.heap.size, 4, none⟩ = some (.slice p.t p.ts.length p.ct) := HX.out.cell 4
  unfold PL.cells
  clear hp
  go_enter Tryz.func31, Tryz.ntmps31
  go_wp2_with fail
  refine Calls.mono HC1.out ?_
  rintro e w1 ⟨c, z, rfl, hc, b1⟩
  have HX1 := hid (HX.out.later b1 HX.out.lt)
  have HR1 := hid (HR.out.later b1 HR.out.lt)
  
  obtain ⟨W2, hW2⟩ : ∃ W2, w1.alloc (.cells #[.int .i64 0, .int .i64 0] 40) = W2 := ⟨_, rfl⟩
  have HF : Hid (Box W2 w1.heap.size 40 #[.int .i64 0, .int .i64 0]) := by
    subst hW2
    exact Box.made w1 _ _
  have HB2 : Hid (Below w1.heap.size w1 W2) := by
    subst hW2
    exact alloc_later _ _
  have hs1 : Y.heap.size ≤ w1.heap.size := b1.size
  obtain ⟨A0, A1, q0, q1, ⟨r0, r1⟩, ⟨v0, v1⟩, HA⟩ := rchain2 HF.out (by decide) (.int .i64 c) (.int .i64 z)
  have hy := HYs.out
  have HYA : Hid (Below Y.heap.size Y A1) := HA.out.2.2.2.1 _ _ hs1 (bt b1 HB2.out)
  have HXA := hid (HA.out.2.1 _ _ _ (show w.heap.size ≠ w1.heap.size by omega) (HX1.out.later HB2.out HX1.out.lt))
  have HRA := hid (HA.out.2.1 _ _ _ (show w.heap.size + 1 ≠ w1.heap.size by omega) (HR1.out.later HB2.out HR1.out.lt))
  
  have HBA := hid (bt HB.out HYA.out)
  have y0 : A1.cell? ⟨w1.heap.size, 0, none⟩ = some (.int .i64 c) := HA.out.1.cell 0
  have HCK := hid hc
  clear b1 HC1 k0 k1 k2 k3 k4 HX1 HR1 HF HB2 HX HR hc hX hY
  by_cases hc0 : c = 0
  · subst hc0
    have hG := HG.out _ HCK.out
    have k0 : A1.cell? ⟨w.heap.size, 0, none⟩ = some (.string p.s) := HXA.out.cell 0
    have k1 : A1.cell? ⟨w.heap.size, 1, none⟩ = some (.bool p.n) := HXA.out.cell 1
    have k2 : A1.cell? ⟨w.heap.size, 2, none⟩ = some (.slice p.a p.xs.length p.ca) := HXA.out.cell 2
    have k3 : A1.cell? ⟨w.heap.size, 3, none⟩ = some (.slice p.b p.ys.length p.cb) := HXA.out.cell 3
    have k4 : A1.cell? ⟨w.heap.size, 4, none⟩ = some (.slice p.t p.ts.length p.ct) := HXA.out.cell 4
    have HGG := hid hG
    go_wp2_with fail
    refine Calls.mono (HCH.out hG A1 HYA.out) ?_
    rintro e w5 ⟨q, c5, rfl, hch⟩
    have hm : ∃ v, Made q v A1 w5 := by
      rcases hch with ⟨_, _, _, _, _, _, h⟩ | ⟨_, _, _, _, h⟩
      · exact ⟨_, h⟩
      · exact ⟨_, h⟩
    obtain ⟨v5, hm⟩ := hm
    have HR5 := hid (HRA.out.later hm.bel HRA.out.lt)
    obtain ⟨A2, A3, A4, A5, A6, q0, q1, q2, q3, q4, ⟨r0, r1, r2, r3, r4⟩, ⟨f0, f1, f2, f3, f4⟩, HA⟩ := pchain5 HR5.out (.string q.s) (.bool q.n) (.slice q.a q.xs.length q.ca) (.slice q.b q.ys.length q.cb) (.slice q.t q.ts.length q.ct)
    have HD : Hid (CnT p q c5 w A6) := by
      rcases hch with ⟨i, v, hi, _, hr, hn, h⟩ | ⟨h0, vs, h1, h2, h⟩
      · exact absurd hr.1 hn
      · exact .inr ⟨HGG.out, h0, vs, h1, (fun j v hj => h2 j v hj), h.put HBA.out (Nat.le_succ _) HA.out⟩
    have HE := hid HA.out.1
    clear hm hch HCH HG HXA HRA HYA HBA k0 k1 k2 k3 k4 HA HR5
    go_wp2_with fail
    exact bodyPost_ret (pres_run (by rfl) HE.out _ rfl) rfl ⟨q, c5, rfl, HD.out⟩
  · have h0' : (c == 0) = false := by simp [hc0]
    have h0'' : (c != 0) = true := by simp [hc0]
    obtain ⟨⟨s0, s1, s2, s3, s4⟩, ⟨x0, x1, x2, x3, x4⟩, ⟨u0, u1, u2, u3, u4⟩⟩ := pzero5 HRA.out
    clear HCH HG HXA HYA
    go_wp2_with fail
    go_region_held3 (fun V : World => V.cell? ⟨w1.heap.size, 0, none⟩ = some (.int .i64 c)) (first | exact y0 | go_keep) (fail)
    all_goals
      have HCN := hid hc0
      clear hc0
      go_wp2_with fail
      exact bodyPost_ret (pres_run (by rfl) (HRA.out.drewN 1) _ rfl) rfl ⟨PL.zero, c, rfl, .inl ⟨z, HCK.out, HCN.out, Made.none HBA.out.drew⟩⟩
def MoT (p : PL) (n : Int) (q : PL) (c : Int) (w w' : World) : Prop := (∃ z, PChk p.hd p.ts c z ∧ c ≠ 0 ∧ Made q PV.zero w w') ∨ (p.good ∧ ((¬ (-1024 ≤ n ∧ n ≤ 1024) ∧ c = 2 ∧ Made q PV.zero w w') ∨ ((-1024 ≤ n ∧ n ≤ 1024) ∧ ((∃ i, i < p.ts.length ∧ mlong (tT p.ts i).v.q1 (tT p.ts i).v.q2 (oP (tT p.ts i).f (tT p.ts i).r n).1 (oP (tT p.ts i).f (tT p.ts i).r n).2 ∧ c = 3 ∧ Made q PV.zero w w') ∨ (c = 0 ∧ ∃ vs : List TV, vs.length = p.ts.length ∧ (∀ j v, vs[j]? = some v → MvT n (tT p.ts j).v v 0) ∧ Made q ⟨p.s, p.n, p.xs, p.ys, vs⟩ w w')))))
set_option maxHeartbeats 3200000 in
set_option maxRecDepth 100000 in
theorem pMoved_any (p : PL) (n : Int) (w : World) (hp : p.ok w) : Calls Tryz.prog 17 #[.agg p.cells, .int .i64 n] w fun e w' => ∃ (q : PL) (c : Int), e = .returned (.tuple #[.agg q.cells, .int .i64 c]) ∧ MoT p n q c w w' := by
  obtain ⟨X, hX⟩ : ∃ X, w.alloc (.cells #[.string p.s, .bool p.n, .slice p.a p.xs.length p.ca, .slice p.b p.ys.length p.cb, .slice p.t p.ts.length p.ct] 27) = X := ⟨_, rfl⟩
  obtain ⟨X2, hX2⟩ : ∃ X2, X.alloc (.cells #[.int .i64 n] 3) = X2 := ⟨_, rfl⟩
  obtain ⟨Y, hY⟩ : ∃ Y, X2.alloc (.cells #[.string ⟨#[]⟩, .bool false, .slice none 0 0, .slice none 0 0, .slice none 0 0] 27) = Y := ⟨_, rfl⟩
  have hXs : X.heap.size = w.heap.size + 1 := by subst hX; simp
  have hXs2 : X2.heap.size = w.heap.size + 1 + 1 := by subst hX2; simp [hXs]
  have HX : Hid (Box Y w.heap.size 27 #[.string p.s, .bool p.n, .slice p.a p.xs.length p.ca, .slice p.b p.ys.length p.cb, .slice p.t p.ts.length p.ct]) := by
    subst hY hX2 hX
    exact (Box.made w _ _).later (bt (alloc_later _ _) (alloc_later _ _)) (Box.made w 27 _).lt
  have HI : Hid (Box Y (w.heap.size + 1) 3 #[.int .i64 n]) := by
    rw [← hXs]
    subst hY hX2
    exact (Box.made X _ _).later (alloc_later _ _) (Box.made X 3 _).lt
  have HR : Hid (Box Y (w.heap.size + 1 + 1) 27 #[.string ⟨#[]⟩, .bool false, .slice none 0 0, .slice none 0 0, .slice none 0 0]) := by
    rw [← hXs2]
    subst hY
    exact Box.made X2 _ _
  have HB : Hid (Below w.heap.size w Y) := by
    subst hY hX2 hX
    exact bt (alloc_later _ _) (bt (alloc_later _ _) (alloc_later _ _))
  have HYs : Hid (w.heap.size + 1 + 1 < Y.heap.size) := HR.out.lt
  have HCH : Hid (p.good → -1024 ≤ n → n ≤ 1024 → ∀ V, Below Y.heap.size Y V → Box V (w.heap.size + 1) 3 #[.int .i64 n] → Calls Tryz.prog 62 #[.agg #[.string p.s, .bool p.n, .slice p.a p.xs.length p.ca, .slice p.b p.ys.length p.cb, .slice p.t p.ts.length p.ct], .func (.func 63) #[] #[.pointer (some ⟨w.heap.size + 1, 0, none⟩)]] V fun e w' => ∃ (q : PL) (c : Int), e = .returned (.tuple #[.agg #[.string q.s, .bool q.n, .slice q.a q.xs.length q.ca, .slice q.b q.ys.length q.cb, .slice q.t q.ts.length q.ct], .int .i64 c]) ∧ ChT p (fun j => MvT n (tT p.ts j).v) q c V w') := fun hg n0 n1 V hV hbx => by
    have hpV := hp.later (bt HB.out hV)
    exact pchanged_any 63 #[.pointer (some ⟨w.heap.size + 1, 0, none⟩)] p V hpV hg.few (enters_of Tryz.func63 (by kernel_rfl) rfl) _ (fun j U hj hU => pMovedC_any (tT p.ts j) n (w.heap.size + 1) U ((hpV.ts.later hU).1 _ (tT_mem hj)) (hg.at_ hj) n0 n1 (hbx.later hU hbx.lt))
  have HC1 := hid (plcheck_any p Y (hp.later HB.out))
  have HG : Hid (∀ z, PChk p.hd p.ts 0 z → p.good) := fun z h => h.good.1
  have k0 : Y.cell? ⟨w.heap.size, 0, none⟩ = some (.string p.s) := HX.out.cell 0
  have k1 : Y.cell? ⟨w.heap.size, 1, none⟩ = some (.bool p.n) := HX.out.cell 1
  have k2 : Y.cell? ⟨w.heap.size, 2, none⟩ = some (.slice p.a p.xs.length p.ca) := HX.out.cell 2
  have k3 : Y.cell? ⟨w.heap.size, 3, none⟩ = some (.slice p.b p.ys.length p.cb) := HX.out.cell 3
  have k4 : Y.cell? ⟨w.heap.size, 4, none⟩ = some (.slice p.t p.ts.length p.ct) := HX.out.cell 4
  unfold PL.cells
  clear hp
  go_enter Tryz.func17, Tryz.ntmps17
  go_wp2_with fail
  refine Calls.mono HC1.out ?_
  rintro e w1 ⟨c, z, rfl, hc, b1⟩
  have HX1 := hid (HX.out.later b1 HX.out.lt)
  have HR1 := hid (HR.out.later b1 HR.out.lt)
  have HI1 := hid (HI.out.later b1 HI.out.lt)
  obtain ⟨W2, hW2⟩ : ∃ W2, w1.alloc (.cells #[.int .i64 0, .int .i64 0] 40) = W2 := ⟨_, rfl⟩
  have HF : Hid (Box W2 w1.heap.size 40 #[.int .i64 0, .int .i64 0]) := by
    subst hW2
    exact Box.made w1 _ _
  have HB2 : Hid (Below w1.heap.size w1 W2) := by
    subst hW2
    exact alloc_later _ _
  have hs1 : Y.heap.size ≤ w1.heap.size := b1.size
  obtain ⟨A0, A1, q0, q1, ⟨r0, r1⟩, ⟨v0, v1⟩, HA⟩ := rchain2 HF.out (by decide) (.int .i64 c) (.int .i64 z)
  have hy := HYs.out
  have HYA : Hid (Below Y.heap.size Y A1) := HA.out.2.2.2.1 _ _ hs1 (bt b1 HB2.out)
  have HXA := hid (HA.out.2.1 _ _ _ (show w.heap.size ≠ w1.heap.size by omega) (HX1.out.later HB2.out HX1.out.lt))
  have HRA := hid (HA.out.2.1 _ _ _ (show w.heap.size + 1 + 1 ≠ w1.heap.size by omega) (HR1.out.later HB2.out HR1.out.lt))
  have HIA := hid (HA.out.2.1 _ _ _ (show w.heap.size + 1 ≠ w1.heap.size by omega) (HI1.out.later HB2.out HI1.out.lt))
  have HBA := hid (bt HB.out HYA.out)
  have y0 : A1.cell? ⟨w1.heap.size, 0, none⟩ = some (.int .i64 c) := HA.out.1.cell 0
  have HCK := hid hc
  clear b1 HC1 k0 k1 k2 k3 k4 HX1 HR1 HF HB2 HX HR hc HI HI1
  by_cases hc0 : c = 0
  · subst hc0
    have hG := HG.out _ HCK.out
    have HGG := hid hG
    have kn : A1.cell? ⟨w.heap.size + 1, 0, none⟩ = some (.int .i64 n) := HIA.out.cell 0
    by_cases hn : -1024 ≤ n ∧ n ≤ 1024
    · obtain ⟨n0, n1⟩ := hn
      have HN := hid (And.intro n0 n1)
      have n0' : ¬ n < -1024 := by omega
      have n1' : ¬ n > 1024 := by omega
      have n2' : ¬ 1024 < n := by omega
      have k0 : A1.cell? ⟨w.heap.size, 0, none⟩ = some (.string p.s) := HXA.out.cell 0
      have k1 : A1.cell? ⟨w.heap.size, 1, none⟩ = some (.bool p.n) := HXA.out.cell 1
      have k2 : A1.cell? ⟨w.heap.size, 2, none⟩ = some (.slice p.a p.xs.length p.ca) := HXA.out.cell 2
      have k3 : A1.cell? ⟨w.heap.size, 3, none⟩ = some (.slice p.b p.ys.length p.cb) := HXA.out.cell 3
      have k4 : A1.cell? ⟨w.heap.size, 4, none⟩ = some (.slice p.t p.ts.length p.ct) := HXA.out.cell 4
      have hcall := HCH.out hG n0 n1 A1 HYA.out HIA.out
      clear n0 n1
      go_wp2_with fail
      refine Calls.mono hcall ?_
      rintro e w5 ⟨q, c5, rfl, hch⟩
      have hm : ∃ v, Made q v A1 w5 := by
        rcases hch with ⟨_, _, _, _, _, _, h⟩ | ⟨_, _, _, _, h⟩
        · exact ⟨_, h⟩
        · exact ⟨_, h⟩
      obtain ⟨v5, hm⟩ := hm
      have HR5 := hid (HRA.out.later hm.bel HRA.out.lt)
      obtain ⟨A2, A3, A4, A5, A6, q0, q1, q2, q3, q4, ⟨r0, r1, r2, r3, r4⟩, ⟨f0, f1, f2, f3, f4⟩, HA⟩ := pchain5 HR5.out (.string q.s) (.bool q.n) (.slice q.a q.xs.length q.ca) (.slice q.b q.ys.length q.cb) (.slice q.t q.ts.length q.ct)
      have HD : Hid (MoT p n q c5 w A6) := by
        rcases hch with ⟨i, v, hi, _, hr, hn, h⟩ | ⟨h0, vs, h1, h2, h⟩
        · rcases hr with ⟨hl, hc3⟩ | ⟨_, hc3, _⟩
          · exact .inr ⟨HGG.out, .inr ⟨HN.out, .inl ⟨i, hi, hl, hc3, h.put HBA.out (by omega) HA.out⟩⟩⟩
          · exact absurd hc3 hn
        · exact .inr ⟨HGG.out, .inr ⟨HN.out, .inr ⟨h0, vs, h1, (fun j v hj => h2 j v hj), h.put HBA.out (by omega) HA.out⟩⟩⟩
      have HE := hid HA.out.1
      clear hm hch HCH HG HXA HRA HYA HBA k0 k1 k2 k3 k4 HA HR5 hcall
      go_wp2_with fail
      exact bodyPost_ret (pres_run (by rfl) HE.out _ rfl) rfl ⟨q, c5, rfl, HD.out⟩
    · have HN := hid hn
      obtain ⟨⟨s0, s1, s2, s3, s4⟩, ⟨x0, x1, x2, x3, x4⟩, ⟨u0, u1, u2, u3, u4⟩⟩ := pzero5 HRA.out
      clear HCH HG HXA HYA
      by_cases hn0 : n < -1024
      · clear hn
        go_wp2_with fail
        exact bodyPost_ret (pres_run (by rfl) HRA.out _ rfl) rfl ⟨PL.zero, 2, rfl, .inr ⟨HGG.out, .inl ⟨HN.out, rfl, Made.none HBA.out⟩⟩⟩
      · have hn1 : 1024 < n := by omega
        clear hn
        go_wp2_with fail
        exact bodyPost_ret (pres_run (by rfl) HRA.out _ rfl) rfl ⟨PL.zero, 2, rfl, .inr ⟨HGG.out, .inl ⟨HN.out, rfl, Made.none HBA.out⟩⟩⟩
  · have h0' : (c == 0) = false := by simp [hc0]
    have h0'' : (c != 0) = true := by simp [hc0]
    obtain ⟨⟨s0, s1, s2, s3, s4⟩, ⟨x0, x1, x2, x3, x4⟩, ⟨u0, u1, u2, u3, u4⟩⟩ := pzero5 HRA.out
    clear HCH HG HXA HYA
    go_wp2_with fail
    go_region_held3 (fun V : World => V.cell? ⟨w1.heap.size, 0, none⟩ = some (.int .i64 c)) (first | exact y0 | go_keep) (fail)
    all_goals
      have HCN := hid hc0
      clear hc0
      go_wp2_with fail
      exact bodyPost_ret (pres_run (by rfl) (HRA.out.drewN 1) _ rfl) rfl ⟨PL.zero, c, rfl, .inl ⟨z, HCK.out, HCN.out, Made.none HBA.out.drew⟩⟩
end Go.Proofs.YtnfemheabikolaaGreatDoor

/- slices.Delete of one constituent out of a row of one's own. -/
namespace Go.Proofs.YtnfemheabikolaaGreatDoor
open Go.RowKit
set_option linter.unusedVariables false
set_option linter.unusedSimpArgs false

theorem step_append_run {P : Program} {ops : Array Oper} {o : Oper} {a : Act} {w : World} {K : Act → World → Prop} {Q : Exit → Act → World → Prop} {E : Prop}
    (hg : o.guard = none) (s x : Operand) (t : TypeId) (hop : o.op = Op.call { callee := Callee.builtin Builtin.append, args := #[s, x], argTypes := #[t, t] }) (v u v' : Value) (w' : World) (hs : a.eval s = v) (hx : a.eval x = u) (hrun : (Builtin.append_ #[t, t] o.type #[v, u]).run P w = .ok v' w') (hK : K (a.put o.dst v') w') :
    if Region.wanted o (yielded ops a.tmps) = true then Oper.wp P o a w K Q else E := by
  have hw : Region.wanted o (yielded ops a.tmps) = true := by simp [Region.wanted, hg]
  rw [if_pos hw]
  unfold Oper.wp
  simp [execOp, hop, resolve, invoke, builtin, hs, hx, hrun, Result.andThen]
  exact hK
end Go.Proofs.YtnfemheabikolaaGreatDoor

/- package port: Without, of every port and name. -/
namespace Go.Proofs.YtnfemheabikolaaGreatDoor
open Go.RowKit
set_option linter.unusedVariables false
set_option linter.unusedSimpArgs false

end Go.Proofs.YtnfemheabikolaaGreatDoor

/- package port: slices.EqualFunc over constituents. -/
namespace Go.Proofs.YtnfemheabikolaaGreatDoor
open Go.RowKit
set_option linter.unusedVariables false
set_option linter.unusedSimpArgs false

def smB (a b : TL) : Bool := decide (a.s = b.s) && (a.f == b.f && a.r == b.r) && (decide (a.n = b.n ∧ a.xs = b.xs ∧ a.ys = b.ys) && decide (a.m = b.m ∧ a.us = b.us ∧ a.vs = b.vs))
def TL.short (t : TL) : Prop := t.xs.length ≤ 281474976710656 ∧ t.ys.length ≤ 281474976710656 ∧ t.us.length ≤ 281474976710656 ∧ t.vs.length ≤ 281474976710656
theorem tlsame_any (a b : TL) (w : World) (ha : a.ok w) (hb : b.ok w) (sa : a.short) (sb : b.short) : Calls Tryz.prog 85 #[.agg a.cells, .agg b.cells] w fun e w' => e = .returned (.bool (smB a b)) ∧ Below w.heap.size w w' :=
  tSame_any a.s a.f a.r a.n a.a a.ca a.xs a.b a.cb a.ys a.m a.c a.cc a.us a.d a.cd a.vs b.s b.f b.r b.n b.a b.ca b.xs b.b b.cb b.ys b.m b.c b.cc b.us b.d b.cd b.vs w ha.sx ha.sy ha.su ha.sv hb.sx hb.sy hb.su hb.sv sa.1 sa.2.1 sa.2.2.1 sa.2.2.2 sb.1 sb.2.1 sb.2.2.1 sb.2.2.2
end Go.Proofs.YtnfemheabikolaaGreatDoor

/- package port: Same, of any two. -/
namespace Go.Proofs.YtnfemheabikolaaGreatDoor
open Go.RowKit
set_option linter.unusedVariables false

end Go.Proofs.YtnfemheabikolaaGreatDoor

/- Ports that may be, by what they say: what With, Without, Conj and Moved tell of them. -/
namespace Go.Proofs.YtnfemheabikolaaGreatDoor
open Go.RowKit
set_option linter.unusedVariables false
set_option linter.unusedSimpArgs false

theorem nmEq {s t : ByteArray} : (s.toList == t.toList) = true ↔ s = t := by
  constructor
  · intro h
    rw [ByteArray.toList_eq, ByteArray.toList_eq] at h
    exact ByteArray.ext (Array.toList_inj.1 (eq_of_beq h))
  · rintro rfl; simp
theorem nmEq' {s t : ByteArray} : s.data.toList = t.data.toList ↔ s = t := ⟨fun h => ByteArray.ext (Array.toList_inj.1 h), fun h => by rw [h]⟩
def vT (vs : List TV) (j : Nat) : TV := vs[j]?.getD TV.zero
theorem vT_at {vs : List TV} {j : Nat} (h : j < vs.length) : vs[j]? = some (vT vs j) := by
  unfold vT
  rw [List.getElem?_eq_getElem h]; rfl
theorem vT_of {vs : List TV} {j : Nat} {v : TV} (h : vs[j]? = some v) : vT vs j = v := by
  unfold vT
  rw [h]; rfl
theorem tT_v (ts : List TL) (j : Nat) : (tT ts j).v = vT (ts.map TL.v) j := by
  unfold tT vT
  rw [List.getElem?_map]
  cases ts[j]? <;> rfl
def TV.chk (t : TV) : Int := tchk t.s.data.toList t.f t.r (gchk t.n t.xs t.ys t.m t.us t.vs)
structure PV.Good (v : PV) : Prop where
  nm : tname v.s.data.toList = true
  mean : rchk v.n v.xs v.ys = 0
  len : v.ts.length ≤ 24
  chk : ∀ j, j < v.ts.length → (vT v.ts j).chk = 0
  nms : ∀ k j, k < j → j < v.ts.length → (vT v.ts k).s ≠ (vT v.ts j).s
  rot : ∀ k j, k < j → j < v.ts.length → ¬ ((vT v.ts k).f = (vT v.ts j).f ∧ (vT v.ts k).r = (vT v.ts j).r)
theorem PL.good_iff {p : PL} : p.good ↔ p.v.Good := by
  have hl : p.v.ts.length = p.ts.length := List.length_map ..
  have ht : ∀ j, vT p.v.ts j = (tT p.ts j).v := fun j => (tT_v p.ts j).symm
  constructor
  · intro h
    refine ⟨h.nm, h.mean, by rw [hl]; exact h.len, fun j hj => ?_, fun k j hk hj => ?_, fun k j hk hj => ?_⟩
    · rw [ht]; exact (h.all j (by omega)).1
    · rw [ht, ht]
      intro e
      exact (h.all j (by omega)).2.1 ⟨k, hk, nmEq'.2 e⟩
    · rw [ht, ht]
      rintro ⟨e1, e2⟩
      exact (h.all j (by omega)).2.2 ⟨k, hk, Prod.ext e1 e2⟩
  · intro h
    refine ⟨h.nm, h.mean, by rw [← hl]; exact h.len, fun j hj => ⟨?_, ?_, ?_⟩⟩
    · have q := h.chk j (by omega)
      rw [ht] at q
      exact q
    · rintro ⟨k, hk, e⟩
      have q := h.nms k j hk (by omega)
      rw [ht, ht] at q
      exact q (nmEq'.1 e)
    · rintro ⟨k, hk, e⟩
      have q := h.rot k j hk (by omega)
      rw [ht, ht] at q
      exact q ⟨congrArg Prod.fst e, congrArg Prod.snd e⟩
theorem PCk.one0 {p : PL} {c z : Int} (h : PChk p.hd p.ts c z) (hg : p.v.Good) : c = 0 := by
  have g := (PL.good_iff.2 hg).chk
  rcases h with ⟨h0, h1, _⟩ | ⟨h0, h1⟩ <;> rcases g with ⟨g0, g1, _⟩ | ⟨g0, g1⟩
  · exact absurd g1.symm g0
  · exact absurd g0 h0
  · exact absurd g1.symm g0
  · exact (h1.one g1).1
theorem TV.chk_is {t : TV} (h : t.chk = 0) (wx : Wd t.xs) (wy : Wd t.ys) (wu : Wd t.us) (wv : Wd t.vs) : t.Is t.q1 t.q2 := by
  obtain ⟨g1, g2⟩ := gchk_ok (tchk_ok h).2.2
  exact ⟨⟨g1, rfl⟩, ⟨g2, rfl⟩, wx, wy, wu, wv⟩
theorem TV.Is.chk {t : TV} {q1 q2 : Rat} (h : t.Is q1 q2) (hn : tname t.s.data.toList = true) (ho : ochk t.f t.r = 0) : t.chk = 0 := by
  unfold TV.chk
  rw [tchk_rest _ _ _ hn, ho, fstE_zero]
  unfold gchk
  rw [h.1.1, fstE_zero, h.2.1.1]
def Mv (n : Int) (t v : TV) : Prop := v.s = t.s ∧ v.f = t.f ∧ v.r = t.r ∧ v.Is (t.q1 * (oP t.f t.r n).1 - t.q2 * (oP t.f t.r n).2) (t.q1 * (oP t.f t.r n).2 + t.q2 * (oP t.f t.r n).1)
theorem MvT.mv {n : Int} {t v : TV} (h : MvT n t v 0) : Mv n t v := by
  rcases h with ⟨_, e⟩ | ⟨_, _, h⟩
  · cases e
  · exact h
theorem pMoved_good (p : PL) (n : Int) (w : World) (hp : p.ok w) (hg : p.v.Good) (n0 : -1024 ≤ n) (n1 : n ≤ 1024) (hs : ∀ j, j < p.v.ts.length → ¬ mlong (vT p.v.ts j).q1 (vT p.v.ts j).q2 (oP (vT p.v.ts j).f (vT p.v.ts j).r n).1 (oP (vT p.v.ts j).f (vT p.v.ts j).r n).2) :
    Calls Tryz.prog 17 #[.agg p.cells, .int .i64 n] w fun e w' => ∃ (q : PL) (vs : List TV), e = .returned (.tuple #[.agg q.cells, .int .i64 0]) ∧ (vs.length = p.v.ts.length ∧ ∀ j, j < p.v.ts.length → Mv n (vT p.v.ts j) (vT vs j)) ∧ Made q ⟨p.s, p.n, p.xs, p.ys, vs⟩ w w' := by
  have hl : p.v.ts.length = p.ts.length := List.length_map ..
  refine Calls.mono (pMoved_any p n w hp) ?_
  rintro e w' ⟨q, c, rfl, h⟩
  rcases h with ⟨z, hz, hc, _⟩ | ⟨_, ⟨hn, _⟩ | ⟨_, ⟨i, hi, hm, _⟩ | ⟨rfl, vs, h1, h2, h3⟩⟩⟩
  · exact absurd (PCk.one0 hz hg) hc
  · exact absurd ⟨n0, n1⟩ hn
  · have q := hs i (by omega)
    rw [show vT p.v.ts i = (tT p.ts i).v from (tT_v p.ts i).symm] at q
    exact absurd hm q
  · refine ⟨q, vs, rfl, ⟨by omega, fun j hj => ?_⟩, h3⟩
    rw [show vT p.v.ts j = (tT p.ts j).v from (tT_v p.ts j).symm]
    exact (h2 j _ (vT_at (by omega))).mv
theorem pConj_good (p : PL) (w : World) (hp : p.ok w) (hg : p.v.Good) :
    Calls Tryz.prog 31 #[.agg p.cells] w fun e w' => ∃ (q : PL) (vs : List TV), e = .returned (.tuple #[.agg q.cells, .int .i64 0]) ∧ (vs.length = p.v.ts.length ∧ ∀ j, j < p.v.ts.length → CjT (vT p.v.ts j) (vT vs j) 0) ∧ Made q ⟨p.s, p.n, p.xs, p.ys, vs⟩ w w' := by
  have hl : p.v.ts.length = p.ts.length := List.length_map ..
  refine Calls.mono (pConj_any p w hp) ?_
  rintro e w' ⟨q, c, rfl, h⟩
  rcases h with ⟨z, hz, hc, _⟩ | ⟨_, rfl, vs, h1, h2, h3⟩
  · exact absurd (PCk.one0 hz hg) hc
  · refine ⟨q, vs, rfl, ⟨by omega, fun j hj => ?_⟩, h3⟩
    rw [show vT p.v.ts j = (tT p.ts j).v from (tT_v p.ts j).symm]
    exact h2 j _ (vT_at (by omega))
theorem vT_snoc_lt {vs : List TV} {t : TV} {j : Nat} (h : j < vs.length) : vT (vs ++ [t]) j = vT vs j := by
  unfold vT
  rw [List.getElem?_append_left h]
theorem vT_snoc_eq {vs : List TV} {t : TV} : vT (vs ++ [t]) vs.length = t := by
  unfold vT
  rw [List.getElem?_append_right (Nat.le_refl _), Nat.sub_self]; rfl
theorem pWith_told (p : PL) (t : TL) (w : World) (hp : p.ok w) (ht : t.ok w) (hg : p.v.Good) :
    Calls Tryz.prog 9 #[.agg p.cells, .agg t.cells] w fun e w' => ∃ (q : PL) (c : Int), e = .returned (.tuple #[.agg q.cells, .int .i64 c]) ∧ ((c ≠ 0 ∧ Made q PV.zero w w' ∧ (t.v.chk ≠ 0 ∨ p.v.ts.length = 24 ∨ ∃ j, j < p.v.ts.length ∧ ((vT p.v.ts j).s = t.s ∨ ((vT p.v.ts j).f = t.f ∧ (vT p.v.ts j).r = t.r)))) ∨ (c = 0 ∧ (p.v.more t.v).Good ∧ (∀ j, j < p.v.ts.length → (vT p.v.ts j).s ≠ t.s) ∧ Made q (p.v.more t.v) w w')) := by
  have hl : p.v.ts.length = p.ts.length := List.length_map ..
  have hT : ∀ j, vT p.v.ts j = (tT p.ts j).v := fun j => (tT_v p.ts j).symm
  have hcl : ∀ j, clB (tT p.ts j) t = true ↔ ((vT p.v.ts j).s = t.s ∨ ((vT p.v.ts j).f = t.f ∧ (vT p.v.ts j).r = t.r)) := fun j => by
    unfold clB
    rw [hT, Bool.or_eq_true, nmEq, Bool.and_eq_true, beq_iff_eq, beq_iff_eq]
    exact Iff.rfl
  refine Calls.mono (pWith_any p t w hp ht) ?_
  rintro e w' ⟨q, c, rfl, h, hm⟩
  refine ⟨q, c, rfl, ?_⟩
  rcases h with ⟨z, hz, hc⟩ | ⟨_, ⟨h0, rfl⟩ | ⟨h0, ⟨⟨j, hj, hh⟩, rfl⟩ | ⟨hh, ⟨h24, rfl⟩ | ⟨h24, rfl⟩⟩⟩⟩
  · exact absurd (PCk.one0 hz hg) hc
  · rw [if_neg h0] at hm
    exact .inl ⟨h0, hm, .inl h0⟩
  · exact .inl ⟨by decide, hm, .inr (.inr ⟨j, by omega, (hcl j).1 hh⟩)⟩
  · exact .inl ⟨by decide, hm, .inr (.inl (by omega))⟩
  · have hno : ∀ j, j < p.v.ts.length → ¬ ((vT p.v.ts j).s = t.s ∨ ((vT p.v.ts j).f = t.f ∧ (vT p.v.ts j).r = t.r)) := fun j hj hq => hh ⟨j, by omega, (hcl j).2 hq⟩
    have hl2 : (p.v.ts ++ [t.v]).length = p.v.ts.length + 1 := by simp
    have h24' := hg.len
    refine .inr ⟨rfl, ⟨hg.nm, hg.mean, by show (p.v.ts ++ [t.v]).length ≤ 24; omega, fun j hj => ?_, fun k j hk hj => ?_, fun k j hk hj => ?_⟩, fun j hj hq => hno j hj (.inl hq), hm⟩
    · show (vT (p.v.ts ++ [t.v]) j).chk = 0
      have hj' : j < (p.v.ts ++ [t.v]).length := hj
      rcases Nat.lt_or_ge j p.v.ts.length with g | g
      · rw [vT_snoc_lt g]; exact hg.chk j g
      · obtain rfl : j = p.v.ts.length := by omega
        rw [vT_snoc_eq]; exact h0
    · show (vT (p.v.ts ++ [t.v]) k).s ≠ (vT (p.v.ts ++ [t.v]) j).s
      have hj' : j < (p.v.ts ++ [t.v]).length := hj
      rcases Nat.lt_or_ge j p.v.ts.length with g | g
      · rw [vT_snoc_lt g, vT_snoc_lt (by omega)]; exact hg.nms k j hk g
      · obtain rfl : j = p.v.ts.length := by omega
        rw [vT_snoc_eq, vT_snoc_lt hk]
        exact fun e => hno k hk (.inl e)
    · show ¬ ((vT (p.v.ts ++ [t.v]) k).f = (vT (p.v.ts ++ [t.v]) j).f ∧ (vT (p.v.ts ++ [t.v]) k).r = (vT (p.v.ts ++ [t.v]) j).r)
      have hj' : j < (p.v.ts ++ [t.v]).length := hj
      rcases Nat.lt_or_ge j p.v.ts.length with g | g
      · rw [vT_snoc_lt g, vT_snoc_lt (by omega)]; exact hg.rot k j hk g
      · obtain rfl : j = p.v.ts.length := by omega
        rw [vT_snoc_eq, vT_snoc_lt hk]
        exact fun e => hno k hk (.inr e)
theorem mshort {q1 q2 P1 P2 : Rat} {K J : Nat} (h1 : Hgt q1 (2 ^ K)) (h2 : Hgt q2 (2 ^ K)) (g1 : Hgt P1 (2 ^ J)) (g2 : Hgt P2 (2 ^ J)) (hk : K + J + (K + J) + 1 < 65536) : ¬ mlong q1 q2 P1 P2 := by
  have mul : ∀ {a b : Rat}, Hgt a (2 ^ K) → Hgt b (2 ^ J) → Hgt (a * b) (2 ^ (K + J)) := fun ha hb => by rw [Nat.pow_add]; exact ha.mul hb
  have two : ∀ m : Nat, 2 * (2 ^ m * 2 ^ m) = 2 ^ (m + m + 1) := fun m => by rw [← Nat.pow_add, Nat.pow_succ, Nat.mul_comm]
  have a1 := mul h1 g1
  have a2 := mul h2 g2
  have a3 := mul h1 g2
  have a4 := mul h2 g1
  have s1 := a1.sub a2
  have s2 := a3.add a4
  rw [two] at s1 s2
  rintro (((h | h) | h) | ((h | h) | h))
  · exact a1.short (by omega) h
  · exact a2.short (by omega) h
  · exact s1.short (by omega) h
  · exact a3.short (by omega) h
  · exact a4.short (by omega) h
  · exact s2.short (by omega) h
theorem oP_hgt {f r : Int} (h : rOK f r) (n : Int) (K : Nat) (hk : n.natAbs ≤ K) : Hgt (oP f r n).1 (2 ^ (21 * K)) ∧ Hgt (oP f r n).2 (2 ^ (21 * K)) := by
  obtain ⟨a, b⟩ := oP_hg h n K hk
  unfold OHg o2 at a b
  exact ⟨⟨a.1, a.2⟩, ⟨b.1, b.2⟩⟩
end Go.Proofs.YtnfemheabikolaaGreatDoor

/- package port: Print, of every port. (tools/mkqcb.py) -/
namespace Go.Proofs.YtnfemheabikolaaGreatDoor
open Go.RowKit
set_option linter.unusedVariables false
set_option linter.unusedSimpArgs false

def TV.line (t : TV) : List UInt8 := ttext t.s.data.toList t.f t.r (gtext t.n t.xs t.ys t.m t.us t.vs) ++ [10]
def PV.head (p : PV) : List UInt8 := [112, 111, 114, 116, 32] ++ p.s.data.toList ++ [32] ++ rtext p.n p.xs p.ys ++ [10]
def PV.upto (p : PV) (i : Nat) : List UInt8 := p.head ++ (p.ts.take i).flatMap TV.line
def PV.text (p : PV) : List UInt8 := p.head ++ p.ts.flatMap TV.line
theorem PV.upto_zero (p : PV) : p.upto 0 = p.head := by unfold PV.upto; rw [List.take_zero, List.flatMap_nil, List.append_nil]
theorem PV.upto_all (p : PV) : p.upto p.ts.length = p.text := by unfold PV.upto PV.text; rw [List.take_length]
theorem PV.upto_next (p : PV) {i : Nat} {t : TV} (h : p.ts[i]? = some t) : p.upto (i + 1) = p.upto i ++ t.line := by
  unfold PV.upto
  rw [List.take_add_one, h]
  show p.head ++ List.flatMap TV.line (List.take i p.ts ++ [t]) = _
  rw [List.flatMap_append, ← List.append_assoc, List.flatMap_cons, List.flatMap_nil, List.append_nil]
theorem PV.upto_le (p : PV) (i : Nat) : (p.upto i).length ≤ p.text.length := by
  unfold PV.upto PV.text
  have h : p.ts = p.ts.take i ++ p.ts.drop i := (List.take_append_drop i p.ts).symm
  rw [List.length_append, List.length_append]
  conv => rhs; rw [h, List.flatMap_append, List.length_append]
  omega
def PpT (p : PL) (S : ByteArray) (c : Int) : Prop := (∃ z, PChk p.hd p.ts c z ∧ c ≠ 0 ∧ S = ⟨#[]⟩) ∨ (p.good ∧ ((65536 < p.v.text.length ∧ c = 3 ∧ S = ⟨#[]⟩) ∨ (p.v.text.length ≤ 65536 ∧ c = 0 ∧ S.data.toList = p.v.text)))
theorem pline_err {t : TL} (hk : t.chk = 0) : (tpErr (tchk t.s.data.toList t.f t.r (gchk t.n t.xs t.ys t.m t.us t.vs)) t.s.data.toList t.f t.r (gpErr t.n t.xs t.ys t.m t.us t.vs) (gtext t.n t.xs t.ys t.m t.us t.vs) = 0 ∧ t.v.line.length ≤ 65537) ∨ (tpErr (tchk t.s.data.toList t.f t.r (gchk t.n t.xs t.ys t.m t.us t.vs)) t.s.data.toList t.f t.r (gpErr t.n t.xs t.ys t.m t.us t.vs) (gtext t.n t.xs t.ys t.m t.us t.vs) = 3 ∧ 65537 < t.v.line.length) := by
  have hk' : tchk t.s.data.toList t.f t.r (gchk t.n t.xs t.ys t.m t.us t.vs) = 0 := hk
  have hl : t.v.line.length = (ttext t.s.data.toList t.f t.r (gtext t.n t.xs t.ys t.m t.us t.vs)).length + 1 := by
    show (ttext _ _ _ _ ++ [10]).length = _
    rw [List.length_append]; rfl
  have hg : gpErr t.n t.xs t.ys t.m t.us t.vs = if 65536 < (gtext t.n t.xs t.ys t.m t.us t.vs).length then 3 else 0 := by unfold gpErr; rw [(tchk_ok hk').2.2, fstE_zero]
  have hs : (gtext t.n t.xs t.ys t.m t.us t.vs).length ≤ (ttext t.s.data.toList t.f t.r (gtext t.n t.xs t.ys t.m t.us t.vs)).length := by
    unfold ttext
    simp only [List.length_append, List.length_cons]
    omega
  rw [hl]
  by_cases h1 : 65536 < (gtext t.n t.xs t.ys t.m t.us t.vs).length
  · rw [if_pos h1] at hg
    right
    refine ⟨by rw [tpErr_num hk' (by rw [hg]; decide), hg], by omega⟩
  · rw [if_neg h1] at hg
    by_cases h2 : 65536 < (ttext t.s.data.toList t.f t.r (gtext t.n t.xs t.ys t.m t.us t.vs)).length
    · exact .inr ⟨tpErr_long hk' hg h2, by omega⟩
    · exact .inl ⟨tpErr_ok hk' hg h2, by omega⟩
theorem pline_ok {t : TL} {S : ByteArray} (h : S.data.toList = ttext t.s.data.toList t.f t.r (gtext t.n t.xs t.ys t.m t.us t.vs)) : (S ++ (⟨#[10]⟩ : ByteArray)).data.toList = t.v.line := by
  rw [ByteArray.data_append, Array.toList_append, h]; rfl
theorem phead_ok {p : PL} {S : ByteArray} (h : S.data.toList = rtext p.n p.xs p.ys) : ((⟨#[112, 111, 114, 116, 32]⟩ : ByteArray) ++ p.s ++ (⟨#[32]⟩ : ByteArray) ++ S ++ (⟨#[10]⟩ : ByteArray)).data.toList = p.v.head := by
  simp only [ByteArray.data_append, Array.toList_append, h]
  show _ = [112, 111, 114, 116, 32] ++ p.s.data.toList ++ [32] ++ rtext p.n p.xs p.ys ++ [10]
  simp
set_option maxHeartbeats 3200000 in
set_option maxRecDepth 100000 in
theorem pPrint_any (p : PL) (w : World) (hp : p.ok w) (htab : Tab w) : Calls Tryz.prog 39 #[.agg p.cells] w fun e w' => ∃ (S : ByteArray) (c : Int), e = .returned (.tuple #[.string S, .int .i64 c]) ∧ PpT p S c ∧ Below w.heap.size w w' := by
  obtain ⟨Y, hY⟩ : ∃ Y, w.alloc (.cells #[.string p.s, .bool p.n, .slice p.a p.xs.length p.ca, .slice p.b p.ys.length p.cb, .slice p.t p.ts.length p.ct] 27) = Y := ⟨_, rfl⟩
  have HX : Hid (Box Y w.heap.size 27 #[.string p.s, .bool p.n, .slice p.a p.xs.length p.ca, .slice p.b p.ys.length p.cb, .slice p.t p.ts.length p.ct]) := by
    subst hY
    exact Box.made w _ _
  have HB : Hid (Below w.heap.size w Y) := by
    subst hY
    exact alloc_later _ _
  have HC1 := hid (plcheck_any p Y (hp.later HB.out))
  have HTS : Hid (∀ V, Below w.heap.size w V → RdT V p.t p.ts) := fun V hV => hp.ts.later hV
  have HRP : Hid (∀ V, Below Y.heap.size Y V → Calls Tryz.prog 96 #[.agg #[.bool p.n, .slice p.a p.xs.length p.ca, .slice p.b p.ys.length p.cb]] V (RPr p.n p.xs p.ys V)) := fun V hV => grPrint_any p.n p.a p.ca p.xs p.b p.cb p.ys V (hp.sx.later (bt HB.out hV)) (hp.sy.later (bt HB.out hV)) (htab.later (bt HB.out hV))
  have HTP : Hid (∀ j V, j < p.ts.length → Below w.heap.size w V → (tT p.ts j).chk = 0 → Calls Tryz.prog 97 #[.agg #[.string (tT p.ts j).s, .int .i32 (tT p.ts j).f, .int .i32 (tT p.ts j).r, .bool (tT p.ts j).n, .slice (tT p.ts j).a (tT p.ts j).xs.length (tT p.ts j).ca, .slice (tT p.ts j).b (tT p.ts j).ys.length (tT p.ts j).cb, .bool (tT p.ts j).m, .slice (tT p.ts j).c (tT p.ts j).us.length (tT p.ts j).cc, .slice (tT p.ts j).d (tT p.ts j).vs.length (tT p.ts j).cd]] V fun x w' => ∃ (S : ByteArray) (c : Int), x = .returned (.tuple #[.string S, .int .i64 c]) ∧ ((c = 0 ∧ (tT p.ts j).v.line.length ≤ 65537 ∧ (S ++ (⟨#[10]⟩ : ByteArray)).data.toList = (tT p.ts j).v.line) ∨ (c = 3 ∧ 65537 < (tT p.ts j).v.line.length)) ∧ Below V.heap.size V w') := fun j V hj hV hk => by
    have ht := (hp.ts.later hV).1 _ (tT_mem hj)
    refine Calls.mono (tPrint_any (tT p.ts j).s (tT p.ts j).f (tT p.ts j).r (tT p.ts j).n (tT p.ts j).a (tT p.ts j).ca (tT p.ts j).xs (tT p.ts j).b (tT p.ts j).cb (tT p.ts j).ys (tT p.ts j).m (tT p.ts j).c (tT p.ts j).cc (tT p.ts j).us (tT p.ts j).d (tT p.ts j).cd (tT p.ts j).vs V ht.size ht.rot ht.sx ht.sy ht.su ht.sv (htab.later hV)) ?_
    rintro x w' ⟨S, rfl, h1, h2, hb⟩
    refine ⟨S, _, rfl, ?_, hb⟩
    rcases pline_err hk with ⟨e, l⟩ | ⟨e, l⟩
    · exact .inl ⟨e, l, pline_ok (h1 e)⟩
    · exact .inr ⟨e, l⟩
  have HG : Hid (∀ z, PChk p.hd p.ts 0 z → p.good) := fun z h => h.good.1
  have HRS : Hid (p.good → (rtext p.n p.xs p.ys).length ≤ 40964) := fun h => rtext_short hp.sx.wd hp.sy.wd h.mean
  have k0 : Y.cell? ⟨w.heap.size, 0, none⟩ = some (.string p.s) := HX.out.cell 0
  have k1 : Y.cell? ⟨w.heap.size, 1, none⟩ = some (.bool p.n) := HX.out.cell 1
  have k2 : Y.cell? ⟨w.heap.size, 2, none⟩ = some (.slice p.a p.xs.length p.ca) := HX.out.cell 2
  have k3 : Y.cell? ⟨w.heap.size, 3, none⟩ = some (.slice p.b p.ys.length p.cb) := HX.out.cell 3
  have k4 : Y.cell? ⟨w.heap.size, 4, none⟩ = some (.slice p.t p.ts.length p.ct) := HX.out.cell 4
  unfold PL.cells
  clear hp htab
  go_enter Tryz.func39, Tryz.ntmps39
  go_wp2_with fail
  refine Calls.mono HC1.out ?_
  rintro e w1 ⟨c, z, rfl, hc, b1⟩
  have HX1 := hid (HX.out.later b1 HX.out.lt)
  obtain ⟨W2, hW2⟩ : ∃ W2, w1.alloc (.cells #[.int .i64 0, .int .i64 0] 40) = W2 := ⟨_, rfl⟩
  have HF : Hid (Box W2 w1.heap.size 40 #[.int .i64 0, .int .i64 0]) := by
    subst hW2
    exact Box.made w1 _ _
  have HB2 : Hid (Below w1.heap.size w1 W2) := by
    subst hW2
    exact alloc_later _ _
  have hs1 : Y.heap.size ≤ w1.heap.size := b1.size
  obtain ⟨A0, A1, q0, q1, ⟨r0, r1⟩, ⟨v0, v1⟩, HA⟩ := rchain2 HF.out (by decide) (.int .i64 c) (.int .i64 z)
  have HYA : Hid (Below Y.heap.size Y A1) := HA.out.2.2.2.1 _ _ hs1 (bt b1 HB2.out)
  have hlt := HX.out.lt
  have HXA := hid (HA.out.2.1 _ _ _ (show w.heap.size ≠ w1.heap.size by omega) (HX1.out.later HB2.out HX1.out.lt))
  have HBA := hid (bt HB.out HYA.out)
  have y0 : A1.cell? ⟨w1.heap.size, 0, none⟩ = some (.int .i64 c) := HA.out.1.cell 0
  have HCK := hid hc
  clear b1 HC1 k0 k1 k2 k3 k4 HX1 HF HB2 HX hc
  by_cases hc0 : c = 0
  · subst hc0
    have hG := HG.out _ HCK.out
    have HGG := hid hG
    have k0 : A1.cell? ⟨w.heap.size, 0, none⟩ = some (.string p.s) := HXA.out.cell 0
    have k1 : A1.cell? ⟨w.heap.size, 1, none⟩ = some (.bool p.n) := HXA.out.cell 1
    have k2 : A1.cell? ⟨w.heap.size, 2, none⟩ = some (.slice p.a p.xs.length p.ca) := HXA.out.cell 2
    have k3 : A1.cell? ⟨w.heap.size, 3, none⟩ = some (.slice p.b p.ys.length p.cb) := HXA.out.cell 3
    have k4 : A1.cell? ⟨w.heap.size, 4, none⟩ = some (.slice p.t p.ts.length p.ct) := HXA.out.cell 4
    go_wp2_with fail
    refine Calls.mono (HRP.out A1 HYA.out) ?_
    rintro e w3 ⟨S, rfl, hS, b3⟩
    rw [hG.mean]
    have HX3 := hid (HXA.out.later b3 HXA.out.lt)
    have HB3 := hid (bt HBA.out b3)
    have HSS := hid (hS hG.mean)
    have HHD := hid (phead_ok (p := p) HSS.out)
    have hSz : S.size ≤ 40964 := by
      have h1 := HRS.out hG
      rw [← HSS.out] at h1
      have h2 : S.data.toList.length = S.size := Array.length_toList
      omega
    have hNz : p.s.size ≤ 20 := by
      have h1 := (tname_ok hG.nm).2
      have h2 : p.s.data.toList.length = p.s.size := Array.length_toList
      omega
    clear b3 hS k0 k1 k2 k3 k4 HXA HYA HRP q0 q1 r0 r1 v0 v1 y0 HA HCK hW2 hs1 HRS
    have k0 : w3.cell? ⟨w.heap.size, 0, none⟩ = some (.string p.s) := HX3.out.cell 0
    have k1 : w3.cell? ⟨w.heap.size, 1, none⟩ = some (.bool p.n) := HX3.out.cell 1
    have k2 : w3.cell? ⟨w.heap.size, 2, none⟩ = some (.slice p.a p.xs.length p.ca) := HX3.out.cell 2
    have k3 : w3.cell? ⟨w.heap.size, 3, none⟩ = some (.slice p.b p.ys.length p.cb) := HX3.out.cell 3
    have k4 : w3.cell? ⟨w.heap.size, 4, none⟩ = some (.slice p.t p.ts.length p.ct) := HX3.out.cell 4
    go_wp2_with fail
    clear k0 k1 k2 k3 k4
    have HTZ : Hid (((⟨#[112, 111, 114, 116, 32]⟩ : ByteArray) ++ p.s ++ (⟨#[32]⟩ : ByteArray) ++ S ++ (⟨#[10]⟩ : ByteArray)).size ≤ 60000) := by
      show _ ≤ _
      simp only [ByteArray.size_append]
      have e1 : (⟨#[112, 111, 114, 116, 32]⟩ : ByteArray).size = 5 := rfl
      have e2 : (⟨#[32]⟩ : ByteArray).size = 1 := rfl
      have e3 : (⟨#[10]⟩ : ByteArray).size = 1 := rfl
      omega
    clear hSz hNz HSS
    obtain ⟨N, hN⟩ : ∃ N, p.ts.length = N := ⟨_, rfl⟩
    have HLN := hid hN
    have hN24 : N ≤ 24 := by rw [← hN]; exact hG.len
    rw [hN]
    clear hN
    go_loopw [7, 38] (fun v x wr => ∃ (i : Nat) (T : ByteArray), x = .int .i64 (i : Int) ∧ i ≤ N ∧ v = .string T ∧ Hid (T.data.toList = p.v.upto i) ∧ T.size ≤ 60000 + 65537 * i ∧ Hid (Below w.heap.size w wr)) (fun _ x _ => N - (intOf x).toNat)
    case atStart => exact ⟨0, _, rfl, by omega, rfl, hid (HHD.out.trans (PV.upto_zero _).symm), by have := HTZ.out; omega, HB3⟩
    case round =>
      obtain ⟨i, T, rfl, hi, rfl, HT, hTz, HBW⟩ := hrel
      by_cases hin : i < N
      · have hil : i < p.ts.length := by rw [HLN.out]; exact hin
        have HTW := hid (HTS.out wr HBW.out)
        rcases HTW.out.2 with e | ⟨bb, o, hpt, hbb, hc⟩
        · rw [e] at hil; exact absurd hil (by simp)
        have HCC : Hid (∀ V, Below w.heap.size w V → _) := fun V hV => HTP.out i V hil hV (HGG.out.at_ hil)
        have HNX : Hid (p.v.upto (i + 1) = p.v.upto i ++ (tT p.ts i).v.line) := PV.upto_next _ (by
          show (p.ts.map TL.v)[i]? = _
          rw [List.getElem?_map, tT_at hil]; rfl)
        have hci := hc i _ (tT_at hil)
        have e0 := hci 0 (by decide)
        have e1 := hci 1 (by decide)
        have e2 := hci 2 (by decide)
        have e3 := hci 3 (by decide)
        have e4 := hci 4 (by decide)
        have e5 := hci 5 (by decide)
        have e6 := hci 6 (by decide)
        have e7 := hci 7 (by decide)
        have e8 := hci 8 (by decide)
        clear hci hc
        rw [hpt]
        generalize tT p.ts i = tt at *
        have c0 : wr.cell? ⟨bb, o + i * 9, none⟩ = some (.string tt.s) := e0
        have c1 : wr.cell? ⟨bb, o + i * 9 + 1, none⟩ = some (.int .i32 tt.f) := e1
        have c2 : wr.cell? ⟨bb, o + i * 9 + 2, none⟩ = some (.int .i32 tt.r) := e2
        have c3 : wr.cell? ⟨bb, o + i * 9 + 3, none⟩ = some (.bool tt.n) := e3
        have c4 : wr.cell? ⟨bb, o + i * 9 + 4, none⟩ = some (.slice tt.a tt.xs.length tt.ca) := e4
        have c5 : wr.cell? ⟨bb, o + i * 9 + 5, none⟩ = some (.slice tt.b tt.ys.length tt.cb) := e5
        have c6 : wr.cell? ⟨bb, o + i * 9 + 6, none⟩ = some (.bool tt.m) := e6
        have c7 : wr.cell? ⟨bb, o + i * 9 + 7, none⟩ = some (.slice tt.c tt.us.length tt.cc) := e7
        have c8 : wr.cell? ⟨bb, o + i * 9 + 8, none⟩ = some (.slice tt.d tt.vs.length tt.cd) := e8
        clear e0 e1 e2 e3 e4 e5 e6 e7 e8
        obtain ⟨A0, A1, A2, A3, A4, A5, A6, A7, A8, q0, q1, q2, q3, q4, q5, q6, q7, q8, ⟨r0, r1, r2, r3, r4, r5, r6, r7, r8⟩, ⟨f0, f1, f2, f3, f4, f5, f6, f7, f8⟩, HA⟩ := tlbox wr tt
        have HBA' := hid (bt HBW.out HA.out.2)
        have m0 : A8.cell? ⟨wr.heap.size, 0, none⟩ = some (.string tt.s) := HA.out.1.cell 0
        have m1 : A8.cell? ⟨wr.heap.size, 1, none⟩ = some (.int .i32 tt.f) := HA.out.1.cell 1
        have m2 : A8.cell? ⟨wr.heap.size, 2, none⟩ = some (.int .i32 tt.r) := HA.out.1.cell 2
        have m3 : A8.cell? ⟨wr.heap.size, 3, none⟩ = some (.bool tt.n) := HA.out.1.cell 3
        have m4 : A8.cell? ⟨wr.heap.size, 4, none⟩ = some (.slice tt.a tt.xs.length tt.ca) := HA.out.1.cell 4
        have m5 : A8.cell? ⟨wr.heap.size, 5, none⟩ = some (.slice tt.b tt.ys.length tt.cb) := HA.out.1.cell 5
        have m6 : A8.cell? ⟨wr.heap.size, 6, none⟩ = some (.bool tt.m) := HA.out.1.cell 6
        have m7 : A8.cell? ⟨wr.heap.size, 7, none⟩ = some (.slice tt.c tt.us.length tt.cc) := HA.out.1.cell 7
        have m8 : A8.cell? ⟨wr.heap.size, 8, none⟩ = some (.slice tt.d tt.vs.length tt.cd) := HA.out.1.cell 8
        have hi0' : (0 : Int) ≤ (i : Int) := by omega
        have hi1 : (i : Int) < (N : Int) := by omega
        clear HA hbb
        go_wp2_with fail
        clear q0 q1 q2 q3 q4 q5 q6 q7 q8 r0 r1 r2 r3 r4 r5 r6 r7 r8 f0 f1 f2 f3 f4 f5 f6 f7 f8 c0 c1 c2 c3 c4 c5 c6 c7 c8
        refine Calls.mono (HCC.out _ HBA'.out) ?_
        rintro e w5 ⟨S2, cc, rfl, hcs, hb5⟩
        have HB5 := hid (bt HBA'.out hb5)
        have hTl : T.data.toList.length = T.size := Array.length_toList
        clear m0 m1 m2 m3 m4 m5 m6 m7 m8 HCC hb5
        rcases hcs with ⟨rfl, hl, hs⟩ | ⟨rfl, hl⟩
        · have HTN : Hid ((T ++ (S2 ++ (⟨#[10]⟩ : ByteArray))).data.toList = p.v.upto (i + 1)) := by
            show _ = _
            rw [ByteArray.data_append, Array.toList_append, hs, HT.out, HNX.out]
          have hS2 : S2.size + 1 ≤ 65537 := by
            have h1 : (S2 ++ (⟨#[10]⟩ : ByteArray)).data.toList.length = (S2 ++ (⟨#[10]⟩ : ByteArray)).size := Array.length_toList
            rw [hs, ByteArray.size_append] at h1
            have e3 : (⟨#[10]⟩ : ByteArray).size = 1 := rfl
            omega
          have HTS2 : Hid ((T ++ (S2 ++ (⟨#[10]⟩ : ByteArray))).size ≤ 60000 + 65537 * (i + 1)) := by
            show _ ≤ _
            rw [ByteArray.size_append, ByteArray.size_append]
            have e3 : (⟨#[10]⟩ : ByteArray).size = 1 := rfl
            omega
          clear hs hl HNX
          go_wp2_with fail
          go_roundw
          case rel => exact ⟨i + 1, _, by go_num, by omega, rfl, HTN, HTS2.out, HB5⟩
          case measure => simp [intOf]; omega
        · have HLG : Hid (65536 < p.v.text.length) := by
            have h1 := PV.upto_le p.v (i + 1)
            rw [HNX.out, List.length_append] at h1
            show _ < _
            omega
          go_wp2_with fail
          go_ret2
          exact ⟨⟨#[]⟩, 3, rfl, .inr ⟨HGG.out, .inl ⟨HLG.out, rfl, rfl⟩⟩, HB5.out⟩
      · obtain rfl : i = N := by omega
        have hi1 : ¬ (i : Int) < (i : Int) := by omega
        have hTl : T.data.toList.length = T.size := Array.length_toList
        have HTT : Hid (T.data.toList = p.v.text) := by
          have e : p.v.ts.length = i := by
            show (p.ts.map TL.v).length = i
            rw [List.length_map]; exact HLN.out
          show _ = _
          rw [HT.out, ← PV.upto_all, e]
        by_cases hlg : 65536 < T.size
        · have hlg' : (65536 : Int) < (T.size : Int) := by omega
          have HLG : Hid (65536 < p.v.text.length) := by
            show _ < _
            rw [← HTT.out, hTl]; exact hlg
          clear hTl hlg
          go_wp2_with fail
          go_ret2
          exact ⟨⟨#[]⟩, 3, rfl, .inr ⟨HGG.out, .inl ⟨HLG.out, rfl, rfl⟩⟩, HBW.out⟩
        · have hlg' : ¬ (65536 : Int) < (T.size : Int) := by omega
          have HLG : Hid (p.v.text.length ≤ 65536) := by
            show _ ≤ _
            rw [← HTT.out, hTl]; omega
          clear hTl hlg
          go_wp2_with fail
          go_ret2
          exact ⟨T, 0, rfl, .inr ⟨HGG.out, .inr ⟨HLG.out, rfl, HTT.out⟩⟩, HBW.out⟩
  · have h0' : (c == 0) = false := by simp [hc0]
    have h0'' : (c != 0) = true := by simp [hc0]
    clear HTP HRP HG HXA HYA
    go_wp2_with fail
    go_region_held3 (fun V : World => V.cell? ⟨w1.heap.size, 0, none⟩ = some (.int .i64 c)) (first | exact y0 | go_keep) (fail)
    all_goals
      have HCN := hid hc0
      clear hc0
      go_wp2_with fail
      go_ret2
      exact ⟨⟨#[]⟩, c, rfl, .inl ⟨z, HCK.out, HCN.out, rfl⟩, HBA.out.drew⟩
end Go.Proofs.YtnfemheabikolaaGreatDoor

/- Layer 14: the laws' hull, example and lives: what the document's examples say. (tools/mkqcd.py) -/
namespace Go.Proofs.YtnfemheabikolaaGreatDoor
open Go.RowKit
set_option linter.unusedVariables false
set_option linter.unusedSimpArgs false

def hullV : PV := ⟨⟨#[72, 117, 108, 108]⟩, false, [3], [2], []⟩
def exV : TV := ⟨⟨#[77, 50]⟩, 2, 1, false, [1], [2], false, [], [1]⟩
theorem exV_ok : exV.ok := ⟨by show (2 : Nat) ≤ maxLen; unfold maxLen; decide, by unfold in32 exV; decide, zw 1 (by decide) (by decide), zw 2 (by decide) (by decide), Wd.nil, zw 1 (by decide) (by decide)⟩
theorem exV_chk : exV.chk = 0 := by
  have h1 : rchk false [1] [2] = 0 := rchk_good (by simp) (by simp) rfl rfl (by simp) (.inl rfl) (by decide)
  have h2 : rchk false [] [1] = 0 := rchk_good (by simp) (by simp) rfl rfl (by simp) (.inl rfl) (by decide)
  have h3 : ochk 2 1 = 0 := by
    rcases ochk_or 2 1 with h | h
    · exact h.1
    · exact absurd (by unfold rOK; decide) h.2
  show tchk [77, 50] 2 1 (gchk false [1] [2] false [] [1]) = 0
  rw [tchk_rest _ _ _ zname, h3, fstE_zero]
  unfold gchk
  rw [h1, fstE_zero, h2]
theorem hullV_good : hullV.Good := ⟨by decide +kernel, zk32, by decide, fun j hj => absurd hj (by show ¬ j < 0; omega), fun k j hk hj => absurd hj (by show ¬ j < 0; omega), fun k j hk hj => absurd hj (by show ¬ j < 0; omega)⟩
set_option maxHeartbeats 1600000 in
set_option maxRecDepth 100000 in
theorem hull_any (w : World) : Calls Tryz.prog 10 #[] w fun e w' => ∃ p : PL, e = .returned (.agg #[.string p.s, .bool p.n, .slice p.a p.xs.length p.ca, .slice p.b p.ys.length p.cb, .slice p.t p.ts.length p.ct]) ∧ p.v = hullV ∧ p.ok w' ∧ Below w.heap.size w w' := by
  obtain ⟨X, hX⟩ : ∃ X, w.alloc (.cells #[.string ⟨#[]⟩, .bool false, .slice none 0 0, .slice none 0 0, .slice none 0 0] 27) = X := ⟨_, rfl⟩
  have HX : Hid (Box X w.heap.size 27 #[.string ⟨#[]⟩, .bool false, .slice none 0 0, .slice none 0 0, .slice none 0 0]) := by
    subst hX
    exact Box.made w _ _
  have HB : Hid (Below w.heap.size w X) := by
    subst hX
    exact alloc_later _ _
  obtain ⟨Y1, hY1⟩ : ∃ Y1, X.alloc (.cells #[.int .u32 3] 78) = Y1 := ⟨_, rfl⟩
  obtain ⟨Y2, hY2⟩ : ∃ Y2, Y1.alloc (.cells #[.int .u32 2] 78) = Y2 := ⟨_, rfl⟩
  have HO1 : Hid (Y1.ownsRow X.heap.size 78 1 (.slice (some ⟨X.heap.size, 0, none⟩) 1 1) 1 [.int .u32 3] ∧ Below X.heap.size X Y1) := by
    subst hY1
    exact ⟨World.ownsRow_lit X #[.int .u32 3] 1 (Nat.le_refl _) (by decide) rfl, alloc_later _ _⟩
  have HO2 : Hid (Y2.ownsRow X.heap.size 78 1 (.slice (some ⟨Y1.heap.size, 0, none⟩) 1 1) 1 [.int .u32 2] ∧ Below Y1.heap.size Y1 Y2) := by
    have hs := HO1.out.2.size
    subst hY2
    exact ⟨World.ownsRow_lit Y1 #[.int .u32 2] 1 hs (by decide) rfl, alloc_later _ _⟩
  have HR := hid (HX.out.later (bt HO1.out.2 HO2.out.2) HX.out.lt)
  obtain ⟨A0, A1, A2, A3, A4, q0, q1, q2, q3, q4, ⟨r0, r1, r2, r3, r4⟩, ⟨f0, f1, f2, f3, f4⟩, HA⟩ := pchain5 HR.out (.string ⟨#[72, 117, 108, 108]⟩) (.bool false) (.slice (some ⟨X.heap.size, 0, none⟩) 1 1) (.slice (some ⟨Y1.heap.size, 0, none⟩) 1 1) (.slice none 0 0)
  have HM : Hid (A4.ownsRow X.heap.size 78 1 (.slice (some ⟨X.heap.size, 0, none⟩) 1 1) 1 [.int .u32 3] ∧ A4.ownsRow X.heap.size 78 1 (.slice (some ⟨Y1.heap.size, 0, none⟩) 1 1) 1 [.int .u32 2] ∧ Below w.heap.size w A4) := ⟨HA.out.2.2.1 _ _ _ _ _ _ (by decide) (qown_later HO1.out.1 HO2.out.2), HA.out.2.2.1 _ _ _ _ _ _ (by decide) HO2.out.1, HA.out.2.2.2.1 _ _ (Nat.le_refl _) (bt HB.out (bt HO1.out.2 HO2.out.2))⟩
  have HE := hid HA.out.1
  clear HA HR HX
  go_enter Tryz.func10, Tryz.ntmps10
  go_wp2_with fail
  refine bodyPost_ret (results_cell_row (by rfl) _ _ w.heap.size 27 _ (0, 0) _ (by rfl) HE.out Tryz.underlying27 rfl (by kernel_rfl)) rfl ⟨⟨⟨#[72, 117, 108, 108]⟩, false, some ⟨X.heap.size, 0, none⟩, 1, [3], some ⟨Y1.heap.size, 0, none⟩, 1, [2], none, 0, []⟩, rfl, rfl, ⟨by show (4 : Nat) ≤ maxLen; unfold maxLen; decide, Sl.own HM.out.1 (zw 3 (by decide) (by decide)), Sl.own HM.out.2.1 (zw 2 (by decide) (by decide)), ⟨Nat.le_refl _, Nat.zero_le _, fun _ => ⟨rfl, rfl⟩⟩, ⟨fun t ht => absurd ht (by simp), .inl rfl⟩⟩, HM.out.2.2⟩
set_option maxHeartbeats 1600000 in
set_option maxRecDepth 100000 in
theorem pexample_any (w : World) : Calls Tryz.prog 11 #[] w fun e w' => ∃ t : TL, e = .returned (.agg #[.string t.s, .int .i32 t.f, .int .i32 t.r, .bool t.n, .slice t.a t.xs.length t.ca, .slice t.b t.ys.length t.cb, .bool t.m, .slice t.c t.us.length t.cc, .slice t.d t.vs.length t.cd]) ∧ t.v = exV ∧ t.ok w' ∧ Below w.heap.size w w' := by
  obtain ⟨X, hX⟩ : ∃ X, w.alloc (.cells #[.string ⟨#[]⟩, .int .i32 0, .int .i32 0, .bool false, .slice none 0 0, .slice none 0 0, .bool false, .slice none 0 0, .slice none 0 0] 37) = X := ⟨_, rfl⟩
  have HX : Hid (Box X w.heap.size 37 #[.string ⟨#[]⟩, .int .i32 0, .int .i32 0, .bool false, .slice none 0 0, .slice none 0 0, .bool false, .slice none 0 0, .slice none 0 0]) := by
    subst hX
    exact Box.made w _ _
  have HB : Hid (Below w.heap.size w X) := by
    subst hX
    exact alloc_later _ _
  obtain ⟨Y1, hY1⟩ : ∃ Y1, X.alloc (.cells #[.int .u32 1] 78) = Y1 := ⟨_, rfl⟩
  obtain ⟨Y2, hY2⟩ : ∃ Y2, Y1.alloc (.cells #[.int .u32 2] 78) = Y2 := ⟨_, rfl⟩
  obtain ⟨Y3, hY3⟩ : ∃ Y3, Y2.alloc (.cells #[.bool false, .slice (some ⟨X.heap.size, 0, none⟩) 1 1, .slice (some ⟨Y1.heap.size, 0, none⟩) 1 1] 24) = Y3 := ⟨_, rfl⟩
  obtain ⟨Y4, hY4⟩ : ∃ Y4, Y3.alloc (.cells #[.int .u32 1] 78) = Y4 := ⟨_, rfl⟩
  have HO1 : Hid (Y1.ownsRow X.heap.size 78 1 (.slice (some ⟨X.heap.size, 0, none⟩) 1 1) 1 [.int .u32 1] ∧ Below X.heap.size X Y1) := by
    subst hY1
    exact ⟨World.ownsRow_lit X #[.int .u32 1] 1 (Nat.le_refl _) (by decide) rfl, alloc_later _ _⟩
  have HO2 : Hid (Y2.ownsRow X.heap.size 78 1 (.slice (some ⟨Y1.heap.size, 0, none⟩) 1 1) 1 [.int .u32 2] ∧ Below Y1.heap.size Y1 Y2) := by
    have hs := HO1.out.2.size
    subst hY2
    exact ⟨World.ownsRow_lit Y1 #[.int .u32 2] 1 hs (by decide) rfl, alloc_later _ _⟩
  have HO3 : Hid (Box Y3 Y2.heap.size 24 #[.bool false, .slice (some ⟨X.heap.size, 0, none⟩) 1 1, .slice (some ⟨Y1.heap.size, 0, none⟩) 1 1] ∧ Below Y2.heap.size Y2 Y3) := by
    subst hY3
    exact ⟨Box.made Y2 _ _, alloc_later _ _⟩
  have hs3 : X.heap.size ≤ Y3.heap.size := (bt HO1.out.2 (bt HO2.out.2 HO3.out.2)).size
  have HO4 : Hid (Y4.ownsRow X.heap.size 78 1 (.slice (some ⟨Y3.heap.size, 0, none⟩) 1 1) 1 [.int .u32 1] ∧ Below Y3.heap.size Y3 Y4) := by
    subst hY4
    exact ⟨World.ownsRow_lit Y3 #[.int .u32 1] 1 hs3 (by decide) rfl, alloc_later _ _⟩
  have HXY := hid (bt HO1.out.2 (bt HO2.out.2 (bt HO3.out.2 HO4.out.2)))
  have HR := hid (HX.out.later HXY.out HX.out.lt)
  have hw0 : w.heap.size < X.heap.size := HX.out.lt
  have k0 : Y3.cell? ⟨Y2.heap.size, 0, none⟩ = some (.bool false) := HO3.out.1.cell 0
  have k1 : Y3.cell? ⟨Y2.heap.size, 1, none⟩ = some (.slice (some ⟨X.heap.size, 0, none⟩) 1 1) := HO3.out.1.cell 1
  have k2 : Y3.cell? ⟨Y2.heap.size, 2, none⟩ = some (.slice (some ⟨Y1.heap.size, 0, none⟩) 1 1) := HO3.out.1.cell 2
  obtain ⟨A0, A1, A2, A3, A4, A5, A6, A7, A8, q0, q1, q2, q3, q4, q5, q6, q7, q8, ⟨p0, p1, p2, p3, p4, p5, p6, p7, p8⟩, ⟨f0, f1, f2, f3, f4, f5, f6, f7, f8⟩⟩ := tchain9 HR.out (.string ⟨#[77, 50]⟩) (.int .i32 2) (.int .i32 1) (.bool false) (.slice (some ⟨X.heap.size, 0, none⟩) 1 1) (.slice (some ⟨Y1.heap.size, 0, none⟩) 1 1) (.bool false) (.slice none 0 0) (.slice (some ⟨Y3.heap.size, 0, none⟩) 1 1)
  have HOW : Hid (G6.Ow (TL.g ⟨⟨#[77, 50]⟩, 2, 1, false, some ⟨X.heap.size, 0, none⟩, 1, [1], some ⟨Y1.heap.size, 0, none⟩, 1, [2], false, none, 0, [], some ⟨Y3.heap.size, 0, none⟩, 1, [1]⟩) Y4 X.heap.size) := ⟨qown_later HO1.out.1 (bt HO2.out.2 (bt HO3.out.2 HO4.out.2)), qown_later HO2.out.1 (bt HO3.out.2 HO4.out.2), World.ownsRow_nil _ _ _ _, HO4.out.1⟩
  have HA := hid (tput9 (A8 := A8) (r := ⟨⟨#[77, 50]⟩, 2, 1, false, some ⟨X.heap.size, 0, none⟩, 1, [1], some ⟨Y1.heap.size, 0, none⟩, 1, [2], false, none, 0, [], some ⟨Y3.heap.size, 0, none⟩, 1, [1]⟩) HR.out (Nat.le_refl _) (bt HB.out HXY.out) HOW.out hw0 (by rw [← q8, ← q7, ← q6, ← q5, ← q4, ← q3, ← q2, ← q1, ← q0]; rfl))
  clear HR HX HO1 HO2 HO3 HO4 HOW HXY
  go_enter Tryz.func11, Tryz.ntmps11
  go_wp2_with fail
  refine bodyPost_ret (results_cell_row (by rfl) _ _ w.heap.size 37 _ (0, 0) _ (by rfl) HA.out.1 Tryz.underlying37 rfl (by kernel_rfl)) rfl ⟨_, rfl, rfl, TL.ok_of exV_ok HA.out.2.2.2, HA.out.2.1⟩
theorem hull_text : hullV.text = [112, 111, 114, 116, 32, 72, 117, 108, 108, 32, 51, 47, 50, 10] := by decide +kernel
theorem exV_short : ¬ mlong exV.q1 exV.q2 (oP exV.f exV.r 1).1 (oP exV.f exV.r 1).2 := by
  have h1 : rchk false [1] [2] = 0 := rchk_good (by simp) (by simp) rfl rfl (by simp) (.inl rfl) (by decide)
  have h2 : rchk false [] [1] = 0 := rchk_good (by simp) (by simp) rfl rfl (by simp) (.inl rfl) (by decide)
  have hp := oP_hgt (f := 2) (r := 1) (by unfold rOK; decide) 1 1 (by decide)
  exact mshort (K := 32 * 1) (J := 21 * 1) (hgt_words (zw 1 (by decide) (by decide)) (zw 2 (by decide) (by decide)) h1 (by decide) (by decide)) (hgt_words Wd.nil (zw 1 (by decide) (by decide)) h2 (by decide) (by decide)) hp.1 hp.2 (by decide)
theorem exV_moved : exV.q1 * (oP exV.f exV.r 1).1 - exV.q2 * (oP exV.f exV.r 1).2 = rq false [3] [10] := by decide +kernel
theorem z310 : rchk false [3] [10] = 0 := rchk_good (by simp) (by simp) rfl rfl (by simp) (.inl rfl) (by decide)
set_option maxHeartbeats 3200000 in
set_option maxRecDepth 100000 in
theorem plives_any (w : World) (htab : Tab w) : Calls Tryz.prog 20 #[] w fun e w' => e = .returned (.bool true) ∧ Below w.heap.size w w' := by
  have HH : Hid (∀ V, Calls Tryz.prog 10 #[] V fun e w' => ∃ p : PL, e = .returned (.agg #[.string p.s, .bool p.n, .slice p.a p.xs.length p.ca, .slice p.b p.ys.length p.cb, .slice p.t p.ts.length p.ct]) ∧ p.v = hullV ∧ p.ok w' ∧ Below V.heap.size V w') := fun V => hull_any V
  have HX : Hid (∀ V, Calls Tryz.prog 11 #[] V fun e w' => ∃ t : TL, e = .returned (.agg #[.string t.s, .int .i32 t.f, .int .i32 t.r, .bool t.n, .slice t.a t.xs.length t.ca, .slice t.b t.ys.length t.cb, .bool t.m, .slice t.c t.us.length t.cc, .slice t.d t.vs.length t.cd]) ∧ t.v = exV ∧ t.ok w' ∧ Below V.heap.size V w') := fun V => pexample_any V
  have HW : Hid (∀ (p : PL) (t : TL) (V : World), p.v = hullV → t.v = exV → p.ok V → t.ok V → Calls Tryz.prog 9 #[.agg #[.string p.s, .bool p.n, .slice p.a p.xs.length p.ca, .slice p.b p.ys.length p.cb, .slice p.t p.ts.length p.ct], .agg #[.string t.s, .int .i32 t.f, .int .i32 t.r, .bool t.n, .slice t.a t.xs.length t.ca, .slice t.b t.ys.length t.cb, .bool t.m, .slice t.c t.us.length t.cc, .slice t.d t.vs.length t.cd]] V fun e w' => ∃ q : PL, e = .returned (.tuple #[.agg #[.string q.s, .bool q.n, .slice q.a q.xs.length q.ca, .slice q.b q.ys.length q.cb, .slice q.t q.ts.length q.ct], .int .i64 0]) ∧ q.v = hullV.more exV ∧ (hullV.more exV).Good ∧ q.ok w' ∧ Below V.heap.size V w') := fun p t V hp ht op ot => by
    refine Calls.mono (pWith_told p t V op ot (by rw [hp]; exact hullV_good)) ?_
    rintro e w' ⟨q, c, rfl, h⟩
    rw [hp, ht] at h
    rcases h with ⟨_, _, h | h | ⟨j, hj, _⟩⟩ | ⟨rfl, hg, _, hm⟩
    · exact absurd exV_chk h
    · exact absurd h (by decide)
    · exact absurd hj (by show ¬ j < 0; omega)
    · have hv : (hullV.more exV).ok := by
        have h1 := op.v
        rw [hp] at h1
        refine ⟨h1.1, h1.2.1, h1.2.2.1, fun x hx => ?_⟩
        have hx' : x ∈ [exV] := hx
        rw [List.mem_singleton.1 hx']
        exact exV_ok
      exact ⟨q, rfl, hm.v, hg, PL.ok_of (by rw [hm.v]; exact hv) hm.ow, hm.bel⟩
  have HM : Hid (∀ (p : PL) (V : World), p.v = hullV.more exV → (hullV.more exV).Good → p.ok V → Calls Tryz.prog 17 #[.agg #[.string p.s, .bool p.n, .slice p.a p.xs.length p.ca, .slice p.b p.ys.length p.cb, .slice p.t p.ts.length p.ct], .int .i64 1] V fun e w' => ∃ (q : PL) (u : TL), e = .returned (.tuple #[.agg #[.string q.s, .bool q.n, .slice q.a q.xs.length q.ca, .slice q.b q.ys.length q.cb, .slice q.t 1 q.ct], .int .i64 0]) ∧ q.ts = [u] ∧ (u.n = false ∧ u.xs = [3] ∧ u.ys = [10]) ∧ RdT w' q.t [u] ∧ Below V.heap.size V w') := fun p V hp hg op => by
    have h0 : vT (hullV.more exV).ts 0 = exV := rfl
    refine Calls.mono (pMoved_good p 1 V op (by rw [hp]; exact hg) (by decide) (by decide) (fun j hj => ?_)) ?_
    · rw [hp] at hj ⊢
      have hj' : j < 1 := hj
      obtain rfl : j = 0 := by omega
      exact exV_short
    · rintro e w' ⟨q, vs, rfl, ⟨hl, hv⟩, hm⟩
      rw [hp] at hl hv
      have hl1 : vs.length = 1 := hl
      have hmv := hv 0 (by rw [← hl]; omega)
      rw [h0] at hmv
      have hqts : q.ts.map TL.v = vs := congrArg PV.ts hm.v
      have hql : q.ts.length = 1 := by rw [← hl1, ← hqts, List.length_map]
      obtain ⟨u, hu⟩ := List.length_eq_one_iff.1 hql
      have huv : u.v = vT vs 0 := by rw [← hqts, hu]; rfl
      rw [← huv] at hmv
      have hi := hmv.2.2.2
      rw [exV_moved] at hi
      have q1 := rq_inj hi.2.2.1 hi.2.2.2.1 (zw 3 (by decide) (by decide)) (zw 10 (by decide) (by decide)) hi.1.1 z310 hi.1.2
      have hrow := hm.ow.row
      have hel : ∀ t ∈ q.ts, t.ok w' := fun t ht => by
        rw [hu] at ht
        rw [List.mem_singleton.1 ht]
        refine TL.ok_of ?_ (hm.ow.els u (by rw [hu]; exact List.mem_singleton.2 rfl))
        have h2 : (2 : Nat) ≤ maxLen := by unfold maxLen; decide
        exact ⟨by rw [hmv.1]; exact h2, by rw [hmv.2.1, hmv.2.2.1]; exact exV_ok.2.1, hi.2.2⟩
      have hrd := rdT_own hrow hel
      refine ⟨q, u, ?_, hu, q1, ?_, hm.bel⟩
      · unfold PL.cells
        rw [hql]
      · rw [hu] at hrd
        exact hrd
  have HP : Hid (∀ (p : PL) (V : World), p.v = hullV → p.ok V → Below w.heap.size w V → Calls Tryz.prog 39 #[.agg #[.string p.s, .bool p.n, .slice p.a p.xs.length p.ca, .slice p.b p.ys.length p.cb, .slice p.t p.ts.length p.ct]] V fun e w' => e = .returned (.tuple #[.string ⟨#[112, 111, 114, 116, 32, 72, 117, 108, 108, 32, 51, 47, 50, 10]⟩, .int .i64 0]) ∧ Below V.heap.size V w') := fun p V hp op hV => by
    refine Calls.mono (pPrint_any p V op (htab.later hV)) ?_
    rintro e w' ⟨S, c, rfl, h, hb⟩
    have hg : p.v.Good := by rw [hp]; exact hullV_good
    rcases h with ⟨z, hz, hc, _⟩ | ⟨_, ⟨hl, _⟩ | ⟨_, rfl, hS⟩⟩
    · exact absurd (PCk.one0 hz hg) hc
    · rw [hp, hull_text] at hl
      exact absurd hl (by decide)
    · rw [hp, hull_text] at hS
      have e : S = ⟨#[112, 111, 114, 116, 32, 72, 117, 108, 108, 32, 51, 47, 50, 10]⟩ := ByteArray.ext (Array.toList_inj.1 hS)
      rw [e]
      exact ⟨rfl, hb⟩
  clear htab
  go_enter Tryz.func20, Tryz.ntmps20
  go_wp2_with fail
  refine Calls.mono (HH.out w) ?_
  rintro e w1 ⟨p, rfl, hp, op, b1⟩
  go_wp2_with fail
  refine Calls.mono (HX.out w1) ?_
  rintro e w2 ⟨t, rfl, ht, ot, b2⟩
  go_wp2_with fail
  refine Calls.mono (HW.out p t w2 hp ht (op.later b2) ot) ?_
  rintro e w3 ⟨q, rfl, hq, hgq, oq, b3⟩
  have HB3 := hid (bt b1 (bt b2 b3))
  obtain ⟨Q, hQ⟩ : ∃ Q, w3.alloc (.cells #[.string q.s, .bool q.n, .slice q.a q.xs.length q.ca, .slice q.b q.ys.length q.cb, .slice q.t q.ts.length q.ct] 27) = Q := ⟨_, rfl⟩
  have HQ : Hid (Box Q w3.heap.size 27 #[.string q.s, .bool q.n, .slice q.a q.xs.length q.ca, .slice q.b q.ys.length q.cb, .slice q.t q.ts.length q.ct]) := by
    subst hQ
    exact Box.made w3 _ _
  have HBQ : Hid (Below w3.heap.size w3 Q) := by
    subst hQ
    exact alloc_later _ _
  have k0 : Q.cell? ⟨w3.heap.size, 0, none⟩ = some (.string q.s) := HQ.out.cell 0
  have k1 : Q.cell? ⟨w3.heap.size, 1, none⟩ = some (.bool q.n) := HQ.out.cell 1
  have k2 : Q.cell? ⟨w3.heap.size, 2, none⟩ = some (.slice q.a q.xs.length q.ca) := HQ.out.cell 2
  have k3 : Q.cell? ⟨w3.heap.size, 3, none⟩ = some (.slice q.b q.ys.length q.cb) := HQ.out.cell 3
  have k4 : Q.cell? ⟨w3.heap.size, 4, none⟩ = some (.slice q.t q.ts.length q.ct) := HQ.out.cell 4
  have hmv := HM.out q Q hq hgq (oq.later HBQ.out)
  clear hp ht op ot b1 b2 b3 hq hgq oq HM HW HX
  go_wp2_with fail
  refine Calls.mono hmv ?_
  rintro e w4 ⟨m, u, rfl, hu, ⟨u1, u2, u3⟩, hrd, b4⟩
  have HB4 := hid (bt HB3.out (bt HBQ.out b4))
  clear k0 k1 k2 k3 k4 hmv
  obtain ⟨M, hM⟩ : ∃ M, w4.alloc (.cells #[.string m.s, .bool m.n, .slice m.a m.xs.length m.ca, .slice m.b m.ys.length m.cb, .slice m.t 1 m.ct] 27) = M := ⟨_, rfl⟩
  have HMB : Hid (Box M w4.heap.size 27 #[.string m.s, .bool m.n, .slice m.a m.xs.length m.ca, .slice m.b m.ys.length m.cb, .slice m.t 1 m.ct]) := by
    subst hM
    exact Box.made w4 _ _
  have HBM : Hid (Below w4.heap.size w4 M) := by
    subst hM
    exact alloc_later _ _
  have HRD := hid (hrd.later HBM.out)
  have HBW := hid (bt HB4.out HBM.out)
  clear hrd b4 hu
  go_wp2_with fail
  refine Calls.mono (HH.out M) ?_
  rintro e w5 ⟨p2, rfl, hp2, op2, b5⟩
  go_wp2_with fail
  refine Calls.mono (HP.out p2 w5 hp2 op2 (bt HBW.out b5)) ?_
  rintro e w6 ⟨rfl, b6⟩
  have HB6 := hid (bt HBW.out (bt b5 b6))
  have HR6 := hid (HRD.out.later (bt b5 b6))
  have HM6 := hid (HMB.out.later (bt b5 b6) HMB.out.lt)
  have j4 : w6.cell? ⟨w4.heap.size, 4, none⟩ = some (.slice m.t 1 m.ct) := HM6.out.cell 4
  clear hp2 op2 b5 b6 HH HP
  rcases HR6.out.2 with e | ⟨bb, o, hmt, hbb, hc⟩
  · cases e
  have hci := hc 0 u rfl
  have c3 : w6.cell? ⟨bb, o + 3, none⟩ = some (.bool u.n) := by have := hci 3 (by decide); rw [show o + 0 * 9 + 3 = o + 3 by omega] at this; exact this
  have c4 : w6.cell? ⟨bb, o + 4, none⟩ = some (.slice u.a u.xs.length u.ca) := by have := hci 4 (by decide); rw [show o + 0 * 9 + 4 = o + 4 by omega] at this; exact this
  have c5 : w6.cell? ⟨bb, o + 5, none⟩ = some (.slice u.b u.ys.length u.cb) := by have := hci 5 (by decide); rw [show o + 0 * 9 + 5 = o + 5 by omega] at this; exact this
  rw [u1] at c3
  rw [u2] at c4
  rw [u3] at c5
  rw [hmt] at j4
  have ouk := HR6.out.1 u (List.mem_singleton.2 rfl)
  have osx := ouk.sx
  have osy := ouk.sy
  rw [u2] at osx
  rw [u3] at osy
  obtain ⟨V1, hV1⟩ : ∃ V1, w6.alloc (.cells #[.int .u32 3] 78) = V1 := ⟨_, rfl⟩
  obtain ⟨V2, hV2⟩ : ∃ V2, V1.alloc (.cells #[.int .u32 10] 78) = V2 := ⟨_, rfl⟩
  have HV1 : Hid (Sl V1 (.slice (some ⟨w6.heap.size, 0, none⟩) 1 1) [3] ∧ Below w6.heap.size w6 V1) := by
    subst hV1
    exact ⟨Sl.lit w6 [3] (zw 3 (by decide) (by decide)) (by decide), alloc_later _ _⟩
  have HV2 : Hid (Sl V2 (.slice (some ⟨V1.heap.size, 0, none⟩) 1 1) [10] ∧ Below V1.heap.size V1 V2) := by
    subst hV2
    exact ⟨Sl.lit V1 [10] (zw 10 (by decide) (by decide)) (by decide), alloc_later _ _⟩
  have HSM := hid (gsameRatio_eq false (.slice u.a 1 u.ca) (.slice u.b 1 u.cb) (.slice (some ⟨w6.heap.size, 0, none⟩) 1 1) (.slice (some ⟨V1.heap.size, 0, none⟩) 1 1) [3] [10] V2 (osx.later (bt HV1.out.2 HV2.out.2)) (osy.later (bt HV1.out.2 HV2.out.2)) (HV1.out.1.later HV2.out.2) HV2.out.1 (by decide) (by decide))
  have HBV := hid (bt HB6.out (bt HV1.out.2 HV2.out.2))
  clear hci hc ouk osx osy HV1 HV2
  go_wp2_with fail
  refine Calls.mono HSM.out ?_
  rintro e w7 ⟨rfl, b7⟩
  go_wp2_with fail
  go_ret
  exact ⟨rfl, bt HBV.out b7⟩
end Go.Proofs.YtnfemheabikolaaGreatDoor

/- The kit's NumbersOf and PartsOf, of any constituents. -/
namespace Go.Proofs.YtnfemheabikolaaGreatDoor
open Go.RowKit
set_option linter.unusedVariables false
set_option linter.unusedSimpArgs false

theorem Tryz.infoGs : (Tryz.prog.info? 35).map (fun i => (i.zero, i.size, i.bytes)) = some (some (.agg #[.bool false, .slice none 0 0, .slice none 0 0, .bool false, .slice none 0 0, .slice none 0 0]), 6, 112) := by kernel_rfl
def F3.cells (f : F3) : List Value := [.bool f.n, .slice f.a f.xs.length f.ca, .slice f.b f.ys.length f.cb]
def flat3 (L : List F3) : List Value := L.flatMap F3.cells
theorem flat3_append (L M : List F3) : flat3 (L ++ M) = flat3 L ++ flat3 M := by unfold flat3; rw [List.flatMap_append]
theorem flat3_cons (f : F3) (L : List F3) : flat3 (f :: L) = f.cells ++ flat3 L := rfl
theorem flat3_len (L : List F3) : (flat3 L).length = L.length * 3 := by
  induction L with
  | nil => rfl
  | cons t L ih => rw [flat3_cons, List.length_append, ih, List.length_cons, show t.cells.length = 3 from rfl]; omega
theorem flat3_at {L : List F3} {j : Nat} {f : F3} (h : L[j]? = some f) {k : Nat} (hk : k < 3) : (flat3 L)[j * 3 + k]? = f.cells[k]? := by
  induction L generalizing j with
  | nil => simp at h
  | cons u L ih =>
    rw [flat3_cons]
    have hs : u.cells.length = 3 := rfl
    cases j with
    | zero =>
      injection h with h
      subst h
      rw [List.getElem?_append_left (by omega), Nat.zero_mul, Nat.zero_add]
    | succ j =>
      rw [List.getElem?_append_right (by omega), show (j + 1) * 3 + k - u.cells.length = j * 3 + k by omega]
      exact ih h
theorem flat3_one (L : List F3) : ∀ u ∈ flat3 L, u.oneCell' = true := by
  intro u hu
  obtain ⟨t, _, ht⟩ := List.mem_flatMap.1 hu
  simp only [F3.cells, List.mem_cons, List.not_mem_nil, or_false] at ht
  rcases ht with rfl | rfl | rfl <;> rfl
def TL.re (t : TL) : F3 := ⟨t.n, t.a, t.ca, t.xs, t.b, t.cb, t.ys⟩
def TL.im (t : TL) : F3 := ⟨t.m, t.c, t.cc, t.us, t.d, t.cd, t.vs⟩
def TL.six (t : TL) : List Value := [.bool t.n, .slice t.a t.xs.length t.ca, .slice t.b t.ys.length t.cb, .bool t.m, .slice t.c t.us.length t.cc, .slice t.d t.vs.length t.cd]
def partsT (ts : List TL) : List F3 := ts.flatMap fun t => [t.re, t.im]
theorem partsT_len (ts : List TL) : (partsT ts).length = 2 * ts.length := by
  induction ts with
  | nil => rfl
  | cons t L ih =>
    have e : (partsT (t :: L)).length = 2 + (partsT L).length := by
      rw [show partsT (t :: L) = [t.re, t.im] ++ partsT L from rfl, List.length_append]; rfl
    rw [e, ih, List.length_cons]
    omega
theorem flatP_snoc (ts : List TL) (t : TL) : flat3 (partsT (ts ++ [t])) = flat3 (partsT ts) ++ t.six := by
  unfold partsT
  rw [List.flatMap_append, flat3_append]
  rfl
theorem flatP_take {ts : List TL} {k : Nat} (h : k < ts.length) : flat3 (partsT (ts.take (k + 1))) = flat3 (partsT (ts.take k)) ++ (tT ts k).six := by
  rw [List.take_add_one, tT_at h]
  exact flatP_snoc _ _
theorem flatP_len (ts : List TL) : (flat3 (partsT ts)).length = ts.length * 6 := by rw [flat3_len, partsT_len]; omega
theorem flatP_at {ts : List TL} {j : Nat} (h : j < ts.length) {k : Nat} (hk : k < 6) : (flat3 (partsT ts))[j * 6 + k]? = (tT ts j).six[k]? := by
  have e : ts = ts.take (j + 1) ++ ts.drop (j + 1) := (List.take_append_drop _ _).symm
  have e2 : flat3 (partsT ts) = flat3 (partsT (ts.take j)) ++ (tT ts j).six ++ flat3 (partsT (ts.drop (j + 1))) := by
    rw [← flatP_take h, ← flat3_append]
    conv => lhs; rw [e]
    unfold partsT
    rw [List.flatMap_append]
  have hl : (flat3 (partsT (ts.take j))).length = j * 6 := by rw [flatP_len, List.length_take, Nat.min_eq_left (by omega)]
  rw [e2, List.append_assoc, List.getElem?_append_right (by omega), hl, show j * 6 + k - j * 6 = k by omega, List.getElem?_append_left (by show k < 6; exact hk)]
theorem TL.six_one (t : TL) : ∀ u ∈ t.six, u.oneCell' = true := by
  intro u hu
  simp only [TL.six, List.mem_cons, List.not_mem_nil, or_false] at hu
  rcases hu with rfl | rfl | rfl | rfl | rfl | rfl <;> rfl
set_option maxHeartbeats 1600000 in
set_option maxRecDepth 100000 in
theorem numbersOf_any (t : Option Addr) (n ct : Nat) (ts : List TL) (w : World) (hn : n ≤ 1000) (hl : ts.length = n) (h : RdT w t ts) :
    Calls Tryz.prog 74 #[.slice t n ct] w fun e w' => ∃ a c, e = .returned (.slice a n c) ∧ w'.ownsRow w.heap.size 35 6 (.slice a n c) n (flat3 (partsT ts)) ∧ Below w.heap.size w w' := by
  obtain ⟨i0, hi0, hz0, hz1, hz2⟩ := info_parts Tryz.infoGs
  have HT := hid h
  have HL := hid hl
  clear h hl
  go_enter Tryz.func74, Tryz.ntmps74
  go_wp2_with fail
  go_loopw [3, 4] (fun v x wr => ∃ (k : Nat) (q : Option Addr) (d : Nat), k ≤ n ∧ x = .int .i64 (k : Int) ∧ v = .slice q k d ∧ Hid (wr.ownsRow w.heap.size 35 6 (.slice q k d) k (flat3 (partsT (ts.take k)))) ∧ Hid (Below w.heap.size w wr)) (fun _ x _ => n - (intOf x).toNat)
  case atStart => exact ⟨0, none, 0, Nat.zero_le _, rfl, rfl, World.ownsRow_nil _ _ _ _, Below.refl _ _⟩
  case round =>
    obtain ⟨k, q, d, hk, rfl, rfl, HO, HB⟩ := hrel
    by_cases hlt : k < n
    · have hkl : k < ts.length := by rw [HL.out]; exact hlt
      have HTW := hid (HT.out.later HB.out)
      rcases HTW.out.2 with e | ⟨bb, o, rfl, hbb, hc⟩
      · rw [e] at hkl; exact absurd hkl (by simp)
      have hci := hc k _ (tT_at hkl)
      have HN := hid (flatP_take hkl)
      have e3 := hci 3 (by decide)
      have e4 := hci 4 (by decide)
      have e5 := hci 5 (by decide)
      have e6 := hci 6 (by decide)
      have e7 := hci 7 (by decide)
      have e8 := hci 8 (by decide)
      clear hci hc
      generalize tT ts k = tt at *
      have c3 : wr.cell? ⟨bb, o + k * 9 + 3, none⟩ = some (.bool tt.n) := e3
      have c4 : wr.cell? ⟨bb, o + k * 9 + 4, none⟩ = some (.slice tt.a tt.xs.length tt.ca) := e4
      have c5 : wr.cell? ⟨bb, o + k * 9 + 5, none⟩ = some (.slice tt.b tt.ys.length tt.cb) := e5
      have c6 : wr.cell? ⟨bb, o + k * 9 + 6, none⟩ = some (.bool tt.m) := e6
      have c7 : wr.cell? ⟨bb, o + k * 9 + 7, none⟩ = some (.slice tt.c tt.us.length tt.cc) := e7
      have c8 : wr.cell? ⟨bb, o + k * 9 + 8, none⟩ = some (.slice tt.d tt.vs.length tt.cd) := e8
      clear e3 e4 e5 e6 e7 e8
      have hk0 : (0 : Int) ≤ (k : Int) := by omega
      have hk1 : (k : Int) < (n : Int) := by omega
      obtain ⟨W3, hW3⟩ : ∃ W3, wr.alloc (.cells #[.bool tt.n, .slice tt.a tt.xs.length tt.ca, .slice tt.b tt.ys.length tt.cb, .bool tt.m, .slice tt.c tt.us.length tt.cc, .slice tt.d tt.vs.length tt.cd] 35) = W3 := ⟨_, rfl⟩
      have HBW : Hid (Below wr.heap.size wr W3) := by
        subst hW3
        exact alloc_later _ _
      have HNW : Hid (∀ j v, tt.six[j]? = some v → W3.cell? ((⟨wr.heap.size, 0, none⟩ : Addr).add j) = some v) := by
        subst hW3
        exact qcells_new wr _ _
      have HOW := hid (qown_later HO.out HBW.out)
      have HB3 := hid (bt HB.out HBW.out)
      clear HO HBW hbb
      go_wp2_with (first
        | (at_builtin; refine wpList_append_own_at _ rfl _ _ 111 rfl w.heap.size 35 i0 (.agg #[.bool false, .slice none 0 0, .slice none 0 0, .bool false, .slice none 0 0, .slice none 0 0]) 6 112 Tryz.underlying111 hi0 hz0 hz1 hz2 rfl (by decide) (.slice q k d) k (flat3 (partsT (ts.take k))) rfl HOW.out ⟨wr.heap.size, 0, none⟩ 1 1 tt.six rfl rfl HNW.out tt.six_one ?hm ?hb HB3.out.size ?_; rotate_right; intro v1 y1 o1 g1 _ at1))
      case hm => unfold maxLen; omega
      case hb => omega
      have HO1 : Hid (y1.ownsRow w.heap.size 35 6 v1 (k + 1) (flat3 (partsT (ts.take (k + 1))))) := by rw [HN.out]; exact o1
      have HB1 := hid (HB3.out.grown g1 HB3.out.size (fun g e => (HOW.out.lt g e).1))
      obtain ⟨q1, d1, hv1⟩ := qown_slice o1
      subst hv1
      clear o1 g1 HOW HNW HN c3 c4 c5 c6 c7 c8
      (try go_wp2_with fail)
      go_roundw
      case rel => exact ⟨k + 1, q1, d1, by omega, by go_num, rfl, HO1, HB1⟩
      case measure => simp [intOf]; omega
    · obtain rfl : k = n := by omega
      have hk1 : ¬ (k : Int) < (k : Int) := by omega
      have HF : Hid (wr.ownsRow w.heap.size 35 6 (.slice q k d) k (flat3 (partsT ts))) := by
        have e : ts.take k = ts := by rw [← HL.out]; exact List.take_length
        have := HO.out
        rw [e] at this
        exact this
      go_wp2_with fail
      go_ret
      exact ⟨q, d, rfl, HF.out, HB.out⟩
set_option maxHeartbeats 1600000 in
set_option maxRecDepth 100000 in
theorem partsOf_any (a : Option Addr) (N c base : Nat) (ts : List TL) (w : World) (hN : N ≤ 1000) (hl : ts.length = N) (h : w.ownsRow base 35 6 (.slice a N c) N (flat3 (partsT ts))) :
    Calls Tryz.prog 73 #[.slice a N c] w fun e w' => ∃ a2 c2, e = .returned (.slice a2 (2 * N) c2) ∧ w'.ownsRow w.heap.size 24 3 (.slice a2 (2 * N) c2) (2 * N) (flat3 (partsT ts)) ∧ (N = 0 → a2 = none ∧ c2 = 0) ∧ Below w.heap.size w w' := by
  obtain ⟨i0, hi, hz0, hz1, hz2⟩ := info_parts Tryz.infoKg
  have HT := hid h
  have HL := hid hl
  clear h hl
  go_enter Tryz.func73, Tryz.ntmps73
  go_wp2_with fail
  go_loopw [3, 4] (fun v x wr => ∃ (k : Nat) (q : Option Addr) (d : Nat), k ≤ N ∧ x = .int .i64 (k : Int) ∧ v = .slice q (2 * k) d ∧ Hid (wr.ownsRow w.heap.size 24 3 (.slice q (2 * k) d) (2 * k) (flat3 (partsT (ts.take k)))) ∧ (k = 0 → q = none ∧ d = 0) ∧ Hid (Below w.heap.size w wr)) (fun _ x _ => N - (intOf x).toNat)
  case atStart => exact ⟨0, none, 0, Nat.zero_le _, rfl, rfl, World.ownsRow_nil _ _ _ _, (fun _ => ⟨rfl, rfl⟩), Below.refl _ _⟩
  case round =>
    obtain ⟨k, q, d, hk, rfl, rfl, HO, hz, HB⟩ := hrel
    by_cases hlt : k < N
    · clear hz
      have hkl : k < ts.length := by rw [HL.out]; exact hlt
      obtain ⟨g, rfl⟩ : ∃ g, a = some ⟨g, 0, none⟩ := by
        rcases HT.out.2 with ⟨h1, h0⟩ | ⟨g, cap, cur, hv, _⟩
        · omega
        · injection hv with e1 _ _
          exact ⟨g, e1⟩
      have HN := hid (flatP_take hkl)
      have HK : Hid (∀ V, Below w.heap.size w V → V.cell? ⟨g, k * 6, none⟩ = some (.bool (tT ts k).n) ∧ V.cell? ⟨g, k * 6 + 1, none⟩ = some (.slice (tT ts k).a (tT ts k).xs.length (tT ts k).ca) ∧ V.cell? ⟨g, k * 6 + 2, none⟩ = some (.slice (tT ts k).b (tT ts k).ys.length (tT ts k).cb) ∧ V.cell? ⟨g, k * 6 + 3, none⟩ = some (.bool (tT ts k).m) ∧ V.cell? ⟨g, k * 6 + 4, none⟩ = some (.slice (tT ts k).c (tT ts k).us.length (tT ts k).cc) ∧ V.cell? ⟨g, k * 6 + 5, none⟩ = some (.slice (tT ts k).d (tT ts k).vs.length (tT ts k).cd)) := fun V hV => by
        have hr := qown_later HT.out hV
        have c : ∀ i, i < 6 → V.cell? ⟨g, k * 6 + i, none⟩ = (tT ts k).six[i]? := fun i hi => by rw [hr.cellAt (k * 6 + i) (by omega), flatP_at hkl hi]
        exact ⟨c 0 (by decide), c 1 (by decide), c 2 (by decide), c 3 (by decide), c 4 (by decide), c 5 (by decide)⟩
      have hk0 : (0 : Int) ≤ (k : Int) := by omega
      have hk1 : (k : Int) < (N : Int) := by omega
      generalize tT ts k = tt at *
      have hs0 := HK.out _ HB.out.drew
      have hbA : Below w.heap.size w (wr.alloc (.cells #[.bool tt.n, .slice tt.a tt.xs.length tt.ca, .slice tt.b tt.ys.length tt.cb, .bool tt.m, .slice tt.c tt.us.length tt.cc, .slice tt.d tt.vs.length tt.cd] 24)).drew := (bt HB.out (alloc_later wr _)).drew
      have HOA : Hid ((wr.alloc (.cells #[.bool tt.n, .slice tt.a tt.xs.length tt.ca, .slice tt.b tt.ys.length tt.cb, .bool tt.m, .slice tt.c tt.us.length tt.cc, .slice tt.d tt.vs.length tt.cd] 24)).drew.ownsRow w.heap.size 24 3 (.slice q (2 * k) d) (2 * k) (flat3 (partsT (ts.take k)))) := qown_later HO.out (bt (alloc_later wr _) (Below.drew (Below.refl _ _)))
      have hsA := HK.out _ hbA
      have hsz := HB.out.size
      obtain ⟨e0, e1, e2, e3, e4, e5⟩ := HK.out wr HB.out
      go_wp2_with fail
      go_region_held3 (fun V : World => V.cell? ⟨g, k * 6, none⟩ = some (.bool tt.n) ∧ V.cell? ⟨g, k * 6 + 1, none⟩ = some (.slice tt.a tt.xs.length tt.ca) ∧ V.cell? ⟨g, k * 6 + 2, none⟩ = some (.slice tt.b tt.ys.length tt.cb) ∧ V.cell? ⟨g, k * 6 + 3, none⟩ = some (.bool tt.m) ∧ V.cell? ⟨g, k * 6 + 4, none⟩ = some (.slice tt.c tt.us.length tt.cc) ∧ V.cell? ⟨g, k * 6 + 5, none⟩ = some (.slice tt.d tt.vs.length tt.cd)) (first | exact hs0 | exact hsA | exact hs1 | go_keep)
        (first | (refine step_append_own_at rfl (.tmp 11) (.tmp 22) 109 rfl w.heap.size 24 i0 (.agg #[.bool false, .slice none 0 0, .slice none 0 0]) 3 56 Tryz.underlying109 hi hz0 hz1 hz2 rfl (by decide) (.slice q (2 * k) d) (2 * k) (flat3 (partsT (ts.take k))) rfl HOA.out ⟨wr.heap.size, 0, none⟩ 2 2 tt.six rfl rfl (kg_six_cells wr _ _ _ _ _ _ _) tt.six_one (by unfold maxLen; omega) (by omega) hbA.size ?_; intro v1 w1 o1 gr1 at1; have hs1 := HK.out _ (hbA.grown gr1 hbA.size (fun k hk => (HOA.out.lt k hk).1))))
      have HB1 := hid (hbA.grown gr1 hbA.size (fun k hk => (HOA.out.lt k hk).1))
      obtain ⟨q1, d1, hv1⟩ := qown_slice o1
      subst hv1
      have HO1 : Hid (w1.ownsRow w.heap.size 24 3 (.slice q1 (2 * (k + 1)) d1) (2 * (k + 1)) (flat3 (partsT (ts.take (k + 1))))) := by
        rw [HN.out]
        exact o1
      clear o1 gr1 HOA hbA hsA hs0 hs1 e0 e1 e2 e3 e4 e5 hsz HO HB HK HN
      go_wp2_with fail
      go_roundw
      case rel => exact ⟨k + 1, q1, d1, by omega, by go_num, rfl, HO1, (fun h => by omega), HB1⟩
      case measure => simp [intOf]; omega
    · obtain rfl : k = N := by omega
      have hk1 : ¬ (k : Int) < (k : Int) := by omega
      have HF : Hid (wr.ownsRow w.heap.size 24 3 (.slice q (2 * k) d) (2 * k) (flat3 (partsT ts))) := by
        have e : ts.take k = ts := by rw [← HL.out]; exact List.take_length
        have := HO.out
        rw [e] at this
        exact this
      have HZ := hid hz
      clear hz
      go_wp2_with fail
      go_ret
      exact ⟨q, d, rfl, HF.out, HZ.out, HB.out⟩
end Go.Proofs.YtnfemheabikolaaGreatDoor

/- Layer 14: the laws' wide, large and narrow. (tools/mkqcf.py) -/
namespace Go.Proofs.YtnfemheabikolaaGreatDoor
open Go.RowKit
set_option linter.unusedVariables false
set_option linter.unusedSimpArgs false

def BoW (w : World) (e : Ending) (w' : World) : Prop := ∃ bo : Bool, e = .returned (.bool bo) ∧ Below w.heap.size w w'
theorem pwide_any (n : Bool) (a : Option Addr) (lx ca : Nat) (b : Option Addr) (ly cb : Nat) (w : World) :
    Calls Tryz.prog 29 #[.agg #[.bool n, .slice a lx ca, .slice b ly cb]] w (BoW w) := by
  obtain ⟨X, hX⟩ : ∃ X, w.alloc (.cells #[.bool n, .slice a lx ca, .slice b ly cb] 24) = X := ⟨_, rfl⟩
  have HX : Hid (Box X w.heap.size 24 #[.bool n, .slice a lx ca, .slice b ly cb]) := by
    subst hX
    exact Box.made w _ _
  have HB : Hid (Below w.heap.size w X) := by
    subst hX
    exact alloc_later _ _
  have k1 : X.cell? ⟨w.heap.size, 1, none⟩ = some (.slice a lx ca) := HX.out.cell 1
  have k2 : X.cell? ⟨w.heap.size, 2, none⟩ = some (.slice b ly cb) := HX.out.cell 2
  obtain ⟨M, hM⟩ : ∃ M : Nat, (∀ V ty, (Builtin.max_ #[3, 3] ty #[.int .i64 (lx : Int), .int .i64 (ly : Int)]).run Tryz.prog V = .ok (.int .i64 (M : Int)) V) := by
    by_cases h : lx < ly
    · have h' : (lx : Int) < (ly : Int) := by omega
      exact ⟨ly, fun V ty => by simp [Builtin.max_, Builtin.max2, h, h']⟩
    · have h' : ¬ (lx : Int) < (ly : Int) := by omega
      exact ⟨lx, fun V ty => by simp [Builtin.max_, Builtin.max2, h, h']⟩
  have HM := hid hM
  by_cases h1 : (M : Int) ≤ 12
  · have h1' : ¬ (12 : Int) < (M : Int) := by omega
    go_enter Tryz.func29, Tryz.ntmps29
    go_wp2_with fail
    go_ret
    exact ⟨_, rfl, HB.out⟩
  · have h1' : (12 : Int) < (M : Int) := by omega
    by_cases h2 : (M : Int) ≤ 2048
    · go_enter Tryz.func29, Tryz.ntmps29
      go_wp2_with fail
      go_ret
      exact ⟨_, rfl, HB.out⟩
    · go_enter Tryz.func29, Tryz.ntmps29
      go_wp2_with fail
      go_ret
      exact ⟨_, rfl, HB.out⟩
set_option maxHeartbeats 1600000 in
set_option maxRecDepth 100000 in
theorem plarge_any (p : PL) (w : World) (hp : p.ok w) : Calls Tryz.prog 21 #[.agg p.cells] w (BoW w) := by
  obtain ⟨X, hX⟩ : ∃ X, w.alloc (.cells #[.string p.s, .bool p.n, .slice p.a p.xs.length p.ca, .slice p.b p.ys.length p.cb, .slice p.t p.ts.length p.ct] 27) = X := ⟨_, rfl⟩
  have HX : Hid (Box X w.heap.size 27 #[.string p.s, .bool p.n, .slice p.a p.xs.length p.ca, .slice p.b p.ys.length p.cb, .slice p.t p.ts.length p.ct]) := by
    subst hX
    exact Box.made w _ _
  have HB : Hid (Below w.heap.size w X) := by
    subst hX
    exact alloc_later _ _
  have HTS : Hid (∀ V, Below w.heap.size w V → RdT V p.t p.ts) := fun V hV => hp.ts.later hV
  have HWD : Hid (∀ (f : F3) V, Calls Tryz.prog 29 #[.agg #[.bool f.n, .slice f.a f.xs.length f.ca, .slice f.b f.ys.length f.cb]] V (BoW V)) := fun f V => pwide_any f.n f.a f.xs.length f.ca f.b f.ys.length f.cb V
  have k1 : X.cell? ⟨w.heap.size, 1, none⟩ = some (.bool p.n) := HX.out.cell 1
  have k2 : X.cell? ⟨w.heap.size, 2, none⟩ = some (.slice p.a p.xs.length p.ca) := HX.out.cell 2
  have k3 : X.cell? ⟨w.heap.size, 3, none⟩ = some (.slice p.b p.ys.length p.cb) := HX.out.cell 3
  have k4 : X.cell? ⟨w.heap.size, 4, none⟩ = some (.slice p.t p.ts.length p.ct) := HX.out.cell 4
  unfold PL.cells
  clear hp
  obtain ⟨N, hN⟩ : ∃ N, p.ts.length = N := ⟨_, rfl⟩
  have HLN := hid hN
  rw [hN] at k4 ⊢
  rw [hN] at hX
  clear hN
  by_cases h30 : 30 < N
  · have h30' : (30 : Int) < (N : Int) := by omega
    go_enter Tryz.func21, Tryz.ntmps21
    go_wp2_with fail
    go_ret
    exact ⟨_, rfl, HB.out⟩
  · have h30' : ¬ (30 : Int) < (N : Int) := by omega
    go_enter Tryz.func21, Tryz.ntmps21
    go_wp2_with fail
    refine Calls.mono (HWD.out ⟨p.n, p.a, p.ca, p.xs, p.b, p.cb, p.ys⟩ X) ?_
    rintro e w1 ⟨bo, rfl, b1⟩
    have HX1 := hid (HX.out.later b1 HX.out.lt)
    have HB1 := hid (bt HB.out b1)
    clear b1 k1 k2 k3 k4
    cases bo with
    | true =>
      go_wp2_with fail
      go_ret
      exact ⟨_, rfl, HB1.out⟩
    | false =>
      have k4 : w1.cell? ⟨w.heap.size, 4, none⟩ = some (.slice p.t N p.ct) := by
        have q : w1.cell? ⟨w.heap.size, 4, none⟩ = some (.slice p.t p.ts.length p.ct) := HX1.out.cell 4
        rw [HLN.out] at q
        exact q
      go_wp2_with fail
      refine Calls.mono (numbersOf_any p.t N p.ct p.ts w1 (by omega) HLN.out (HTS.out w1 HB1.out)) ?_
      rintro e w2 ⟨a2, c2, rfl, o2, b2⟩
      go_wp2_with fail
      refine Calls.mono (partsOf_any a2 N c2 _ p.ts w2 (by omega) HLN.out o2) ?_
      rintro e w3 ⟨a3, c3, rfl, o3, _, b3⟩
      have HB3 := hid (bt HB1.out (bt b2 b3))
      have HO3 := hid o3
      have HPL : Hid ((partsT p.ts).length = 2 * N) := by rw [partsT_len, HLN.out]; exact rfl
      clear o2 b2 o3 b3 k4 HX1 HX
      go_wp2_with fail
      go_loopw [4] (fun x wr => ∃ k : Nat, k ≤ 2 * N ∧ x = .int .i64 (k : Int) ∧ Hid (Below w3.heap.size w3 wr)) (fun x _ => 2 * N - (intOf x).toNat)
      case atStart => exact ⟨0, Nat.zero_le _, rfl, Below.refl _ _⟩
      case round =>
        obtain ⟨k, hk, rfl, HBk⟩ := hrel
        by_cases hlt : k < 2 * N
        · obtain ⟨g, rfl⟩ : ∃ g, a3 = some ⟨g, 0, none⟩ := by
            rcases HO3.out.2 with ⟨h1, h0⟩ | ⟨g, cap, cur, hv, _⟩
            · omega
            · injection hv with e1 _ _
              exact ⟨g, e1⟩
          obtain ⟨f, hf⟩ : ∃ f, (partsT p.ts)[k]? = some f := ⟨_, List.getElem?_eq_getElem (by rw [HPL.out]; exact hlt)⟩
          have hr := qown_later HO3.out HBk.out
          have c : ∀ i, i < 3 → wr.cell? ⟨g, k * 3 + i, none⟩ = f.cells[i]? := fun i hi => by rw [hr.cellAt (k * 3 + i) (by omega), flat3_at hf hi]
          have e0 : wr.cell? ⟨g, k * 3, none⟩ = some (.bool f.n) := c 0 (by decide)
          have e1 : wr.cell? ⟨g, k * 3 + 1, none⟩ = some (.slice f.a f.xs.length f.ca) := c 1 (by decide)
          have e2 : wr.cell? ⟨g, k * 3 + 2, none⟩ = some (.slice f.b f.ys.length f.cb) := c 2 (by decide)
          have hk0 : (0 : Int) ≤ (k : Int) := by omega
          have hk1 : (k : Int) < 2 * (N : Int) := by omega
          clear c hr hf
          go_wp2_with fail
          refine Calls.mono (HWD.out f wr) ?_
          rintro e w5 ⟨bo, rfl, b5⟩
          have HB5 := hid (bt HBk.out b5)
          clear b5 e0 e1 e2
          cases bo with
          | true =>
            go_wp2_with fail
            go_ret
            exact ⟨_, rfl, bt HB3.out HB5.out⟩
          | false =>
            go_wp2_with fail
            go_roundw
            case rel => exact ⟨k + 1, by omega, by go_num, HB5⟩
            case measure => simp [intOf]; omega
        · obtain rfl : k = 2 * N := by omega
          have hk1 : ¬ (((2 * N : Nat) : Int)) < (((2 * N : Nat) : Int)) := by omega
          go_wp2_with fail
          go_ret
          exact ⟨_, rfl, bt HB3.out HBk.out⟩
end Go.Proofs.YtnfemheabikolaaGreatDoor

/- Layer 14: the laws' narrow. (tools/mkqcg.py) -/
namespace Go.Proofs.YtnfemheabikolaaGreatDoor
open Go.RowKit
set_option linter.unusedVariables false
set_option linter.unusedSimpArgs false

def TV.four (t : TV) : Prop := t.xs.length ≤ 4 ∧ t.ys.length ≤ 4 ∧ t.us.length ≤ 4 ∧ t.vs.length ≤ 4
def NaT (p : PL) (w : World) (e : Ending) (w' : World) : Prop := ∃ bo : Bool, e = .returned (.bool bo) ∧ (bo = false → ∀ t ∈ p.ts, t.v.four) ∧ Below w.heap.size w w'
def F3.four (f : F3) : Prop := f.xs.length ≤ 4 ∧ f.ys.length ≤ 4
theorem four_parts {ts : List TL} (h : ∀ f ∈ partsT ts, f.four) : ∀ t ∈ ts, t.v.four := by
  intro t ht
  have h1 := h t.re (List.mem_flatMap.2 ⟨t, ht, List.mem_cons_self ..⟩)
  have h2 := h t.im (List.mem_flatMap.2 ⟨t, ht, List.mem_cons_of_mem _ (List.mem_cons_self ..)⟩)
  exact ⟨h1.1, h1.2, h2.1, h2.2⟩
def NaC (p : PL) (N : Nat) (w : World) (s : Value) (wx : World) : Prop := ∃ a c, s = .slice a (1 + 2 * N) c ∧ wx.ownsRow w.heap.size 24 3 (.slice a (1 + 2 * N) c) (1 + 2 * N) (flat3 (⟨p.n, p.a, p.ca, p.xs, p.b, p.cb, p.ys⟩ :: partsT p.ts)) ∧ Below w.heap.size w wx
theorem qsome {w : World} {base e s n ct : Nat} {a : Option Addr} {xs : List Value} (h : w.ownsRow base e s (.slice a n ct) n xs) (hn : 0 < n) : ∃ g, a = some ⟨g, 0, none⟩ := by
  rcases h.2 with ⟨h1, h0⟩ | ⟨g, cap, cur, hv, _⟩
  · omega
  · injection hv with e1 _ _
    exact ⟨g, e1⟩
set_option maxHeartbeats 3200000 in
set_option maxRecDepth 100000 in
theorem pnarrow_any (p : PL) (w : World) (hp : p.ok w) (h30 : p.ts.length ≤ 30) : Calls Tryz.prog 43 #[.agg p.cells] w (NaT p w) := by
  obtain ⟨i0, hi, hz0, hz1, hz2⟩ := info_parts Tryz.infoKg
  obtain ⟨N, hN⟩ : ∃ N, p.ts.length = N := ⟨_, rfl⟩
  have HLN := hid hN
  unfold PL.cells
  rw [hN] at h30 ⊢
  clear hN
  obtain ⟨Y, hY⟩ : ∃ Y, w.alloc (.cells #[.string p.s, .bool p.n, .slice p.a p.xs.length p.ca, .slice p.b p.ys.length p.cb, .slice p.t N p.ct] 27) = Y := ⟨_, rfl⟩
  have HX : Hid (Box Y w.heap.size 27 #[.string p.s, .bool p.n, .slice p.a p.xs.length p.ca, .slice p.b p.ys.length p.cb, .slice p.t N p.ct]) := by
    subst hY
    exact Box.made w _ _
  have HB : Hid (Below w.heap.size w Y) := by
    subst hY
    exact alloc_later _ _
  have HS : Hid (∀ V, Box V w.heap.size 27 #[.string p.s, .bool p.n, .slice p.a p.xs.length p.ca, .slice p.b p.ys.length p.cb, .slice p.t N p.ct] → V.cell? ⟨w.heap.size, 1, none⟩ = some (.bool p.n) ∧ V.cell? ⟨w.heap.size, 2, none⟩ = some (.slice p.a p.xs.length p.ca) ∧ V.cell? ⟨w.heap.size, 3, none⟩ = some (.slice p.b p.ys.length p.cb) ∧ V.cell? ⟨w.heap.size, 4, none⟩ = some (.slice p.t N p.ct)) := fun V h => ⟨h.cell 1, h.cell 2, h.cell 3, h.cell 4⟩
  have HXL : Hid (∀ V, Below Y.heap.size Y V → Box V w.heap.size 27 #[.string p.s, .bool p.n, .slice p.a p.xs.length p.ca, .slice p.b p.ys.length p.cb, .slice p.t N p.ct]) := fun V hV => HX.out.later hV HX.out.lt
  have HNO : Hid (∀ V, Below Y.heap.size Y V → Calls Tryz.prog 74 #[.slice p.t N p.ct] V fun e w' => ∃ a c, e = .returned (.slice a N c) ∧ w'.ownsRow V.heap.size 35 6 (.slice a N c) N (flat3 (partsT p.ts)) ∧ Below V.heap.size V w') := fun V hV => numbersOf_any p.t N p.ct p.ts V (by omega) HLN.out (hp.ts.later (bt HB.out hV))
  have HPO : Hid (∀ V a c base, V.ownsRow base 35 6 (.slice a N c) N (flat3 (partsT p.ts)) → Calls Tryz.prog 73 #[.slice a N c] V fun e w' => ∃ a2 c2, e = .returned (.slice a2 (2 * N) c2) ∧ w'.ownsRow V.heap.size 24 3 (.slice a2 (2 * N) c2) (2 * N) (flat3 (partsT p.ts)) ∧ (N = 0 → a2 = none ∧ c2 = 0) ∧ Below V.heap.size V w') := fun V a c base h => partsOf_any a N c base p.ts V (by omega) HLN.out h
  have HPL : Hid ((partsT p.ts).length = 2 * N) := by rw [partsT_len, HLN.out]; exact rfl
  have hd0 := hid (Below.refl Y.heap.size Y)
  clear hp
  go_enter Tryz.func43, Tryz.ntmps43
  go_wp2_with fail
  go_cut [3] from 5 (fun s wx => Hid (NaC p N w s wx))
  case first =>
    by_cases hN0 : N = 0
    · subst hN0
      have HP0 : Hid (flat3 (partsT p.ts) = []) := by
        have h := HPL.out
        rw [List.eq_nil_of_length_eq_zero h]
        rfl
      have hs0 := HS.out _ (HXL.out _ hd0.out.drew)
      have hsa := HS.out _ (HXL.out _ (bel_al hd0.out (.cells #[.bool p.n, .slice p.a p.xs.length p.ca, .slice p.b p.ys.length p.cb] 24)).drew)
      go_region_held3 (fun V : World => V.cell? ⟨w.heap.size, 1, none⟩ = some (.bool p.n) ∧ V.cell? ⟨w.heap.size, 2, none⟩ = some (.slice p.a p.xs.length p.ca) ∧ V.cell? ⟨w.heap.size, 3, none⟩ = some (.slice p.b p.ys.length p.cb) ∧ V.cell? ⟨w.heap.size, 4, none⟩ = some (.slice p.t 0 p.ct)) (first | exact hs3 | exact hs2a | exact hs2 | exact hs1a | exact hs1 | exact hsa | exact hs0 | go_keep)
        (first
          | (go_at_call 74; (with_reducible refine Calls.mono (HNO.out _ (by first | exact hd0.out.drew | exact (bel_al hd0.out _).drew)) ?_); rintro e w1 ⟨a1, c1, rfl, o1, b1⟩; (first | (have hb1 := hid (bt hd0.out.drew b1)) | (have hb1 := hid (bt (bel_al hd0.out _).drew b1))); have HO1 := hid o1; have hs1 := HS.out _ (HXL.out _ hb1.out); have hs1a := HS.out _ (HXL.out _ (bel_al hb1.out (.cells #[.bool p.n, .slice p.a p.xs.length p.ca, .slice p.b p.ys.length p.cb] 24))); (first | (have HM1 := hid (qown_later (World.ownsRow.drew (World.ownsRow_lit (e := 24) (size := 3) (base := w.heap.size) Y #[.bool p.n, .slice p.a p.xs.length p.ca, .slice p.b p.ys.length p.cb] 1 HB.out.size (by decide) rfl)) b1)) | skip))
          | (go_at_call 73; (with_reducible refine Calls.mono (HPO.out _ a1 c1 _ (by first | exact HO1.out | exact qown_later HO1.out (alloc_later _ _))) ?_); rintro e w2 ⟨a2, c2, rfl, o2, z2, b2⟩; (first | (have hb2 := hid (bt hb1.out b2)) | (have hb2 := hid (bt (bel_al hb1.out _) b2))); have HO2 := hid o2; have HZ2 := hid z2; have hs2 := HS.out _ (HXL.out _ hb2.out); have hs2a := HS.out _ (HXL.out _ (bel_al hb2.out (.cells #[.bool p.n, .slice p.a p.xs.length p.ca, .slice p.b p.ys.length p.cb] 24))); (first | (have HM2 := hid (qown_later HM1.out b2); have HO3 := hid o2; have HBS := hid (bt HB.out hb2.out); have HXW := hid (HXL.out _ hb2.out)) | (have HM2 := hid (qown_later (World.ownsRow_lit (e := 24) (size := 3) (base := w.heap.size) w1 #[.bool p.n, .slice p.a p.xs.length p.ca, .slice p.b p.ys.length p.cb] 1 (bt HB.out hb1.out).size (by decide) rfl) b2); have HO3 := hid o2; have HBS := hid (bt HB.out hb2.out); have HXW := hid (HXL.out _ hb2.out)) | (have HM2 := hid (World.ownsRow_lit (e := 24) (size := 3) (base := w.heap.size) w2 #[.bool p.n, .slice p.a p.xs.length p.ca, .slice p.b p.ys.length p.cb] 1 (bt HB.out hb2.out).size (by decide) rfl); have HO3 := hid (qown_later o2 (alloc_later w2 (.cells #[.bool p.n, .slice p.a p.xs.length p.ca, .slice p.b p.ys.length p.cb] 24))); have HBS := hid (bt HB.out (bel_al hb2.out (.cells #[.bool p.n, .slice p.a p.xs.length p.ca, .slice p.b p.ys.length p.cb] 24))); have HXW := hid (HXL.out _ (bel_al hb2.out (.cells #[.bool p.n, .slice p.a p.xs.length p.ca, .slice p.b p.ys.length p.cb] 24))))); obtain ⟨rfl, rfl⟩ := z2 (by trivial); have HRN := hid (run_append_owned_none _ w.heap.size 109 109 24 i0 3 Tryz.underlying109 hi _ 1 _ HM2.out))
          | (refine step_append_run rfl (.tmp 7) (.tmp 11) 109 rfl _ (.slice none 0 0) _ _ rfl rfl HRN.out ?_))
      all_goals
        clear hs0 hsa hs1 hs1a hs2 hs2a HNO HPO HS
        go_wp2_with fail
        go_meet
        exact ⟨some ⟨_, 0, none⟩, 1, rfl, by rw [flat3_cons, HP0.out]; exact HM2.out, HBS.out⟩
    · have hNp : 0 < 2 * N := by omega
      have HLM := hid (show 1 + 2 * N ≤ maxLen by unfold maxLen; omega)
      have HLB := hid (show (1 + 2 * N) * 56 ≤ 140737488355328 by omega)
      have HFL := hid (show (flat3 (partsT p.ts)).length = 2 * N * 3 by rw [flat3_len, HPL.out])
      have hs0 := HS.out _ (HXL.out _ hd0.out.drew)
      have hsa := HS.out _ (HXL.out _ (bel_al hd0.out (.cells #[.bool p.n, .slice p.a p.xs.length p.ca, .slice p.b p.ys.length p.cb] 24)).drew)
      go_region_held3 (fun V : World => V.cell? ⟨w.heap.size, 1, none⟩ = some (.bool p.n) ∧ V.cell? ⟨w.heap.size, 2, none⟩ = some (.slice p.a p.xs.length p.ca) ∧ V.cell? ⟨w.heap.size, 3, none⟩ = some (.slice p.b p.ys.length p.cb) ∧ V.cell? ⟨w.heap.size, 4, none⟩ = some (.slice p.t N p.ct)) (first | exact hs3 | exact hs2a | exact hs2 | exact hs1a | exact hs1 | exact hsa | exact hs0 | go_keep)
        (first
          | (go_at_call 74; (with_reducible refine Calls.mono (HNO.out _ (by first | exact hd0.out.drew | exact (bel_al hd0.out _).drew)) ?_); rintro e w1 ⟨a1, c1, rfl, o1, b1⟩; (first | (have hb1 := hid (bt hd0.out.drew b1)) | (have hb1 := hid (bt (bel_al hd0.out _).drew b1))); have HO1 := hid o1; have hs1 := HS.out _ (HXL.out _ hb1.out); have hs1a := HS.out _ (HXL.out _ (bel_al hb1.out (.cells #[.bool p.n, .slice p.a p.xs.length p.ca, .slice p.b p.ys.length p.cb] 24))); (first | (have HM1 := hid (qown_later (World.ownsRow.drew (World.ownsRow_lit (e := 24) (size := 3) (base := w.heap.size) Y #[.bool p.n, .slice p.a p.xs.length p.ca, .slice p.b p.ys.length p.cb] 1 HB.out.size (by decide) rfl)) b1)) | skip))
          | (go_at_call 73; (with_reducible refine Calls.mono (HPO.out _ a1 c1 _ (by first | exact HO1.out | exact qown_later HO1.out (alloc_later _ _))) ?_); rintro e w2 ⟨a2, c2, rfl, o2, z2, b2⟩; (first | (have hb2 := hid (bt hb1.out b2)) | (have hb2 := hid (bt (bel_al hb1.out _) b2))); have HO2 := hid o2; have HZ2 := hid z2; have hs2 := HS.out _ (HXL.out _ hb2.out); have hs2a := HS.out _ (HXL.out _ (bel_al hb2.out (.cells #[.bool p.n, .slice p.a p.xs.length p.ca, .slice p.b p.ys.length p.cb] 24))); (first | (have HM2 := hid (qown_later HM1.out b2); have HO3 := hid o2; have HBS := hid (bt HB.out hb2.out); have HXW := hid (HXL.out _ hb2.out)) | (have HM2 := hid (qown_later (World.ownsRow_lit (e := 24) (size := 3) (base := w.heap.size) w1 #[.bool p.n, .slice p.a p.xs.length p.ca, .slice p.b p.ys.length p.cb] 1 (bt HB.out hb1.out).size (by decide) rfl) b2); have HO3 := hid o2; have HBS := hid (bt HB.out hb2.out); have HXW := hid (HXL.out _ hb2.out)) | (have HM2 := hid (World.ownsRow_lit (e := 24) (size := 3) (base := w.heap.size) w2 #[.bool p.n, .slice p.a p.xs.length p.ca, .slice p.b p.ys.length p.cb] 1 (bt HB.out hb2.out).size (by decide) rfl); have HO3 := hid (qown_later o2 (alloc_later w2 (.cells #[.bool p.n, .slice p.a p.xs.length p.ca, .slice p.b p.ys.length p.cb] 24))); have HBS := hid (bt HB.out (bel_al hb2.out (.cells #[.bool p.n, .slice p.a p.xs.length p.ca, .slice p.b p.ys.length p.cb] 24))); have HXW := hid (HXL.out _ (bel_al hb2.out (.cells #[.bool p.n, .slice p.a p.xs.length p.ca, .slice p.b p.ys.length p.cb] 24))))); obtain ⟨g2, rfl⟩ := qsome o2 hNp; have HCL := hid (World.ownsRow.cells HO3.out (g := g2) rfl))
          | (refine step_append_own_at rfl (.tmp 7) (.tmp 11) 109 rfl w.heap.size 24 i0 (.agg #[.bool false, .slice none 0 0, .slice none 0 0]) 3 56 Tryz.underlying109 hi hz0 hz1 hz2 rfl (by decide) _ 1 _ rfl HM2.out ⟨g2, 0, none⟩ (2 * N) c2 (flat3 (partsT p.ts)) rfl HFL.out HCL.out (flat3_one _) HLM.out HLB.out HBS.out.size ?_; intro v1 y1 o1 gr1 at1; have hs3 := HS.out y1 (qbox_gby HXW.out gr1 (fun e => qown_box HM2.out HXW.out (by decide) _ e rfl))))
      all_goals
        have HBN := hid (HBS.out.grown gr1 HBS.out.size (fun g e => (HM2.out.lt g e).1))
        obtain ⟨q1, d1, hv1⟩ := qown_slice o1
        subst hv1
        have HON := hid o1
        clear o1 gr1 hs0 hsa hs1 hs1a hs2 hs2a HNO HPO HS
        go_wp2_with fail
        go_meet
        exact ⟨q1, d1, rfl, HON.out, HBN.out⟩
  case rest =>
    obtain ⟨a, c, rfl, HO, HBW⟩ := hcut.out
    have HOW := hid HO
    have HBB := hid HBW
    clear HO HBW hcut HX HS HXL HNO HPO hd0 HB
    go_wp2_with fail
    go_loopw [4] (fun x wr => ∃ k : Nat, k ≤ 1 + 2 * N ∧ x = .int .i64 (k : Int) ∧ Hid (∀ j f, j < k → ((⟨p.n, p.a, p.ca, p.xs, p.b, p.cb, p.ys⟩ : F3) :: partsT p.ts)[j]? = some f → f.four) ∧ wr = wc) (fun x _ => 1 + 2 * N - (intOf x).toNat)
    case atStart => exact ⟨0, Nat.zero_le _, rfl, (fun j f h => by omega : ∀ j f, j < 0 → _ → F3.four f), rfl⟩
    case round =>
      obtain ⟨k, hk, rfl, HF, hwr⟩ := hrel
      rw [hwr]
      clear hwr
      by_cases hlt : k < 1 + 2 * N
      · obtain ⟨g, rfl⟩ := qsome HOW.out (by omega)
        obtain ⟨f, hf⟩ : ∃ f, ((⟨p.n, p.a, p.ca, p.xs, p.b, p.cb, p.ys⟩ : F3) :: partsT p.ts)[k]? = some f := ⟨_, List.getElem?_eq_getElem (by rw [List.length_cons, HPL.out]; omega)⟩
        have cc : ∀ i, i < 3 → wc.cell? ⟨g, k * 3 + i, none⟩ = f.cells[i]? := fun i hi => by rw [HOW.out.cellAt (k * 3 + i) (by omega), flat3_at hf hi]
        have e1 : wc.cell? ⟨g, k * 3 + 1, none⟩ = some (.slice f.a f.xs.length f.ca) := cc 1 (by decide)
        have e2 : wc.cell? ⟨g, k * 3 + 2, none⟩ = some (.slice f.b f.ys.length f.cb) := cc 2 (by decide)
        have hk0 : (0 : Int) ≤ (k : Int) := by omega
        have hk1 : (k : Int) < 1 + 2 * (N : Int) := by omega
        have HFN : Hid (f.four → ∀ j f', j < k + 1 → ((⟨p.n, p.a, p.ca, p.xs, p.b, p.cb, p.ys⟩ : F3) :: partsT p.ts)[j]? = some f' → f'.four) := fun h j f' hj hf' => by
          rcases Nat.lt_or_ge j k with g1 | g1
          · exact HF.out j f' g1 hf'
          · obtain rfl : j = k := by omega
            rw [hf] at hf'
            rw [← Option.some.inj hf']
            exact h
        clear cc hf
        by_cases hx : 4 < f.xs.length
        · have hx' : (4 : Int) < (f.xs.length : Int) := by omega
          go_wp2_with fail
          go_ret
          exact ⟨true, rfl, (fun h => by cases h), HBB.out⟩
        · have hx' : ¬ (4 : Int) < (f.xs.length : Int) := by omega
          by_cases hy : 4 < f.ys.length
          · have hy' : (4 : Int) < (f.ys.length : Int) := by omega
            go_wp2_with fail
            go_ret
            exact ⟨true, rfl, (fun h => by cases h), HBB.out⟩
          · have hy' : ¬ (4 : Int) < (f.ys.length : Int) := by omega
            have HF2 := hid (HFN.out ⟨by omega, by omega⟩)
            clear hx hy
            go_wp2_with fail
            go_roundw
            case rel => exact ⟨k + 1, by omega, by go_num, HF2, trivial⟩
            case measure => simp [intOf]; omega
      · obtain rfl : k = 1 + 2 * N := by omega
        have hk1 : ¬ (((1 + 2 * N : Nat) : Int)) < (((1 + 2 * N : Nat) : Int)) := by omega
        have HALL : Hid (∀ t ∈ p.ts, t.v.four) := four_parts fun f hf => by
          obtain ⟨j, hj⟩ := List.mem_iff_getElem?.1 hf
          have hjl := (List.getElem?_eq_some_iff.1 hj).1
          rw [HPL.out] at hjl
          exact HF.out (j + 1) f (by omega) (by rw [List.getElem?_cons_succ]; exact hj)
        go_wp2_with fail
        go_ret
        exact ⟨false, rfl, (fun _ => HALL.out), HBB.out⟩
end Go.Proofs.YtnfemheabikolaaGreatDoor

/- Moved, and moved on; there and back; conjugated twice: what it comes to. -/
namespace Go.Proofs.YtnfemheabikolaaGreatDoor
open Go.RowKit
set_option linter.unusedVariables false
set_option linter.unusedSimpArgs false

def TV.q (t : TV) : Rat × Rat := (t.q1, t.q2)
theorem tchk_rok {t : TV} (h : t.chk = 0) : rOK t.f t.r := trok (tchk_ok h).2.1
theorem four_hgt {t : TV} (h : t.four) (ht : t.Is t.q1 t.q2) : Hgt t.q1 (2 ^ 128) ∧ Hgt t.q2 (2 ^ 128) :=
  ⟨hgt_words (k := 4) ht.2.2.1 ht.2.2.2.1 ht.1.1 h.1 h.2.1, hgt_words (k := 4) ht.2.2.2.2.1 ht.2.2.2.2.2 ht.2.1.1 h.2.2.1 h.2.2.2⟩
theorem hmv {x y p q : Rat} {K J : Nat} (hx : Hgt x (2 ^ K)) (hy : Hgt y (2 ^ K)) (hp : Hgt p (2 ^ J)) (hq : Hgt q (2 ^ J)) : Hgt (x * p - y * q) (2 ^ (K + J + (K + J) + 1)) ∧ Hgt (x * q + y * p) (2 ^ (K + J + (K + J) + 1)) := by
  have mul : ∀ {a b : Rat}, Hgt a (2 ^ K) → Hgt b (2 ^ J) → Hgt (a * b) (2 ^ (K + J)) := fun ha hb => by rw [Nat.pow_add]; exact ha.mul hb
  have two : ∀ m : Nat, 2 * (2 ^ m * 2 ^ m) = 2 ^ (m + m + 1) := fun m => by rw [← Nat.pow_add, Nat.pow_succ, Nat.mul_comm]
  have s1 := (mul hx hp).sub (mul hy hq)
  have s2 := (mul hx hq).add (mul hy hp)
  rw [two] at s1 s2
  exact ⟨s1, s2⟩
theorem PV.Good.is_ {v : PV} (h : v.Good) (ho : v.ok) {j : Nat} (hj : j < v.ts.length) : (vT v.ts j).Is (vT v.ts j).q1 (vT v.ts j).q2 := by
  have hm : vT v.ts j ∈ v.ts := List.mem_of_getElem? (vT_at hj)
  have hw := ho.2.2.2 _ hm
  exact TV.chk_is (h.chk j hj) hw.2.2.1 hw.2.2.2.1 hw.2.2.2.2.1 hw.2.2.2.2.2
theorem made_ok {q : PL} {v : PV} {w w' : World} (hm : Made q v w w') (hv : v.ok) : q.ok w' := PL.ok_of (by rw [hm.v]; exact hv) hm.ow
theorem mv_ok {v : PV} {n : Int} {vs : List TV} (ho : v.ok) (hl : vs.length = v.ts.length) (hv : ∀ j, j < v.ts.length → Mv n (vT v.ts j) (vT vs j)) : PV.ok ⟨v.s, v.n, v.xs, v.ys, vs⟩ := by
  refine ⟨ho.1, ho.2.1, ho.2.2.1, fun t ht => ?_⟩
  obtain ⟨j, hj⟩ := List.mem_iff_getElem?.1 ht
  have hjl : j < vs.length := (List.getElem?_eq_some_iff.1 hj).1
  have e := vT_of hj
  have hm := hv j (by omega)
  have hw := ho.2.2.2 _ (List.mem_of_getElem? (vT_at (by omega : j < v.ts.length)))
  rw [e] at hm
  exact ⟨by rw [hm.1]; exact hw.1, by rw [hm.2.1, hm.2.2.1]; exact hw.2.1, hm.2.2.2.2.2⟩
theorem cj_ok {v : PV} {vs : List TV} (hg : v.Good) (ho : v.ok) (hl : vs.length = v.ts.length) (hv : ∀ j, j < v.ts.length → CjT (vT v.ts j) (vT vs j) 0) : PV.ok ⟨v.s, v.n, v.xs, v.ys, vs⟩ := by
  refine ⟨ho.1, ho.2.1, ho.2.2.1, fun t ht => ?_⟩
  obtain ⟨j, hj⟩ := List.mem_iff_getElem?.1 ht
  have hjl : j < vs.length := (List.getElem?_eq_some_iff.1 hj).1
  have e := vT_of hj
  have hm := hv j (by omega)
  have hw := ho.2.2.2 _ (List.mem_of_getElem? (vT_at (by omega : j < v.ts.length)))
  rw [e] at hm
  have hb := trok_in (tchk_rok (hg.chk j (by omega)))
  exact ⟨by rw [hm.2.1]; exact hw.1, by rw [hm.2.2.1, hm.2.2.2.1]; exact ⟨by omega, by omega⟩, hm.2.2.2.2.2.2⟩
end Go.Proofs.YtnfemheabikolaaGreatDoor

/- package port: sameButName. -/
namespace Go.Proofs.YtnfemheabikolaaGreatDoor
open Go.RowKit
set_option linter.unusedVariables false

def TL.named (a b : TL) : TL := { a with s := b.s }
theorem TL.named_ok {a b : TL} {w : World} (ha : a.ok w) (hb : b.ok w) : (a.named b).ok w := ⟨hb.size, ha.rot, ha.sx, ha.sy, ha.su, ha.sv⟩
set_option maxHeartbeats 3200000 in
set_option maxRecDepth 100000 in
theorem pSbn_any (a b : TL) (w : World) (ha : a.ok w) (hb : b.ok w) (sa : a.short) (sb : b.short) :
    Calls Tryz.prog 60 #[.agg a.cells, .agg b.cells] w fun e w' => e = .returned (.bool (smB (a.named b) b)) ∧ Below w.heap.size w w' := by
  have HX := hid (boxes2r w 37 a.cells b.cells)
  obtain ⟨X, hX⟩ : ∃ X, (w.alloc (.cells a.cells 37)).alloc (.cells b.cells 37) = X := ⟨_, rfl⟩
  rw [hX] at HX
  obtain ⟨Y, hY⟩ : ∃ Y, X.setCell ⟨w.heap.size, 0, none⟩ (.string b.s) = Y := ⟨_, rfl⟩
  have x0 : X.cell? ⟨w.heap.size, 0, none⟩ = some (.string a.s) := HX.out.1.cell 0
  have f0 := HX.out.1.free 0
  have y0 : X.cell? ⟨w.heap.size + 1, 0, none⟩ = some (.string b.s) := HX.out.2.1.cell 0
  have HA : Hid (Box Y w.heap.size 37 (a.named b).cells) := by
    subst hY
    exact HX.out.1.set 0 (.string b.s)
  have HB : Hid (Box Y (w.heap.size + 1) 37 b.cells) := by
    subst hY
    exact HX.out.2.1.other ⟨w.heap.size, 0, none⟩ _ (by simp)
  have HW : Hid (Below w.heap.size w Y) := by
    subst hY
    exact HX.out.2.2.setCell (p := ⟨w.heap.size, 0, none⟩) (Nat.le_refl _) _
  have HC := hid (tlsame_any (a.named b) b Y ((TL.named_ok ha hb).later HW.out) (hb.later HW.out) sa sb)
  have k0 : Y.cell? ⟨w.heap.size, 0, none⟩ = some (.string b.s) := HA.out.cell 0
  have k1 : Y.cell? ⟨w.heap.size, 1, none⟩ = some (.int .i32 a.f) := HA.out.cell 1
  have k2 : Y.cell? ⟨w.heap.size, 2, none⟩ = some (.int .i32 a.r) := HA.out.cell 2
  have k3 : Y.cell? ⟨w.heap.size, 3, none⟩ = some (.bool a.n) := HA.out.cell 3
  have k4 : Y.cell? ⟨w.heap.size, 4, none⟩ = some (.slice a.a a.xs.length a.ca) := HA.out.cell 4
  have k5 : Y.cell? ⟨w.heap.size, 5, none⟩ = some (.slice a.b a.ys.length a.cb) := HA.out.cell 5
  have k6 : Y.cell? ⟨w.heap.size, 6, none⟩ = some (.bool a.m) := HA.out.cell 6
  have k7 : Y.cell? ⟨w.heap.size, 7, none⟩ = some (.slice a.c a.us.length a.cc) := HA.out.cell 7
  have k8 : Y.cell? ⟨w.heap.size, 8, none⟩ = some (.slice a.d a.vs.length a.cd) := HA.out.cell 8
  have l0 : Y.cell? ⟨w.heap.size + 1, 0, none⟩ = some (.string b.s) := HB.out.cell 0
  have l1 : Y.cell? ⟨w.heap.size + 1, 1, none⟩ = some (.int .i32 b.f) := HB.out.cell 1
  have l2 : Y.cell? ⟨w.heap.size + 1, 2, none⟩ = some (.int .i32 b.r) := HB.out.cell 2
  have l3 : Y.cell? ⟨w.heap.size + 1, 3, none⟩ = some (.bool b.n) := HB.out.cell 3
  have l4 : Y.cell? ⟨w.heap.size + 1, 4, none⟩ = some (.slice b.a b.xs.length b.ca) := HB.out.cell 4
  have l5 : Y.cell? ⟨w.heap.size + 1, 5, none⟩ = some (.slice b.b b.ys.length b.cb) := HB.out.cell 5
  have l6 : Y.cell? ⟨w.heap.size + 1, 6, none⟩ = some (.bool b.m) := HB.out.cell 6
  have l7 : Y.cell? ⟨w.heap.size + 1, 7, none⟩ = some (.slice b.c b.us.length b.cc) := HB.out.cell 7
  have l8 : Y.cell? ⟨w.heap.size + 1, 8, none⟩ = some (.slice b.d b.vs.length b.cd) := HB.out.cell 8
  unfold TL.cells at hX
  have HC2 : Hid (Calls Tryz.prog 85 #[.agg #[.string b.s, .int .i32 a.f, .int .i32 a.r, .bool a.n, .slice a.a a.xs.length a.ca, .slice a.b a.ys.length a.cb, .bool a.m, .slice a.c a.us.length a.cc, .slice a.d a.vs.length a.cd], .agg #[.string b.s, .int .i32 b.f, .int .i32 b.r, .bool b.n, .slice b.a b.xs.length b.ca, .slice b.b b.ys.length b.cb, .bool b.m, .slice b.c b.us.length b.cc, .slice b.d b.vs.length b.cd]] Y fun e w' => e = .returned (.bool (smB (a.named b) b)) ∧ Below Y.heap.size Y w') := HC.out
  generalize smB (a.named b) b = Q at *
  unfold TL.cells
  clear ha hb sa sb HC
  go_enter Tryz.func60, Tryz.ntmps60
  go_wp2_with fail
  refine Calls.mono HC2.out ?_
  rintro e w1 ⟨rfl, hb1⟩
  have HB1 := hid (bt HW.out hb1)
  clear hb1
  go_wp2_with fail
  go_ret
  exact ⟨rfl, HB1.out⟩
end Go.Proofs.YtnfemheabikolaaGreatDoor

/- package port: what Real looks for. -/
namespace Go.Proofs.YtnfemheabikolaaGreatDoor
open Go.RowKit
set_option linter.unusedVariables false
set_option linter.unusedSimpArgs false

set_option maxHeartbeats 1600000 in
set_option maxRecDepth 100000 in
theorem pReal1_any (t u : TL) (g : Nat) (w : World) (hk : Box w g 37 t.cells) (ht : t.ok w) (hu : u.ok w) (st : t.short) (su : u.short) : Calls Tryz.prog 59 #[.agg u.cells, .pointer (some ⟨g, 0, none⟩)] w fun e w' => e = .returned (.bool (smB (t.named u) u)) ∧ Below w.heap.size w w' := by
  have HB := hid ((Below.refl w.heap.size w).alloc (Nat.le_refl _) (.cells u.cells 37))
  have HX : Hid (Box (w.alloc (.cells u.cells 37)) w.heap.size 37 u.cells) := Box.made w _ _
  have HK : Hid (Box (w.alloc (.cells u.cells 37)) g 37 t.cells) := hk.later (alloc_later _ _) hk.lt
  obtain ⟨X, hX⟩ : ∃ X, w.alloc (.cells u.cells 37) = X := ⟨_, rfl⟩
  rw [hX] at HB HX HK
  have HC := hid (pSbn_any t u X (ht.later HB.out) (hu.later HB.out) st su)
  unfold TL.cells at hX
  have a0 : X.cell? ⟨w.heap.size, 0, none⟩ = some (.string u.s) := HX.out.cell 0
  have a1 : X.cell? ⟨w.heap.size, 1, none⟩ = some (.int .i32 u.f) := HX.out.cell 1
  have a2 : X.cell? ⟨w.heap.size, 2, none⟩ = some (.int .i32 u.r) := HX.out.cell 2
  have a3 : X.cell? ⟨w.heap.size, 3, none⟩ = some (.bool u.n) := HX.out.cell 3
  have a4 : X.cell? ⟨w.heap.size, 4, none⟩ = some (.slice u.a u.xs.length u.ca) := HX.out.cell 4
  have a5 : X.cell? ⟨w.heap.size, 5, none⟩ = some (.slice u.b u.ys.length u.cb) := HX.out.cell 5
  have a6 : X.cell? ⟨w.heap.size, 6, none⟩ = some (.bool u.m) := HX.out.cell 6
  have a7 : X.cell? ⟨w.heap.size, 7, none⟩ = some (.slice u.c u.us.length u.cc) := HX.out.cell 7
  have a8 : X.cell? ⟨w.heap.size, 8, none⟩ = some (.slice u.d u.vs.length u.cd) := HX.out.cell 8
  have b0 : X.cell? ⟨g, 0, none⟩ = some (.string t.s) := HK.out.cell 0
  have b1 : X.cell? ⟨g, 1, none⟩ = some (.int .i32 t.f) := HK.out.cell 1
  have b2 : X.cell? ⟨g, 2, none⟩ = some (.int .i32 t.r) := HK.out.cell 2
  have b3 : X.cell? ⟨g, 3, none⟩ = some (.bool t.n) := HK.out.cell 3
  have b4 : X.cell? ⟨g, 4, none⟩ = some (.slice t.a t.xs.length t.ca) := HK.out.cell 4
  have b5 : X.cell? ⟨g, 5, none⟩ = some (.slice t.b t.ys.length t.cb) := HK.out.cell 5
  have b6 : X.cell? ⟨g, 6, none⟩ = some (.bool t.m) := HK.out.cell 6
  have b7 : X.cell? ⟨g, 7, none⟩ = some (.slice t.c t.us.length t.cc) := HK.out.cell 7
  have b8 : X.cell? ⟨g, 8, none⟩ = some (.slice t.d t.vs.length t.cd) := HK.out.cell 8
  generalize smB (t.named u) u = Q at *
  unfold TL.cells
  clear hk ht hu st su
  go_enter Tryz.func59, Tryz.ntmps59
  go_wp2_with fail
  refine Calls.mono HC.out ?_
  rintro e w1 ⟨rfl, hb1⟩
  have HB1 := hid (bt HB.out hb1)
  clear hb1
  go_wp2_with fail
  go_ret
  exact ⟨rfl, HB1.out⟩
set_option maxHeartbeats 3200000 in
set_option maxRecDepth 100000 in
theorem pindexR_any (g : Nat) (q : Nat → Bool) (t : Option Addr) (n ct : Nat) (ts : List TL) (w : World) (hn : n ≤ 1000000) (hl : ts.length = n) (ht : RdT w t ts) (hC : ∀ j V, j < n → Below w.heap.size w V → Calls Tryz.prog 59 #[.agg (tT ts j).cells, .pointer (some ⟨g, 0, none⟩)] V fun e w' => e = .returned (.bool (q j)) ∧ Below V.heap.size V w') :
    Calls Tryz.prog 54 #[.slice t n ct, .func (.func 59) #[] #[.pointer (some ⟨g, 0, none⟩)]] w fun e w' => ∃ z : Int, e = .returned (.int .i64 z) ∧ FstI q n z ∧ Below w.heap.size w w' := by
  have HX := hid ht
  have HL := hid hl
  have HC := hid hC
  clear ht hl hC
  go_enter Tryz.func54, Tryz.ntmps54
  go_wp2_with fail
  go_loopw [8] (fun x wr => ∃ k : Nat, k ≤ n ∧ x = .int .i64 (k : Int) ∧ Hid (Below w.heap.size w wr) ∧ Hid (∀ j, j < k → q j = false)) (fun x _ => n - (intOf x).toNat)
  case atStart => exact ⟨0, Nat.zero_le _, rfl, Below.refl _ _, (fun j hj => by omega : ∀ j, j < 0 → _)⟩
  case round =>
    obtain ⟨k, hk, rfl, HW, HT⟩ := hrel
    by_cases hlt : k < n
    · have hkx : k < ts.length := by have := HL.out; omega
      rcases HX.out.2 with h0 | ⟨bb, o, rfl, hg, hx⟩
      · rw [h0] at hkx; exact absurd hkx (by simp)
      have hci := hx k _ (tT_at hkx)
      have HCk := hid (HC.out k wr hlt HW.out)
      have e0 := (HW.out.cell (p := ⟨bb, o + k * 9 + 0, none⟩) hg).trans (hci 0 (by decide))
      have e1 := (HW.out.cell (p := ⟨bb, o + k * 9 + 1, none⟩) hg).trans (hci 1 (by decide))
      have e2 := (HW.out.cell (p := ⟨bb, o + k * 9 + 2, none⟩) hg).trans (hci 2 (by decide))
      have e3 := (HW.out.cell (p := ⟨bb, o + k * 9 + 3, none⟩) hg).trans (hci 3 (by decide))
      have e4 := (HW.out.cell (p := ⟨bb, o + k * 9 + 4, none⟩) hg).trans (hci 4 (by decide))
      have e5 := (HW.out.cell (p := ⟨bb, o + k * 9 + 5, none⟩) hg).trans (hci 5 (by decide))
      have e6 := (HW.out.cell (p := ⟨bb, o + k * 9 + 6, none⟩) hg).trans (hci 6 (by decide))
      have e7 := (HW.out.cell (p := ⟨bb, o + k * 9 + 7, none⟩) hg).trans (hci 7 (by decide))
      have e8 := (HW.out.cell (p := ⟨bb, o + k * 9 + 8, none⟩) hg).trans (hci 8 (by decide))
      clear hci hx
      generalize tT ts k = tt at *
      have c0 : wr.cell? ⟨bb, o + k * 9, none⟩ = some (.string tt.s) := e0
      have c1 : wr.cell? ⟨bb, o + k * 9 + 1, none⟩ = some (.int .i32 tt.f) := e1
      have c2 : wr.cell? ⟨bb, o + k * 9 + 2, none⟩ = some (.int .i32 tt.r) := e2
      have c3 : wr.cell? ⟨bb, o + k * 9 + 3, none⟩ = some (.bool tt.n) := e3
      have c4 : wr.cell? ⟨bb, o + k * 9 + 4, none⟩ = some (.slice tt.a tt.xs.length tt.ca) := e4
      have c5 : wr.cell? ⟨bb, o + k * 9 + 5, none⟩ = some (.slice tt.b tt.ys.length tt.cb) := e5
      have c6 : wr.cell? ⟨bb, o + k * 9 + 6, none⟩ = some (.bool tt.m) := e6
      have c7 : wr.cell? ⟨bb, o + k * 9 + 7, none⟩ = some (.slice tt.c tt.us.length tt.cc) := e7
      have c8 : wr.cell? ⟨bb, o + k * 9 + 8, none⟩ = some (.slice tt.d tt.vs.length tt.cd) := e8
      clear e0 e1 e2 e3 e4 e5 e6 e7 e8
      have hk1 : (k : Int) < (n : Int) := by omega
      go_wp2_with fail
      refine Calls.mono HCk.out ?_
      rintro e w2 ⟨rfl, hb⟩
      have HB := hid (bt HW.out hb)
      clear hb c0 c1 c2 c3 c4 c5 c6 c7 c8 HCk
      cases hq : q k with
      | true =>
        have HR := hid hq
        go_wp2_with fail
        go_ret
        exact ⟨(k : Int), rfl, .inl ⟨k, hlt, rfl, HR.out, HT.out⟩, HB.out⟩
      | false =>
        have HN : Hid (∀ j, j < k + 1 → q j = false) := fun j hj => by
          rcases Nat.lt_or_ge j k with g1 | g1
          · exact HT.out j g1
          · obtain rfl : j = k := by omega
            exact hq
        go_wp2_with fail
        go_roundw
        case rel => exact ⟨k + 1, by omega, by go_num, HB.out, HN⟩
        case measure => simp [intOf]; omega
    · obtain rfl : k = n := by omega
      have hkk : ¬ (k : Int) < (k : Int) := by omega
      go_wp2_with fail
      go_ret
      exact ⟨-1, rfl, .inr ⟨rfl, HT.out⟩, HW.out⟩
set_option maxHeartbeats 3200000 in
set_option maxRecDepth 100000 in
theorem pcontR_any (g : Nat) (q : Nat → Bool) (t : Option Addr) (n ct : Nat) (ts : List TL) (w : World) (hn : n ≤ 1000000) (hl : ts.length = n) (ht : RdT w t ts) (hC : ∀ j V, j < n → Below w.heap.size w V → Calls Tryz.prog 59 #[.agg (tT ts j).cells, .pointer (some ⟨g, 0, none⟩)] V fun e w' => e = .returned (.bool (q j)) ∧ Below V.heap.size V w') :
    Calls Tryz.prog 58 #[.slice t n ct, .func (.func 59) #[] #[.pointer (some ⟨g, 0, none⟩)]] w fun e w' => ∃ bo : Bool, e = .returned (.bool bo) ∧ (bo = true ↔ ∃ j, j < n ∧ q j = true) ∧ Below w.heap.size w w' := by
  have HI := hid (pindexR_any g q t n ct ts w hn hl ht hC)
  clear ht hC
  go_enter Tryz.func58, Tryz.ntmps58
  go_wp2_with fail
  refine Calls.mono HI.out ?_
  rintro e w1 ⟨z, rfl, hz, hb⟩
  have e0 : decide (0 ≤ z) = true ↔ ∃ j, j < n ∧ q j = true := by
    rw [decide_eq_true_iff]
    rcases hz with ⟨i, hi, rfl, hq, _⟩ | ⟨rfl, hb⟩
    · exact ⟨fun _ => ⟨i, hi, hq⟩, fun _ => by omega⟩
    · exact ⟨fun h => by omega, fun ⟨j, hj, h⟩ => by rw [hb j hj] at h; cases h⟩
  have HE := hid e0
  have HB := hid hb
  clear e0 hz hb
  go_wp2_with fail
  go_ret
  exact ⟨decide (0 ≤ z), rfl, HE.out, HB.out⟩
end Go.Proofs.YtnfemheabikolaaGreatDoor

/- package port: Real. (tools/mkqcj.py) -/
namespace Go.Proofs.YtnfemheabikolaaGreatDoor
open Go.RowKit
set_option linter.unusedVariables false
set_option linter.unusedSimpArgs false

def rsB (a b : TV) : Bool := (a.f == b.f && a.r == b.r) && (decide (a.n = b.n ∧ a.xs = b.xs ∧ a.ys = b.ys) && decide (a.m = b.m ∧ a.us = b.us ∧ a.vs = b.vs))
theorem smB_named (t u : TL) : smB (t.named u) u = rsB t.v u.v := by
  unfold smB rsB
  rw [show (t.named u).s = u.s from rfl, decide_eq_true rfl, Bool.true_and]
  rfl
theorem TV.Is.few {v : TV} {q1 q2 : Rat} (h : v.Is q1 q2) : v.few := by
  have a := rwords h.1.1
  have b := rwords h.2.1.1
  exact ⟨by omega, by omega, by omega, by omega⟩
theorem TV.few.short {t : TL} (h : t.v.few) : t.short := by
  obtain ⟨a, b, c, d⟩ := h
  exact ⟨Nat.le_trans a (by decide), Nat.le_trans b (by decide), Nat.le_trans c (by decide), Nat.le_trans d (by decide)⟩
def RlT (p : PL) (bo : Bool) (c : Int) : Prop := (∃ z, PChk p.hd p.ts c z ∧ c ≠ 0 ∧ bo = false) ∨ (p.good ∧ c = 0 ∧ ∃ vs : List TV, vs.length = p.ts.length ∧ (∀ j, j < p.ts.length → CjT (tT p.ts j).v (vT vs j) 0) ∧ (bo = true ↔ ∀ j, j < p.ts.length → ∃ k, k < p.ts.length ∧ rsB (vT vs j) (tT p.ts k).v = true))
def RlW (p : PL) (w : World) (e : Ending) (w' : World) : Prop := ∃ (bo : Bool) (c : Int), e = .returned (.tuple #[.bool bo, .int .i64 c]) ∧ RlT p bo c ∧ Below w.heap.size w w'
set_option maxHeartbeats 6400000 in
set_option maxRecDepth 100000 in
theorem pReal_any (p : PL) (w : World) (hp : p.ok w) : Calls Tryz.prog 15 #[.agg p.cells] w (RlW p w) := by
  obtain ⟨X, hX⟩ : ∃ X, w.alloc (.cells #[.string p.s, .bool p.n, .slice p.a p.xs.length p.ca, .slice p.b p.ys.length p.cb, .slice p.t p.ts.length p.ct] 27) = X := ⟨_, rfl⟩
  have HX : Hid (Box X w.heap.size 27 #[.string p.s, .bool p.n, .slice p.a p.xs.length p.ca, .slice p.b p.ys.length p.cb, .slice p.t p.ts.length p.ct]) := by
    subst hX
    exact Box.made w _ _
  have HB : Hid (Below w.heap.size w X) := by
    subst hX
    exact alloc_later _ _
  have KP := hid (hp.later HB.out)
  have HC1 := hid (pConj_any p X KP.out)
  have HWV : Hid (p.v.ok) := hp.v
  have y0 : X.cell? ⟨w.heap.size, 0, none⟩ = some (.string p.s) := HX.out.cell 0
  have y1 : X.cell? ⟨w.heap.size, 1, none⟩ = some (.bool p.n) := HX.out.cell 1
  have y2 : X.cell? ⟨w.heap.size, 2, none⟩ = some (.slice p.a p.xs.length p.ca) := HX.out.cell 2
  have y3 : X.cell? ⟨w.heap.size, 3, none⟩ = some (.slice p.b p.ys.length p.cb) := HX.out.cell 3
  have y4 : X.cell? ⟨w.heap.size, 4, none⟩ = some (.slice p.t p.ts.length p.ct) := HX.out.cell 4
  unfold PL.cells at *
  clear hp
  go_enter Tryz.func15, Tryz.ntmps15
  go_wp2_with fail
  refine Calls.mono HC1.out ?_
  rintro e w1 ⟨q, c, rfl, hc⟩
  have hm : ∃ v, Made q v X w1 := by
    rcases hc with ⟨_, _, _, h⟩ | ⟨_, _, _, _, _, h⟩
    · exact ⟨_, h⟩
    · exact ⟨_, h⟩
  obtain ⟨v5, hm⟩ := hm
  have HX1 := hid (HX.out.later hm.bel HX.out.lt)
  obtain ⟨W2, hW2⟩ : ∃ W2, w1.alloc (.cells #[.string ⟨#[]⟩, .bool false, .slice none 0 0, .slice none 0 0, .slice none 0 0] 27) = W2 := ⟨_, rfl⟩
  have HF : Hid (Box W2 w1.heap.size 27 #[.string ⟨#[]⟩, .bool false, .slice none 0 0, .slice none 0 0, .slice none 0 0]) := by
    subst hW2
    exact Box.made w1 _ _
  have HB2 : Hid (Below w1.heap.size w1 W2) := by
    subst hW2
    exact alloc_later _ _
  have hs1 : X.heap.size ≤ w1.heap.size := hm.bel.size
  have hxs : w.heap.size < X.heap.size := HX.out.lt
  obtain ⟨A0, A1, A2, A3, A4, q0, q1, q2, q3, q4, ⟨r0, r1, r2, r3, r4⟩, ⟨f0, f1, f2, f3, f4⟩, HA⟩ := pchain5 HF.out (.string q.s) (.bool q.n) (.slice q.a q.xs.length q.ca) (.slice q.b q.ys.length q.cb) (.slice q.t q.ts.length q.ct)
  have HYA : Hid (Below X.heap.size X A4) := HA.out.2.2.2.1 _ _ hs1 (bt hm.bel HB2.out)
  have HXA := hid (HA.out.2.1 _ _ _ (show w.heap.size ≠ w1.heap.size by omega) (HX1.out.later HB2.out HX1.out.lt))
  have HYW : Hid (Below w1.heap.size w1 A4) := HA.out.2.2.2.1 _ _ (Nat.le_refl _) HB2.out
  have HM := hid HA.out.1
  have HBA := hid (bt HB.out HYA.out)
  have KPA := hid (KP.out.later HYA.out)
  have HCK := hid hc
  clear y0 y1 y2 y3 y4 HC1 HX1 HX HF HB2 hc hX hm hs1 hxs HB KP HA
  by_cases hc0 : c = 0
  · subst hc0
    obtain ⟨hg, vs, hvl, hvs, hmv⟩ : p.good ∧ ∃ vs : List TV, vs.length = p.ts.length ∧ (∀ j, j < p.ts.length → CjT (tT p.ts j).v (vT vs j) 0) ∧ Made q ⟨p.s, p.n, p.xs, p.ys, vs⟩ X w1 := by
      rcases HCK.out with ⟨_, _, h, _⟩ | ⟨hg, _, vs, h1, h2, h3⟩
      · exact absurd rfl h
      · exact ⟨hg, vs, h1, (fun j hj => h2 j _ (vT_at (by omega))), h3⟩
    have hqv : q.ts.map TL.v = vs := congrArg PV.ts hmv.v
    have hql : q.ts.length = p.ts.length := by rw [← hvl, ← hqv, List.length_map]
    have HG := hid hg
    have HVL := hid hvl
    have HVS := hid hvs
    have HN : Hid (p.ts.length ≤ 24) := hg.len
    have HQV : Hid (∀ j, j < p.ts.length → (tT q.ts j).v = vT vs j) := fun j hj => by rw [tT_v, hqv]
    have KQ : Hid (RdT A4 q.t q.ts) := (made_ok hmv (cj_ok (PL.good_iff.1 hg) HWV.out (by rw [hvl]; exact (List.length_map ..).symm) (fun j hj => by
      have hj' : j < p.ts.length := by rw [← List.length_map (f := TL.v)]; exact hj
      rw [show vT p.v.ts j = (tT p.ts j).v from (tT_v p.ts j).symm]
      exact hvs j hj'))).ts.later HYW.out
    have HQL := hid hql
    clear hmv hqv hvl hvs hg hql HCK HWV HYW HYA
    obtain ⟨N, hN⟩ : ∃ N, p.ts.length = N := ⟨_, rfl⟩
    rw [HQL.out, hN] at HM
    rw [hN] at HXA
    have HNN := hid hN
    rw [HQL.out, hN] at q4
    clear hN
    have k0 : A4.cell? ⟨w1.heap.size, 4, none⟩ = some (.slice q.t N q.ct) := HM.out.cell 4
    have hN0 : Hid (N ≤ 24) := by have := HN.out; rw [HNN.out] at this; exact this
    simp only [HQL.out, HNN.out]
    obtain ⟨qt, hqt⟩ : ∃ qt, q.t = qt := ⟨_, rfl⟩
    rw [hqt] at KQ HM q4 k0
    simp only [hqt]
    clear hqt
    go_wp2_with fail
    go_loopw [19] (fun x wr => ∃ k : Nat, k ≤ N ∧ x = .int .i64 (k : Int) ∧ Hid (Below A4.heap.size A4 wr) ∧ Hid (∀ j, j < k → ∃ i, i < p.ts.length ∧ rsB (vT vs j) (tT p.ts i).v = true)) (fun x _ => N - (intOf x).toNat)
    case atStart => exact ⟨0, Nat.zero_le _, rfl, Below.refl _ _, (fun j hj => by omega : ∀ j, j < 0 → _)⟩
    case round =>
      obtain ⟨k, hk, rfl, HW, HT⟩ := hrel
      by_cases hlt : k < N
      · have hkx : k < q.ts.length := by have := HQL.out; have := HNN.out; omega
        have hkp : k < p.ts.length := by have := HNN.out; omega
        rcases KQ.out.2 with h0 | ⟨bb, o, rfl, hg, hx⟩
        · rw [h0] at hkx; exact absurd hkx (by simp)
        have hci := hx k _ (tT_at hkx)
        have HTK : Hid ((tT q.ts k).ok A4 ∧ (tT q.ts k).v = vT vs k) := ⟨KQ.out.1 _ (tT_mem hkx), HQV.out k hkp⟩
        have e0 := (HW.out.cell (p := ⟨bb, o + k * 9 + 0, none⟩) hg).trans (hci 0 (by decide))
        have e1 := (HW.out.cell (p := ⟨bb, o + k * 9 + 1, none⟩) hg).trans (hci 1 (by decide))
        have e2 := (HW.out.cell (p := ⟨bb, o + k * 9 + 2, none⟩) hg).trans (hci 2 (by decide))
        have e3 := (HW.out.cell (p := ⟨bb, o + k * 9 + 3, none⟩) hg).trans (hci 3 (by decide))
        have e4 := (HW.out.cell (p := ⟨bb, o + k * 9 + 4, none⟩) hg).trans (hci 4 (by decide))
        have e5 := (HW.out.cell (p := ⟨bb, o + k * 9 + 5, none⟩) hg).trans (hci 5 (by decide))
        have e6 := (HW.out.cell (p := ⟨bb, o + k * 9 + 6, none⟩) hg).trans (hci 6 (by decide))
        have e7 := (HW.out.cell (p := ⟨bb, o + k * 9 + 7, none⟩) hg).trans (hci 7 (by decide))
        have e8 := (HW.out.cell (p := ⟨bb, o + k * 9 + 8, none⟩) hg).trans (hci 8 (by decide))
        clear hci hx
        generalize tT q.ts k = tt at *
        have c0 : wr.cell? ⟨bb, o + k * 9, none⟩ = some (.string tt.s) := e0
        have c1 : wr.cell? ⟨bb, o + k * 9 + 1, none⟩ = some (.int .i32 tt.f) := e1
        have c2 : wr.cell? ⟨bb, o + k * 9 + 2, none⟩ = some (.int .i32 tt.r) := e2
        have c3 : wr.cell? ⟨bb, o + k * 9 + 3, none⟩ = some (.bool tt.n) := e3
        have c4 : wr.cell? ⟨bb, o + k * 9 + 4, none⟩ = some (.slice tt.a tt.xs.length tt.ca) := e4
        have c5 : wr.cell? ⟨bb, o + k * 9 + 5, none⟩ = some (.slice tt.b tt.ys.length tt.cb) := e5
        have c6 : wr.cell? ⟨bb, o + k * 9 + 6, none⟩ = some (.bool tt.m) := e6
        have c7 : wr.cell? ⟨bb, o + k * 9 + 7, none⟩ = some (.slice tt.c tt.us.length tt.cc) := e7
        have c8 : wr.cell? ⟨bb, o + k * 9 + 8, none⟩ = some (.slice tt.d tt.vs.length tt.cd) := e8
        clear e0 e1 e2 e3 e4 e5 e6 e7 e8
        have HKS : Hid (tt.short) := (show tt.v.few by rw [HTK.out.2]; exact (HVS.out k hkp).2.2.2.2.few).short
        have HPS : Hid (∀ j, j < p.ts.length → (tT p.ts j).short) := fun j hj => (show (tT p.ts j).v.few from HG.out.few.2.2.2 _ (List.mem_map.2 ⟨_, tT_mem hj, rfl⟩)).short
        have hk1 : (k : Int) < (N : Int) := by omega
        have HTV : Hid (tt.v = vT vs k) := HTK.out.2
        obtain ⟨R1, hR1⟩ : ∃ R1, wr.alloc (.cells #[.string ⟨#[]⟩, .int .i32 0, .int .i32 0, .bool false, .slice none 0 0, .slice none 0 0, .bool false, .slice none 0 0, .slice none 0 0] 37) = R1 := ⟨_, rfl⟩
        have HR1 : Hid (Box R1 wr.heap.size 37 #[.string ⟨#[]⟩, .int .i32 0, .int .i32 0, .bool false, .slice none 0 0, .slice none 0 0, .bool false, .slice none 0 0, .slice none 0 0]) := by
          subst hR1
          exact Box.made wr _ _
        have HB1 : Hid (Below wr.heap.size wr R1) := by
          subst hR1
          exact alloc_later _ _
        obtain ⟨B0, B1, B2, B3, B4, B5, B6, B7, B8, u0, u1, u2, u3, u4, u5, u6, u7, u8, ⟨x0, x1, x2, x3, x4, x5, x6, x7, x8⟩, ⟨y0, y1, y2, y3, y4, y5, y6, y7, y8⟩⟩ := tchain9 HR1.out (.string tt.s) (.int .i32 tt.f) (.int .i32 tt.r) (.bool tt.n) (.slice tt.a tt.xs.length tt.ca) (.slice tt.b tt.ys.length tt.cb) (.bool tt.m) (.slice tt.c tt.us.length tt.cc) (.slice tt.d tt.vs.length tt.cd)
        have hws := HW.out.size
        have HBX : Hid (Box B8 wr.heap.size 37 tt.cells ∧ Below A4.heap.size A4 B8) := by
          subst u0 u1 u2 u3 u4 u5 u6 u7 u8
          exact ⟨box_put9 HR1.out _ _ _ _ _ _ _ _ _, below_put9 (bt HW.out HB1.out) _ hws _ _ _ _ _ _ _ _ _⟩
        have HXB := hid (HXA.out.later HBX.out.2 HXA.out.lt)
        have d4 : B8.cell? ⟨w.heap.size, 4, none⟩ = some (.slice p.t N p.ct) := HXB.out.cell 4
        have KPB := hid (KPA.out.later HBX.out.2)
        have HCC := hid (pcontR_any wr.heap.size (fun j => rsB tt.v (tT p.ts j).v) p.t N p.ct p.ts B8 (by have := hN0.out; omega) HNN.out KPB.out.ts (fun j V hj hV => by
          have hj' : j < p.ts.length := by have := HNN.out; omega
          rw [show rsB tt.v (tT p.ts j).v = smB (tt.named (tT p.ts j)) (tT p.ts j) from (smB_named _ _).symm]
          exact pReal1_any tt (tT p.ts j) wr.heap.size V (HBX.out.1.later hV HBX.out.1.lt) (HTK.out.1.later (bt HBX.out.2 hV)) ((KPB.out.ts.later hV).1 _ (tT_mem hj')) HKS.out (HPS.out j hj')))
        clear hws HR1 HB1 HKS HPS KPB
        go_wp2_with fail
        refine Calls.mono HCC.out ?_
        rintro e w2 ⟨bo, rfl, hbo, hb⟩
        have HW2 := hid (bt HBX.out.2 hb)
        have HBO := hid hbo
        clear hb hbo HCC HXB HBX HTK c0 c1 c2 c3 c4 c5 c6 c7 c8 d4 x0 x1 x2 x3 x4 x5 x6 x7 x8 y0 y1 y2 y3 y4 y5 y6 y7 y8
        cases bo with
        | true =>
          have HN2 : Hid (∀ j, j < k + 1 → ∃ i, i < p.ts.length ∧ rsB (vT vs j) (tT p.ts i).v = true) := fun j hj => by
            rcases Nat.lt_or_ge j k with g1 | g1
            · exact HT.out j g1
            · obtain rfl : j = k := by omega
              obtain ⟨i, hi, h⟩ := HBO.out.1 rfl
              exact ⟨i, by have := HNN.out; omega, by rw [← HTV.out]; exact h⟩
          have h24 : N ≤ 24 := hN0.out
          go_wp2_with fail
          go_roundw
          case rel => exact ⟨k + 1, by omega, by go_num, HW2, HN2⟩
          case measure => simp [intOf]; omega
        | false =>
          go_wp2_with fail
          go_ret2
          unfold RlW
          refine ⟨false, 0, rfl, .inr ⟨HG.out, rfl, vs, HVL.out, HVS.out, ⟨fun h => (by cases h), fun h => ?_⟩⟩, bt HBA.out HW2.out⟩
          obtain ⟨i, hi, h1⟩ := h k (by have := HNN.out; omega)
          have := HBO.out.2 ⟨i, by have := HNN.out; omega, by rw [HTV.out]; exact h1⟩
          cases this
      · obtain rfl : k = N := by omega
        have hkk : ¬ (k : Int) < (k : Int) := by omega
        go_wp2_with fail
        go_ret2
        unfold RlW
        exact ⟨true, 0, rfl, .inr ⟨HG.out, rfl, vs, HVL.out, HVS.out, ⟨fun _ j hj => HT.out j (by have := HNN.out; omega), fun _ => rfl⟩⟩, bt HBA.out HW.out⟩
  · have h0' : (c == 0) = false := by simp [hc0]
    have h0'' : (c != 0) = true := by simp [hc0]
    have HCN := hid hc0
    clear hc0
    go_wp2_with fail
    go_ret2
    unfold RlW
    rcases HCK.out with ⟨z, hz, _, _⟩ | ⟨_, h, _⟩
    · exact ⟨false, c, rfl, .inl ⟨z, hz, HCN.out, rfl⟩, HBA.out⟩
    · exact absurd h HCN.out
end Go.Proofs.YtnfemheabikolaaGreatDoor

/- Layer 14: the laws' at: a constituent's number at a tick. (tools/mkqch.py) -/
namespace Go.Proofs.YtnfemheabikolaaGreatDoor
open Go.RowKit
set_option linter.unusedVariables false
set_option linter.unusedSimpArgs false

theorem pgres_run {fn : Func} {W : World} {b q u : Nat} {cs : Array Value} (hr : fn.results = #[.cell q 35, .tmp u]) (hb : Box W b 35 cs) (tmps : Array Value) (h4 : tmps.getD q undef = .pointer (some ⟨b, 0, none⟩)) (hi : (Tryz.prog.info? 35).map (·.size) = some cs.size := by kernel_rfl) : (results fn tmps).run Tryz.prog W = .ok (.tuple #[.agg cs, tmps.getD u undef]) W := by
  have h := run_loadVar_row (P := Tryz.prog) W b 35 35 cs (0, 0) _ hb Tryz.underlying35 rfl hi
  rw [results_cell_tmp hr, h4]
  simp [asAddr, h]
set_option maxHeartbeats 3200000 in
set_option maxRecDepth 100000 in
theorem pat_any (t : TL) (n : Int) (w : World) (ht : t.ok w) (hk : t.chk = 0) (n0 : -1024 ≤ n) (n1 : n ≤ 1024) (hs : ¬ mlong t.v.q1 t.v.q2 (oP t.f t.r n).1 (oP t.f t.r n).2) : Calls Tryz.prog 44 #[.agg t.cells, .int .i64 n] w fun e w' => ∃ g : G6, e = .returned (.tuple #[.agg #[.bool g.n, .slice g.a g.xs.length g.ca, .slice g.b g.ys.length g.cb, .bool g.m, .slice g.c g.us.length g.cc, .slice g.d g.vs.length g.cd], .bool true]) ∧ g.Sl4 w' ∧ g.Is (t.v.q1 * (oP t.f t.r n).1 - t.v.q2 * (oP t.f t.r n).2) (t.v.q1 * (oP t.f t.r n).2 + t.v.q2 * (oP t.f t.r n).1) ∧ Below w.heap.size w w' := by
  obtain ⟨X, hX⟩ : ∃ X, w.alloc (.cells #[.string t.s, .int .i32 t.f, .int .i32 t.r, .bool t.n, .slice t.a t.xs.length t.ca, .slice t.b t.ys.length t.cb, .bool t.m, .slice t.c t.us.length t.cc, .slice t.d t.vs.length t.cd] 37) = X := ⟨_, rfl⟩
  obtain ⟨Y, hY⟩ : ∃ Y, X.alloc (.cells #[.bool false, .slice none 0 0, .slice none 0 0, .bool false, .slice none 0 0, .slice none 0 0] 35) = Y := ⟨_, rfl⟩
  have hXs : X.heap.size = w.heap.size + 1 := by subst hX; simp
  have HX : Hid (Box Y w.heap.size 37 #[.string t.s, .int .i32 t.f, .int .i32 t.r, .bool t.n, .slice t.a t.xs.length t.ca, .slice t.b t.ys.length t.cb, .bool t.m, .slice t.c t.us.length t.cc, .slice t.d t.vs.length t.cd]) := by
    subst hY hX
    exact (Box.made w _ _).later (alloc_later _ _) (Box.made w 37 _).lt
  have HR : Hid (Box Y (w.heap.size + 1) 35 #[.bool false, .slice none 0 0, .slice none 0 0, .bool false, .slice none 0 0, .slice none 0 0]) := by
    rw [← hXs]
    subst hY
    exact Box.made X _ _
  have HB : Hid (Below w.heap.size w Y) := by
    subst hY hX
    exact bt (alloc_later _ _) (alloc_later _ _)
  have HYs : Hid (w.heap.size + 1 < Y.heap.size) := HR.out.lt
  have hro := (tchk_ok hk).2.1
  have hgc := (tchk_ok hk).2.2
  have HP := hid (oPower_any t.f t.r n Y (trok hro) n0 n1)
  have HM : Hid (∀ (g : G6) (V : World), Below Y.heap.size Y V → g.Ow V Y.heap.size → g.Is (oP t.f t.r n).1 (oP t.f t.r n).2 → Calls Tryz.prog 105 #[.agg #[.bool t.n, .slice t.a t.xs.length t.ca, .slice t.b t.ys.length t.cb, .bool t.m, .slice t.c t.us.length t.cc, .slice t.d t.vs.length t.cd], .agg #[.bool g.n, .slice g.a g.xs.length g.ca, .slice g.b g.ys.length g.cb, .bool g.m, .slice g.c g.us.length g.cc, .slice g.d g.vs.length g.cd]] V (KGq V 0 (mlong t.v.q1 t.v.q2 (oP t.f t.r n).1 (oP t.f t.r n).2) (t.v.q1 * (oP t.f t.r n).1 - t.v.q2 * (oP t.f t.r n).2) (t.v.q1 * (oP t.f t.r n).2 + t.v.q2 * (oP t.f t.r n).1))) := fun g V hV hg hi => by
    have hs := hg.sl hi
    have hv := bt HB.out hV
    have q := gMul_cut t.n t.a t.ca t.xs t.b t.cb t.ys t.m t.c t.cc t.us t.d t.cd t.vs g.n g.a g.ca g.xs g.b g.cb g.ys g.m g.c g.cc g.us g.d g.cd g.vs V (ht.sx.later hv) (ht.sy.later hv) (ht.su.later hv) (ht.sv.later hv) hs.1 hs.2.1 hs.2.2.1 hs.2.2.2
    rw [hgc, hi.chk, fstE_zero, hi.1.2, hi.2.1.2] at q
    exact Calls.mono q (fun x w' h => kgq_of h)
  have HNL : Hid (¬ mlong t.v.q1 t.v.q2 (oP t.f t.r n).1 (oP t.f t.r n).2) := hs
  unfold TL.cells
  clear ht hk hro hgc n0 n1 hs
  generalize (oP t.f t.r n).1 = P1 at *
  generalize (oP t.f t.r n).2 = P2 at *
  generalize mlong t.v.q1 t.v.q2 P1 P2 = ML at *
  generalize t.v.q1 * P1 - t.v.q2 * P2 = Z1 at *
  generalize t.v.q1 * P2 + t.v.q2 * P1 = Z2 at *
  have k1 : Y.cell? ⟨w.heap.size, 1, none⟩ = some (.int .i32 t.f) := HX.out.cell 1
  have k2 : Y.cell? ⟨w.heap.size, 2, none⟩ = some (.int .i32 t.r) := HX.out.cell 2
  go_enter Tryz.func44, Tryz.ntmps44
  go_wp2_with fail
  refine Calls.mono HP.out ?_
  rintro e w1 ⟨g, rfl, ho, hi, hb, _⟩
  obtain ⟨Q, hQ⟩ : ∃ Q, w1.alloc (.cells #[.bool g.n, .slice g.a g.xs.length g.ca, .slice g.b g.ys.length g.cb, .bool g.m, .slice g.c g.us.length g.cc, .slice g.d g.vs.length g.cd] 35) = Q := ⟨_, rfl⟩
  have HG : Hid (Box Q w1.heap.size 35 #[.bool g.n, .slice g.a g.xs.length g.ca, .slice g.b g.ys.length g.cb, .bool g.m, .slice g.c g.us.length g.cc, .slice g.d g.vs.length g.cd]) := by
    subst hQ
    exact Box.made w1 _ _
  have HBQ : Hid (Below w1.heap.size w1 Q) := by
    subst hQ
    exact alloc_later _ _
  have HYQ := hid (bt hb.out HBQ.out)
  have HXQ := hid (HX.out.later HYQ.out HX.out.lt)
  have HRQ := hid (HR.out.later HYQ.out HR.out.lt)
  have HMQ := hid (HM.out g Q HYQ.out (ho.out.later HBQ.out) hi.out)
  have HWQ := hid (bt HB.out HYQ.out)
  have hw1 : Y.heap.size ≤ w1.heap.size := hb.out.size
  clear HM HP ho hi hb HBQ k1 k2 HX HR
  have k3 : Q.cell? ⟨w.heap.size, 3, none⟩ = some (.bool t.n) := HXQ.out.cell 3
  have k4 : Q.cell? ⟨w.heap.size, 4, none⟩ = some (.slice t.a t.xs.length t.ca) := HXQ.out.cell 4
  have k5 : Q.cell? ⟨w.heap.size, 5, none⟩ = some (.slice t.b t.ys.length t.cb) := HXQ.out.cell 5
  have k6 : Q.cell? ⟨w.heap.size, 6, none⟩ = some (.bool t.m) := HXQ.out.cell 6
  have k7 : Q.cell? ⟨w.heap.size, 7, none⟩ = some (.slice t.c t.us.length t.cc) := HXQ.out.cell 7
  have k8 : Q.cell? ⟨w.heap.size, 8, none⟩ = some (.slice t.d t.vs.length t.cd) := HXQ.out.cell 8
  have g0 : Q.cell? ⟨w1.heap.size, 0, none⟩ = some (.bool g.n) := HG.out.cell 0
  have g1 : Q.cell? ⟨w1.heap.size, 1, none⟩ = some (.slice g.a g.xs.length g.ca) := HG.out.cell 1
  have g2 : Q.cell? ⟨w1.heap.size, 2, none⟩ = some (.slice g.b g.ys.length g.cb) := HG.out.cell 2
  have g3 : Q.cell? ⟨w1.heap.size, 3, none⟩ = some (.bool g.m) := HG.out.cell 3
  have g4 : Q.cell? ⟨w1.heap.size, 4, none⟩ = some (.slice g.c g.us.length g.cc) := HG.out.cell 4
  have g5 : Q.cell? ⟨w1.heap.size, 5, none⟩ = some (.slice g.d g.vs.length g.cd) := HG.out.cell 5
  go_wp2_with fail
  refine Calls.mono HMQ.out ?_
  rintro e w2 ⟨r, code, rfl, ho2, ht2, hin2, hb2⟩
  obtain ⟨Q2, hQ2⟩ : ∃ Q2, w2.alloc (.cells #[.bool r.n, .slice r.a r.xs.length r.ca, .slice r.b r.ys.length r.cb, .bool r.m, .slice r.c r.us.length r.cc, .slice r.d r.vs.length r.cd] 35) = Q2 := ⟨_, rfl⟩
  have HG2 : Hid (Box Q2 w2.heap.size 35 #[.bool r.n, .slice r.a r.xs.length r.ca, .slice r.b r.ys.length r.cb, .bool r.m, .slice r.c r.us.length r.cc, .slice r.d r.vs.length r.cd]) := by
    subst hQ2
    exact Box.made w2 _ _
  have HBQ2 : Hid (Below w2.heap.size w2 Q2) := by
    subst hQ2
    exact alloc_later _ _
  have HQQ := hid (bt hb2 HBQ2.out)
  have HX2 := hid (HXQ.out.later HQQ.out HXQ.out.lt)
  have HR2 := hid (HRQ.out.later HQQ.out HRQ.out.lt)
  have HW2 := hid (bt HWQ.out HQQ.out)
  have HO2 : Hid (r.Ow Q2 Q.heap.size) := ho2.out.later HBQ2.out
  have hsz : w.heap.size + 1 < Q.heap.size := by have h1 := HYs.out; have h2 := HYQ.out.size; omega
  have HI2 : Hid (r.In Q.heap.size w2.heap.size) := hin2.out
  have hw2 : w2.heap.size ≤ Q2.heap.size := HBQ2.out.size
  clear HMQ k3 k4 k5 k6 k7 k8 g0 g1 g2 g3 g4 g5 HG HXQ HRQ HWQ ho2 hin2 hb2
  have hL : ¬ ML := HNL.out
  obtain ⟨hc, h1, h2⟩ := ht2.out.good rfl hL
  subst hc
  have HE : Hid (r.Is Z1 Z2) := ⟨h1, h2, ht2.out.wd⟩
  clear hL HNL ht2 h1 h2
  have g0 : Q2.cell? ⟨w2.heap.size, 0, none⟩ = some (.bool r.n) := HG2.out.cell 0
  have g1 : Q2.cell? ⟨w2.heap.size, 1, none⟩ = some (.slice r.a r.xs.length r.ca) := HG2.out.cell 1
  have g2 : Q2.cell? ⟨w2.heap.size, 2, none⟩ = some (.slice r.b r.ys.length r.cb) := HG2.out.cell 2
  have g3 : Q2.cell? ⟨w2.heap.size, 3, none⟩ = some (.bool r.m) := HG2.out.cell 3
  have g4 : Q2.cell? ⟨w2.heap.size, 4, none⟩ = some (.slice r.c r.us.length r.cc) := HG2.out.cell 4
  have g5 : Q2.cell? ⟨w2.heap.size, 5, none⟩ = some (.slice r.d r.vs.length r.cd) := HG2.out.cell 5
  obtain ⟨A0, A1, A2, A3, A4, A5, q0, q1, q2, q3, q4, q5, ⟨p0, p1, p2, p3, p4, p5⟩, ⟨f0, f1, f2, f3, f4, f5⟩, HA⟩ := rchain6 HR2.out (by decide) (.bool r.n) (.slice r.a r.xs.length r.ca) (.slice r.b r.ys.length r.cb) (.bool r.m) (.slice r.c r.us.length r.cc) (.slice r.d r.vs.length r.cd)
  have HOA : Hid (r.Sl4 A5) := G6.Ow.sl (base := Q.heap.size) ⟨HA.out.2.2.1 _ _ _ _ HO2.out.1, HA.out.2.2.1 _ _ _ _ HO2.out.2.1, HA.out.2.2.1 _ _ _ _ HO2.out.2.2.1, HA.out.2.2.1 _ _ _ _ HO2.out.2.2.2⟩ HE.out
  have HBA := hid (HA.out.2.2.2.1 _ _ (Nat.le_succ _) HW2.out)
  have HBX := hid HA.out.1
  clear HX2 HR2 HW2 HO2 HG2 HA
  go_wp2_with fail
  exact bodyPost_ret (pgres_run (by rfl) HBX.out _ rfl) rfl ⟨r, rfl, HOA.out, HE.out, HBA.out⟩
end Go.Proofs.YtnfemheabikolaaGreatDoor

/- Layer 14, PortReal: a port with its conjugate beside it. -/
namespace Go.Proofs.YtnfemheabikolaaGreatDoor
open Go.RowKit
set_option linter.unusedVariables false
set_option linter.unusedSimpArgs false

theorem pAdd_good (x y : G6) (w : World) (sx : x.Sl4 w) (sy : y.Sl4 w) {a1 a2 b1 b2 : Rat} (ix : x.Is a1 a2) (iy : y.Is b1 b2) (h1 : ¬ rlong (a1 + b1)) (h2 : ¬ rlong (a2 + b2)) : Calls Tryz.prog 47 #[.agg #[.bool x.n, .slice x.a x.xs.length x.ca, .slice x.b x.ys.length x.cb, .bool x.m, .slice x.c x.us.length x.cc, .slice x.d x.vs.length x.cd], .agg #[.bool y.n, .slice y.a y.xs.length y.ca, .slice y.b y.ys.length y.cb, .bool y.m, .slice y.c y.us.length y.cc, .slice y.d y.vs.length y.cd]] w fun e w' => ∃ g : G6, e = .returned (.tuple #[.agg #[.bool g.n, .slice g.a g.xs.length g.ca, .slice g.b g.ys.length g.cb, .bool g.m, .slice g.c g.us.length g.cc, .slice g.d g.vs.length g.cd], .int .i64 0]) ∧ g.Ow w' w.heap.size ∧ g.Is (a1 + b1) (a2 + b2) ∧ Below w.heap.size w w' := by
  refine Calls.mono (gAdd_full x.n x.a x.ca x.xs x.b x.cb x.ys x.m x.c x.cc x.us x.d x.cd x.vs y.n y.a y.ca y.xs y.b y.cb y.ys y.m y.c y.cc y.us y.d y.cd y.vs w sx.1 sx.2.1 sx.2.2.1 sx.2.2.2 sy.1 sy.2.1 sy.2.2.1 sy.2.2.2) ?_
  rintro e w' ⟨n, a, ca, xs, b, cb, ys, m, c, cc, us, d, cd, vs, code, rfl, ho, ht, hb⟩
  rw [ix.chk, iy.chk, ix.1.2, ix.2.1.2, iy.1.2, iy.2.1.2] at ht
  obtain ⟨rfl, g1, g2⟩ := ht.good (fstE_zero 0) (fun h => h.elim h1 h2)
  have hi : G6.Is ⟨n, a, ca, xs, b, cb, ys, m, c, cc, us, d, cd, vs⟩ (a1 + b1) (a2 + b2) := ⟨g1, g2, ht.wd⟩
  have hO : G6.Ow ⟨n, a, ca, xs, b, cb, ys, m, c, cc, us, d, cd, vs⟩ w' w.heap.size := ho
  exact ⟨⟨n, a, ca, xs, b, cb, ys, m, c, cc, us, d, cd, vs⟩, rfl, hO, hi, hb⟩
theorem rsB_of {a b : TV} {q1 q2 : Rat} (h : a.Is q1 q2) (g : b.Is q1 q2) (hf : a.f = b.f) (hr : a.r = b.r) : rsB a b = true := by
  obtain ⟨a1, a2, a3⟩ := rq_inj h.2.2.1 h.2.2.2.1 g.2.2.1 g.2.2.2.1 h.1.1 g.1.1 (h.1.2.trans g.1.2.symm)
  obtain ⟨b1, b2, b3⟩ := rq_inj h.2.2.2.2.1 h.2.2.2.2.2 g.2.2.2.2.1 g.2.2.2.2.2 h.2.1.1 g.2.1.1 (h.2.1.2.trans g.2.1.2.symm)
  unfold rsB
  rw [decide_eq_true (⟨a1, a2, a3⟩ : a.n = b.n ∧ a.xs = b.xs ∧ a.ys = b.ys), decide_eq_true (⟨b1, b2, b3⟩ : a.m = b.m ∧ a.us = b.us ∧ a.vs = b.vs), hf, hr]
  simp
theorem pReal_good (p : PL) (w : World) (hp : p.ok w) (hg : p.v.Good) (hm : ∀ j, j < p.v.ts.length → ∃ k, k < p.v.ts.length ∧ (vT p.v.ts k).f = (vT p.v.ts j).f ∧ (vT p.v.ts k).r = -(vT p.v.ts j).r ∧ (vT p.v.ts k).Is (vT p.v.ts j).q1 (-(vT p.v.ts j).q2)) : Calls Tryz.prog 15 #[.agg p.cells] w fun e w' => e = .returned (.tuple #[.bool true, .int .i64 0]) ∧ Below w.heap.size w w' := by
  have hl : p.v.ts.length = p.ts.length := List.length_map ..
  have hT : ∀ j, vT p.v.ts j = (tT p.ts j).v := fun j => (tT_v p.ts j).symm
  refine Calls.mono (pReal_any p w hp) ?_
  rintro e w' ⟨bo, c, rfl, h, hb⟩
  rcases h with ⟨z, hz, hc, _⟩ | ⟨_, rfl, vs, hvl, hvs, hbo⟩
  · exact absurd (PCk.one0 hz hg) hc
  · have ht : bo = true := hbo.2 fun j hj => by
      obtain ⟨k, hk, e1, e2, e3⟩ := hm j (by omega)
      have hc := hvs j hj
      rw [hT] at e1 e2 e3
      rw [hT] at e1 e2 e3
      exact ⟨k, by omega, rsB_of hc.2.2.2.2 e3 (hc.2.2.1.trans e1.symm) (hc.2.2.2.1.trans e2.symm)⟩
    subst ht
    exact ⟨rfl, hb⟩

def nmI (i : Nat) : ByteArray := ⟨#[120, (97 + i).toUInt8, 57, 122, 56, 121, 55, 120]⟩
def rnm (i : Nat) (v : TV) : TV := ⟨nmI i, v.f, v.r, v.n, v.xs, v.ys, v.m, v.us, v.vs⟩
def rns (vs : List TV) (i : Nat) : List TV := (List.range i).map fun j => rnm j (vT vs j)
def Bth (v : PV) (vs : List TV) (i : Nat) : PV := ⟨v.s, v.n, v.xs, v.ys, v.ts ++ rns vs i⟩
theorem nmI_name {i : Nat} (h : i < 3) : tname (nmI i).data.toList = true := by
  rcases (show i = 0 ∨ i = 1 ∨ i = 2 by omega) with rfl | rfl | rfl <;> decide +kernel
theorem nmI_size (i : Nat) : (nmI i).size = 8 := rfl
theorem rns_len (vs : List TV) (i : Nat) : (rns vs i).length = i := by unfold rns; rw [List.length_map, List.length_range]
theorem rns_succ (vs : List TV) (i : Nat) : rns vs (i + 1) = rns vs i ++ [rnm i (vT vs i)] := by unfold rns; rw [List.range_succ, List.map_append]; rfl
theorem vT_rns {vs : List TV} {i j : Nat} (h : j < i) : vT (rns vs i) j = rnm j (vT vs j) := by
  unfold vT rns
  rw [List.getElem?_map, List.getElem?_range h]
  rfl
theorem vT_app_lt {a b : List TV} {j : Nat} (h : j < a.length) : vT (a ++ b) j = vT a j := by
  unfold vT
  rw [List.getElem?_append_left h]
theorem vT_app_ge {a b : List TV} {j : Nat} : vT (a ++ b) (a.length + j) = vT b j := by
  unfold vT
  rw [List.getElem?_append_right (by omega), Nat.add_sub_cancel_left]
theorem Bth_zero (v : PV) (vs : List TV) : Bth v vs 0 = v := by unfold Bth rns; rw [List.range_zero, List.map_nil, List.append_nil]
theorem Bth_succ (v : PV) (vs : List TV) (i : Nat) : (Bth v vs i).more (rnm i (vT vs i)) = Bth v vs (i + 1) := by
  unfold Bth PV.more
  rw [rns_succ, List.append_assoc]
theorem Bth_len (v : PV) (vs : List TV) (i : Nat) : (Bth v vs i).ts.length = v.ts.length + i := by
  show (v.ts ++ rns vs i).length = _
  rw [List.length_append, rns_len]
theorem rnm_chk {t u : TV} {i : Nat} (h : CjT t u 0) (ht : t.chk = 0) (hi : i < 3) : (rnm i u).chk = 0 :=
  TV.Is.chk (t := rnm i u) h.2.2.2.2 (nmI_name hi) (by
    show ochk u.f u.r = 0
    rw [h.2.2.1, h.2.2.2.1]
    exact trok_neg (tchk_ok ht).2.1)
theorem rnm_ok {v : TV} (h : v.ok) (i : Nat) : (rnm i v).ok := ⟨by show (nmI i).size ≤ maxLen; rw [nmI_size]; unfold maxLen; decide, h.2⟩
theorem more_ok {v : PV} {t : TV} (h : v.ok) (ht : t.ok) : (v.more t).ok := ⟨h.1, h.2.1, h.2.2.1, fun u hu => by
  rcases List.mem_append.1 hu with g | g
  · exact h.2.2.2 u g
  · rw [List.mem_singleton.1 g]; exact ht⟩
theorem bth_mirror {v : PV} {vs : List TV} {N : Nat} (hN : v.ts.length = N) (hl : vs.length = N) (hi : ∀ j, j < N → (vT v.ts j).Is (vT v.ts j).q1 (vT v.ts j).q2) (hc : ∀ j, j < N → CjT (vT v.ts j) (vT vs j) 0) (j : Nat) (hj : j < (Bth v vs N).ts.length) : ∃ k, k < (Bth v vs N).ts.length ∧ (vT (Bth v vs N).ts k).f = (vT (Bth v vs N).ts j).f ∧ (vT (Bth v vs N).ts k).r = -(vT (Bth v vs N).ts j).r ∧ (vT (Bth v vs N).ts k).Is (vT (Bth v vs N).ts j).q1 (-(vT (Bth v vs N).ts j).q2) := by
  rw [Bth_len, hN] at hj ⊢
  have hlo : ∀ i, i < N → vT (Bth v vs N).ts i = vT v.ts i := fun i h => vT_app_lt (by omega)
  have hhi : ∀ i, i < N → vT (Bth v vs N).ts (N + i) = rnm i (vT vs i) := fun i h => by
    rw [← vT_rns h, ← hN]
    exact vT_app_ge
  rcases Nat.lt_or_ge j N with g | g
  · have h := hc j g
    refine ⟨N + j, by omega, ?_⟩
    rw [hhi j g, hlo j g]
    exact ⟨h.2.2.1, h.2.2.2.1, h.2.2.2.2⟩
  · obtain ⟨i, rfl⟩ : ∃ i, j = N + i := ⟨j - N, by omega⟩
    have hiN : i < N := by omega
    have h := hc i hiN
    refine ⟨i, by omega, ?_⟩
    rw [hhi i hiN, hlo i hiN]
    have e1 : (rnm i (vT vs i)).q1 = (vT v.ts i).q1 := h.2.2.2.2.1.2
    have e2 : (rnm i (vT vs i)).q2 = -(vT v.ts i).q2 := h.2.2.2.2.2.1.2
    refine ⟨h.2.2.1.symm, ?_, ?_⟩
    · show _ = -(vT vs i).r
      rw [h.2.2.2.1]; omega
    · rw [e1, e2, Rat.neg_neg]; exact hi i hiN
def Smd (T : TV) : Prop := T.Is T.q1 T.q2 ∧ Hgt T.q1 (2 ^ 128) ∧ Hgt T.q2 (2 ^ 128) ∧ rOK T.f T.r
theorem bth_smd {v : PV} {vs : List TV} {N : Nat} (hN : v.ts.length = N) (hi : ∀ j, j < N → (vT v.ts j).Is (vT v.ts j).q1 (vT v.ts j).q2 ∧ rOK (vT v.ts j).f (vT v.ts j).r ∧ (vT v.ts j).four) (hc : ∀ j, j < N → CjT (vT v.ts j) (vT vs j) 0) (ho : ∀ j, j < N → rOK (vT v.ts j).f (-(vT v.ts j).r)) (j : Nat) (hj : j < N + N) : Smd (vT (Bth v vs N).ts j) := by
  have hlo : ∀ i, i < N → vT (Bth v vs N).ts i = vT v.ts i := fun i h => vT_app_lt (by omega)
  have hhi : ∀ i, i < N → vT (Bth v vs N).ts (N + i) = rnm i (vT vs i) := fun i h => by
    rw [← vT_rns h, ← hN]
    exact vT_app_ge
  rcases Nat.lt_or_ge j N with g | g
  · rw [hlo j g]
    have h := hi j g
    have k := four_hgt h.2.2 h.1
    exact ⟨h.1, k.1, k.2, h.2.1⟩
  · obtain ⟨i, rfl⟩ : ∃ i, j = N + i := ⟨j - N, by omega⟩
    have hiN : i < N := by omega
    rw [hhi i hiN]
    have h := hc i hiN
    have k := four_hgt (hi i hiN).2.2 (hi i hiN).1
    have e1 : (rnm i (vT vs i)).q1 = (vT v.ts i).q1 := h.2.2.2.2.1.2
    have e2 : (rnm i (vT vs i)).q2 = -(vT v.ts i).q2 := h.2.2.2.2.2.1.2
    refine ⟨?_, ?_, ?_, ?_⟩
    · rw [e1, e2]; exact h.2.2.2.2
    · rw [e1]; exact k.1
    · rw [e2]; exact k.2.neg
    · show rOK (vT vs i).f (vT vs i).r
      rw [h.2.2.1, h.2.2.2.1]
      exact ho i hiN
def zA (T : TV) (t : Int) : Rat × Rat := qmul T.q (oP T.f T.r t)
theorem zA_hgt {T : TV} (h : Smd T) {t : Int} (ht : t.natAbs ≤ 30) {K : Nat} (hK : 128 + 21 * 30 + (128 + 21 * 30) + 1 = K) : Hgt (zA T t).1 (2 ^ K) ∧ Hgt (zA T t).2 (2 ^ K) := by
  have hp := oP_hgt h.2.2.2 t 30 ht
  have a := h.2.1
  have b := h.2.2.1
  generalize 21 * 30 = J at hp hK
  generalize 128 = L at a b hK
  subst hK
  exact hmv a b hp.1 hp.2
theorem zA_short {T : TV} (h : Smd T) {t : Int} (ht : t.natAbs ≤ 30) : ¬ mlong T.q1 T.q2 (oP T.f T.r t).1 (oP T.f T.r t).2 := by
  have hp := oP_hgt h.2.2.2 t 30 ht
  exact mshort (K := 128) (J := 21 * 30) h.2.1 h.2.2.1 hp.1 hp.2 (by decide)
theorem bth_conj {v : PV} {vs : List TV} {N : Nat} (hN : v.ts.length = N) (hc : ∀ j, j < N → CjT (vT v.ts j) (vT vs j) 0) (t : Int) (j : Nat) (hj : j < N) : (zA (vT (Bth v vs N).ts (N + j)) t).2 = -(zA (vT (Bth v vs N).ts j) t).2 := by
  have h := hc j hj
  have e1 : vT (Bth v vs N).ts j = vT v.ts j := vT_app_lt (by omega)
  have e2 : vT (Bth v vs N).ts (N + j) = rnm j (vT vs j) := by
    rw [← vT_rns hj, ← hN]
    exact vT_app_ge
  rw [e1, e2]
  unfold zA
  have e3 : (rnm j (vT vs j)).q = qconj (vT v.ts j).q := by
    show ((rnm j (vT vs j)).q1, (rnm j (vT vs j)).q2) = _
    rw [show (rnm j (vT vs j)).q1 = (vT v.ts j).q1 from h.2.2.2.2.1.2, show (rnm j (vT vs j)).q2 = -(vT v.ts j).q2 from h.2.2.2.2.2.1.2]
    rfl
  have e4 : oP (rnm j (vT vs j)).f (rnm j (vT vs j)).r t = qconj (oP (vT v.ts j).f (vT v.ts j).r t) := by
    rw [← oP_conj]
    show oP (vT vs j).f (vT vs j).r t = _
    rw [h.2.2.1, h.2.2.2.1]
  rw [e3, e4, qmul_conj]
  rfl
def zs (z : Nat → Rat × Rat) : Nat → Rat × Rat
  | 0 => (0, 0)
  | i + 1 => ((zs z i).1 + (z i).1, (zs z i).2 + (z i).2)
theorem zs_app (z : Nat → Rat × Rat) (n k : Nat) : (zs z (n + k)).2 = (zs z n).2 + (zs (fun j => z (n + j)) k).2 := by
  induction k with
  | zero => show (zs z n).2 = (zs z n).2 + 0; rw [Rat.add_zero]
  | succ k ih => show (zs z (n + k)).2 + (z (n + k)).2 = (zs z n).2 + ((zs (fun j => z (n + j)) k).2 + (z (n + k)).2); rw [ih, Rat.add_assoc]
theorem zs_neg {y z : Nat → Rat × Rat} {k : Nat} (h : ∀ j, j < k → (y j).2 = -(z j).2) : (zs y k).2 = -(zs z k).2 := by
  induction k with
  | zero => show (0 : Rat) = -0; decide
  | succ k ih =>
    show (zs y k).2 + (y k).2 = -((zs z k).2 + (z k).2)
    rw [ih (fun j hj => h j (by omega)), h k (by omega), Rat.neg_add]
theorem zs_real {z : Nat → Rat × Rat} {N : Nat} (h : ∀ j, j < N → (z (N + j)).2 = -(z j).2) : (zs z (N + N)).2 = 0 := by
  rw [zs_app, zs_neg (z := z) h, Rat.add_neg_cancel]
theorem zs_hgt {z : Nat → Rat × Rat} {K M : Nat} (h : ∀ j, j < M → Hgt (z j).1 (2 ^ K) ∧ Hgt (z j).2 (2 ^ K)) {i : Nat} (hi : i ≤ M) : Hgt (zs z i).1 (2 ^ ((K + 1) * i)) ∧ Hgt (zs z i).2 (2 ^ ((K + 1) * i)) := by
  have h2 : ∀ a : Nat, 2 * (2 ^ a * 2 ^ K) = 2 ^ (a + (K + 1)) := fun a => by rw [← Nat.pow_add, Nat.mul_comm, ← Nat.pow_succ]; rfl
  induction i with
  | zero => rw [Nat.mul_zero, Nat.pow_zero]; show Hgt (0 : Rat) 1 ∧ Hgt (0 : Rat) 1; exact ⟨⟨by decide, by decide⟩, ⟨by decide, by decide⟩⟩
  | succ i ih =>
    obtain ⟨a, b⟩ := ih (by omega)
    obtain ⟨c, d⟩ := h i (by omega)
    rw [Nat.mul_succ, ← h2]
    exact ⟨a.add c, b.add d⟩
theorem zs_short {z : Nat → Rat × Rat} {K M : Nat} (h : ∀ j, j < M → Hgt (z j).1 (2 ^ K) ∧ Hgt (z j).2 (2 ^ K)) (hk : (K + 1) * M < 65536) {i : Nat} (hi : i < M) : ¬ rlong ((zs z i).1 + (z i).1) ∧ ¬ rlong ((zs z i).2 + (z i).2) := by
  have q := zs_hgt h (i := i + 1) (by omega)
  have hm : (K + 1) * (i + 1) < 65536 := Nat.lt_of_le_of_lt (Nat.mul_le_mul_left _ (by omega)) hk
  exact ⟨q.1.short hm, q.2.short hm⟩
theorem zero_form {n : Bool} {xs ys : List Int} (wx : Wd xs) (wy : Wd ys) (h : rchk n xs ys = 0) (h0 : rq n xs ys = 0) : xs = [] := by
  have k : rchk false [] [1] = 0 := rchk_good (by simp) (by simp) rfl rfl (by simp) (.inl rfl) (by decide)
  have e : rq false [] [1] = 0 := by decide +kernel
  exact (rq_inj wx wy Wd.nil (zw 1 (by decide) (by decide)) h k (h0.trans e.symm)).2.1
end Go.Proofs.YtnfemheabikolaaGreatDoor

/- Layer 14, PortReal: With of a constituent that may be, to a port that may be and is not full. -/
namespace Go.Proofs.YtnfemheabikolaaGreatDoor
open Go.RowKit
set_option linter.unusedVariables false
set_option linter.unusedSimpArgs false

theorem more_good {v : PV} {t : TV} (hg : v.Good) (h0 : t.chk = 0) (h24 : v.ts.length ≠ 24) (hno : ∀ j, j < v.ts.length → ¬ ((vT v.ts j).s = t.s ∨ ((vT v.ts j).f = t.f ∧ (vT v.ts j).r = t.r))) : (v.more t).Good := by
  have hl2 : (v.ts ++ [t]).length = v.ts.length + 1 := by simp
  have h24' := hg.len
  refine ⟨hg.nm, hg.mean, by show (v.ts ++ [t]).length ≤ 24; omega, fun j hj => ?_, fun k j hk hj => ?_, fun k j hk hj => ?_⟩
  · show (vT (v.ts ++ [t]) j).chk = 0
    have hj' : j < (v.ts ++ [t]).length := hj
    rcases Nat.lt_or_ge j v.ts.length with g | g
    · rw [vT_snoc_lt g]; exact hg.chk j g
    · obtain rfl : j = v.ts.length := by omega
      rw [vT_snoc_eq]; exact h0
  · show (vT (v.ts ++ [t]) k).s ≠ (vT (v.ts ++ [t]) j).s
    have hj' : j < (v.ts ++ [t]).length := hj
    rcases Nat.lt_or_ge j v.ts.length with g | g
    · rw [vT_snoc_lt g, vT_snoc_lt (by omega)]; exact hg.nms k j hk g
    · obtain rfl : j = v.ts.length := by omega
      rw [vT_snoc_eq, vT_snoc_lt hk]
      exact fun e => hno k hk (.inl e)
  · show ¬ ((vT (v.ts ++ [t]) k).f = (vT (v.ts ++ [t]) j).f ∧ (vT (v.ts ++ [t]) k).r = (vT (v.ts ++ [t]) j).r)
    have hj' : j < (v.ts ++ [t]).length := hj
    rcases Nat.lt_or_ge j v.ts.length with g | g
    · rw [vT_snoc_lt g, vT_snoc_lt (by omega)]; exact hg.rot k j hk g
    · obtain rfl : j = v.ts.length := by omega
      rw [vT_snoc_eq, vT_snoc_lt hk]
      exact fun e => hno k hk (.inr e)
theorem pWith_in (p : PL) (t : TL) (w : World) (hp : p.ok w) (ht : t.ok w) (hg : p.v.Good) (ht0 : t.v.chk = 0) (hp24 : p.v.ts.length < 24) :
    Calls Tryz.prog 9 #[.agg p.cells, .agg t.cells] w fun e w' => ∃ (q : PL) (c : Int), e = .returned (.tuple #[.agg #[.string q.s, .bool q.n, .slice q.a q.xs.length q.ca, .slice q.b q.ys.length q.cb, .slice q.t q.ts.length q.ct], .int .i64 c]) ∧ ((c = 5 ∧ Made q PV.zero w w') ∨ (c = 0 ∧ (p.v.more t.v).Good ∧ Made q (p.v.more t.v) w w')) := by
  have hl : p.v.ts.length = p.ts.length := List.length_map ..
  have hT : ∀ j, vT p.v.ts j = (tT p.ts j).v := fun j => (tT_v p.ts j).symm
  have hcl : ∀ j, clB (tT p.ts j) t = true ↔ ((vT p.v.ts j).s = t.s ∨ ((vT p.v.ts j).f = t.f ∧ (vT p.v.ts j).r = t.r)) := fun j => by
    unfold clB
    rw [hT, Bool.or_eq_true, nmEq, Bool.and_eq_true, beq_iff_eq, beq_iff_eq]
    exact Iff.rfl
  refine Calls.mono (pWith_any p t w hp ht) ?_
  rintro e w' ⟨q, c, rfl, h, hm⟩
  refine ⟨q, c, rfl, ?_⟩
  rcases h with ⟨z, hz, hc⟩ | ⟨_, ⟨h0, rfl⟩ | ⟨h0, ⟨⟨j, hj, hh⟩, rfl⟩ | ⟨hh, ⟨h24, rfl⟩ | ⟨h24, rfl⟩⟩⟩⟩
  · exact absurd (PCk.one0 hz hg) hc
  · exact absurd ht0 h0
  · exact .inl ⟨rfl, hm⟩
  · omega
  · exact .inr ⟨rfl, more_good hg ht0 (by omega) (fun j hj hq => hh ⟨j, by omega, (hcl j).2 hq⟩), hm⟩
theorem nmI_run {i : Nat} (h : i < 3) : (⟨#[120]⟩ : ByteArray) ++ (⟨#[97, 98, 99, 100]⟩ : ByteArray).extract i (i + 1) ++ (⟨#[57, 122, 56, 121, 55, 120]⟩ : ByteArray) = nmI i := by
  rcases (show i = 0 ∨ i = 1 ∨ i = 2 by omega) with rfl | rfl | rfl <;> (apply ByteArray.ext; decide +kernel)
theorem plow_put {q : PL} {W A : World} {base : Nat} (h : q.Ow W base) (hA : ∀ base e s v n xs, e ≠ 27 → W.ownsRow base e s v n xs → A.ownsRow base e s v n xs) : q.Ow A base :=
  ⟨hA _ _ _ _ _ _ (by decide) h.mx, hA _ _ _ _ _ _ (by decide) h.my, hA _ _ _ _ _ _ (by decide) h.row, fun t ht => by
    obtain ⟨a, b, c, d⟩ := h.els t ht
    exact ⟨hA _ _ _ _ _ _ (by decide) a, hA _ _ _ _ _ _ (by decide) b, hA _ _ _ _ _ _ (by decide) c, hA _ _ _ _ _ _ (by decide) d⟩⟩
end Go.Proofs.YtnfemheabikolaaGreatDoor

/- Layer 14: the law PortReal. (tools/mkpreal.py) -/
namespace Go.Proofs.YtnfemheabikolaaGreatDoor
open Go.RowKit
set_option linter.unusedVariables false
set_option linter.unusedSimpArgs false
set_option maxHeartbeats 12800000 in
set_option maxRecDepth 100000 in
theorem portReal_in (p : PL) (t : Int) (w : World) (hp : p.ok w) (htab : Tab w) : Calls Tryz.prog 8 #[.agg #[.string p.s, .bool p.n, .slice p.a p.xs.length p.ca, .slice p.b p.ys.length p.cb, .slice p.t p.ts.length p.ct], .int .i64 t] w fun e w' => e = .returned (.bool true) ∧ Below w.heap.size w w' := by
  obtain ⟨Y, hY⟩ : ∃ Y, w.alloc (.cells #[.string p.s, .bool p.n, .slice p.a p.xs.length p.ca, .slice p.b p.ys.length p.cb, .slice p.t p.ts.length p.ct] 27) = Y := ⟨_, rfl⟩
  have HPb : Hid (Box Y w.heap.size 27 #[.string p.s, .bool p.n, .slice p.a p.xs.length p.ca, .slice p.b p.ys.length p.cb, .slice p.t p.ts.length p.ct]) := by
    subst hY
    exact Box.made w _ _
  have HB : Hid (Below w.heap.size w Y) := by
    subst hY
    exact alloc_later _ _
  have KP := hid (hp.later HB.out)
  have HTB := hid (htab.later HB.out)
  clear hp htab
  go_enter Tryz.func8, Tryz.ntmps8
  go_wp2_with fail
  refine Calls.mono (plives_any Y HTB.out) ?_
  rintro e w1 ⟨rfl, b1⟩
  have HW1 := hid (bt HB.out b1)
  have Hp1 := hid (HPb.out.later b1 HPb.out.lt)
  have Kp1 := hid (KP.out.later b1)
  clear HB HPb KP
  clear b1 HTB
  have cp0 : w1.cell? ⟨w.heap.size, 0, none⟩ = some (.string p.s) := Hp1.out.cell 0
  have cp1 : w1.cell? ⟨w.heap.size, 1, none⟩ = some (.bool p.n) := Hp1.out.cell 1
  have cp2 : w1.cell? ⟨w.heap.size, 2, none⟩ = some (.slice p.a p.xs.length p.ca) := Hp1.out.cell 2
  have cp3 : w1.cell? ⟨w.heap.size, 3, none⟩ = some (.slice p.b p.ys.length p.cb) := Hp1.out.cell 3
  have cp4 : w1.cell? ⟨w.heap.size, 4, none⟩ = some (.slice p.t p.ts.length p.ct) := Hp1.out.cell 4
  go_wp2_with fail
  refine Calls.mono (plarge_any p w1 Kp1.out) ?_
  rintro e w2 ⟨bo, rfl, b2⟩
  clear cp0 cp1 cp2 cp3 cp4
  have HW2 := hid (bt HW1.out b2)
  have Hp2 := hid (Hp1.out.later b2 Hp1.out.lt)
  have Kp2 := hid (Kp1.out.later b2)
  clear HW1 Hp1 Kp1
  clear b2
  by_cases hbt : bo = true
  · subst hbt
    go_wp2_with fail
    go_ret
    exact ⟨rfl, HW2.out⟩
  obtain rfl : bo = false := by simpa using hbt
  clear hbt
  by_cases hN : 3 < p.ts.length
  · have hN4 : (3 : Int) < (p.ts.length : Int) := by omega
    have cp4 : w2.cell? ⟨w.heap.size, 4, none⟩ = some (.slice p.t p.ts.length p.ct) := Hp2.out.cell 4
    go_wp2_with fail
    go_ret
    exact ⟨rfl, HW2.out⟩
  have hN4 : ¬ (3 : Int) < (p.ts.length : Int) := by omega
  have cp0 : w2.cell? ⟨w.heap.size, 0, none⟩ = some (.string p.s) := Hp2.out.cell 0
  have cp1 : w2.cell? ⟨w.heap.size, 1, none⟩ = some (.bool p.n) := Hp2.out.cell 1
  have cp2 : w2.cell? ⟨w.heap.size, 2, none⟩ = some (.slice p.a p.xs.length p.ca) := Hp2.out.cell 2
  have cp3 : w2.cell? ⟨w.heap.size, 3, none⟩ = some (.slice p.b p.ys.length p.cb) := Hp2.out.cell 3
  have cp4 : w2.cell? ⟨w.heap.size, 4, none⟩ = some (.slice p.t p.ts.length p.ct) := Hp2.out.cell 4
  go_wp2_with fail
  refine Calls.mono (plcheck_any p w2 Kp2.out) ?_
  rintro e w3 ⟨cc, z, rfl, hck, b3⟩
  clear cp0 cp1 cp2 cp3 cp4
  have HW3 := hid (bt HW2.out b3)
  have Hp3 := hid (Hp2.out.later b3 Hp2.out.lt)
  have Kp3 := hid (Kp2.out.later b3)
  clear HW2 Hp2 Kp2
  clear b3
  by_cases hcc : ¬ cc = 0
  · have h0' : (cc == 0) = false := by simp [hcc]
    have h0'' : (cc != 0) = true := by simp [hcc]
    have cp4 : w3.cell? ⟨w.heap.size, 4, none⟩ = some (.slice p.t p.ts.length p.ct) := Hp3.out.cell 4
    clear hck
    go_wp2_with fail
    go_ret
    exact ⟨rfl, HW3.out⟩
  obtain rfl : cc = 0 := Classical.not_not.1 hcc
  obtain ⟨hgood, hz⟩ := hck.good
  subst hz
  clear hck hcc
  have HG : Hid p.v.Good := PL.good_iff.1 hgood
  clear hgood
  by_cases ht0 : t < 0
  · skip
    have cp4 : w3.cell? ⟨w.heap.size, 4, none⟩ = some (.slice p.t p.ts.length p.ct) := Hp3.out.cell 4
    go_wp2_with fail
    go_ret
    exact ⟨rfl, HW3.out⟩
  skip
  by_cases ht3 : 30 < t
  · skip
    have cp4 : w3.cell? ⟨w.heap.size, 4, none⟩ = some (.slice p.t p.ts.length p.ct) := Hp3.out.cell 4
    go_wp2_with fail
    go_ret
    exact ⟨rfl, HW3.out⟩
  skip
  have cp0 : w3.cell? ⟨w.heap.size, 0, none⟩ = some (.string p.s) := Hp3.out.cell 0
  have cp1 : w3.cell? ⟨w.heap.size, 1, none⟩ = some (.bool p.n) := Hp3.out.cell 1
  have cp2 : w3.cell? ⟨w.heap.size, 2, none⟩ = some (.slice p.a p.xs.length p.ca) := Hp3.out.cell 2
  have cp3 : w3.cell? ⟨w.heap.size, 3, none⟩ = some (.slice p.b p.ys.length p.cb) := Hp3.out.cell 3
  have cp4 : w3.cell? ⟨w.heap.size, 4, none⟩ = some (.slice p.t p.ts.length p.ct) := Hp3.out.cell 4
  go_wp2_with fail
  refine Calls.mono (pnarrow_any p w3 Kp3.out (by omega)) ?_
  rintro e w4 ⟨bo, rfl, hbo, b4⟩
  clear cp0 cp1 cp2 cp3 cp4
  have HW4 := hid (bt HW3.out b4)
  have Hp4 := hid (Hp3.out.later b4 Hp3.out.lt)
  have Kp4 := hid (Kp3.out.later b4)
  clear HW3 Hp3 Kp3
  clear b4
  by_cases hbt : bo = true
  · subst hbt
    clear hbo
    go_wp2_with fail
    go_ret
    exact ⟨rfl, HW4.out⟩
  obtain rfl : bo = false := by simpa using hbt
  clear hbt
  have hfo := hbo rfl
  clear hbo
  have HOK : Hid p.v.ok := Kp4.out.v
  obtain ⟨N, hNN⟩ : ∃ N, p.ts.length = N := ⟨_, rfl⟩
  have HNN := hid hNN
  have HL : Hid (p.v.ts.length = N) := (List.length_map ..).trans hNN
  have HIS : Hid (∀ j, j < N → (vT p.v.ts j).Is (vT p.v.ts j).q1 (vT p.v.ts j).q2 ∧ rOK (vT p.v.ts j).f (vT p.v.ts j).r ∧ (vT p.v.ts j).four) := fun j hj => by
    have e : vT p.v.ts j = (tT p.ts j).v := (tT_v p.ts j).symm
    have hj' : j < p.v.ts.length := by have := HL.out; omega
    refine ⟨HG.out.is_ HOK.out hj', tchk_rok (HG.out.chk j hj'), ?_⟩
    rw [e]
    exact hfo _ (tT_mem (by omega))
  have HRO : Hid (∀ j, j < N → rOK (vT p.v.ts j).f (-(vT p.v.ts j).r)) := fun j hj => trok (trok_neg (tchk_ok (HG.out.chk j (by have := HL.out; omega))).2.1)
  clear hfo hNN
  have cp0 : w4.cell? ⟨w.heap.size, 0, none⟩ = some (.string p.s) := Hp4.out.cell 0
  have cp1 : w4.cell? ⟨w.heap.size, 1, none⟩ = some (.bool p.n) := Hp4.out.cell 1
  have cp2 : w4.cell? ⟨w.heap.size, 2, none⟩ = some (.slice p.a p.xs.length p.ca) := Hp4.out.cell 2
  have cp3 : w4.cell? ⟨w.heap.size, 3, none⟩ = some (.slice p.b p.ys.length p.cb) := Hp4.out.cell 3
  have cp4 : w4.cell? ⟨w.heap.size, 4, none⟩ = some (.slice p.t p.ts.length p.ct) := Hp4.out.cell 4
  go_wp2_with fail
  refine Calls.mono (pConj_good p w4 Kp4.out HG.out) ?_
  rintro e w5 ⟨q, vs, h_e, ⟨hl, hv⟩, hm⟩
  clear cp0 cp1 cp2 cp3 cp4
  have he : e = .returned (.tuple #[.agg #[.string q.s, .bool q.n, .slice q.a q.xs.length q.ca, .slice q.b q.ys.length q.cb, .slice q.t q.ts.length q.ct], .int .i64 0]) := h_e
  subst he
  clear h_e
  have HW5 := hid (bt HW4.out hm.bel)
  have Hp5 := hid (Hp4.out.later hm.bel Hp4.out.lt)
  have Kp5 := hid (Kp4.out.later hm.bel)
  clear HW4 Hp4 Kp4
  have HVL : Hid (vs.length = N) := hl.trans HL.out
  have HVS : Hid (∀ j, j < N → CjT (vT p.v.ts j) (vT vs j) 0) := fun j hj => hv j (by have := HL.out; omega)
  have KQ := hid (made_ok hm (cj_ok HG.out HOK.out hl hv))
  have HQT : Hid (q.ts.map TL.v = vs) := congrArg PV.ts hm.v
  have HQL : Hid (q.ts.length = N) := by
    have e := congrArg List.length HQT.out
    rw [List.length_map] at e
    have := HVL.out
    show _ = _
    omega
  clear hl hv hm
  obtain ⟨Yq, hYq⟩ : ∃ Yq, w5.alloc (.cells #[.string q.s, .bool q.n, .slice q.a q.xs.length q.ca, .slice q.b q.ys.length q.cb, .slice q.t q.ts.length q.ct] 27) = Yq := ⟨_, rfl⟩
  have Gq : Hid (Box Yq w5.heap.size 27 #[.string q.s, .bool q.n, .slice q.a q.xs.length q.ca, .slice q.b q.ys.length q.cb, .slice q.t q.ts.length q.ct]) := by
    subst hYq
    exact Box.made w5 _ _
  have Lq : Hid (Below w5.heap.size w5 Yq) := by
    subst hYq
    exact alloc_later _ _
  have HW6 := hid (bt HW5.out Lq.out)
  have Hp6 := hid (Hp5.out.later Lq.out Hp5.out.lt)
  have Kp6 := hid (Kp5.out.later Lq.out)
  have Kq6 := hid (KQ.out.later Lq.out)
  clear HW5 Hp5 Kp5 KQ
  have cp0 : Yq.cell? ⟨w.heap.size, 0, none⟩ = some (.string p.s) := Hp6.out.cell 0
  have cp1 : Yq.cell? ⟨w.heap.size, 1, none⟩ = some (.bool p.n) := Hp6.out.cell 1
  have cp2 : Yq.cell? ⟨w.heap.size, 2, none⟩ = some (.slice p.a p.xs.length p.ca) := Hp6.out.cell 2
  have cp3 : Yq.cell? ⟨w.heap.size, 3, none⟩ = some (.slice p.b p.ys.length p.cb) := Hp6.out.cell 3
  have cp4 : Yq.cell? ⟨w.heap.size, 4, none⟩ = some (.slice p.t p.ts.length p.ct) := Hp6.out.cell 4
  have cq4 : Yq.cell? ⟨w5.heap.size, 4, none⟩ = some (.slice q.t q.ts.length q.ct) := Gq.out.cell 4
  go_wp2_with fail
  clear cp0 cp1 cp2 cp3 cp4 cq4
  go_loopw [8] (fun x wr => ∃ (i : Nat) (b : PL), x = .int .i64 (i : Int) ∧ i ≤ q.ts.length ∧ Hid (Below Yq.heap.size Yq wr) ∧ Hid (Box wr Yq.heap.size 27 #[.string b.s, .bool b.n, .slice b.a b.xs.length b.ca, .slice b.b b.ys.length b.cb, .slice b.t b.ts.length b.ct]) ∧ Hid (b.ok wr) ∧ Hid (b.v = Bth p.v vs i) ∧ Hid b.v.Good) (fun x _ => q.ts.length - (intOf x).toNat)
  case atStart => exact ⟨0, p, rfl, Nat.zero_le _, alloc_later _ _, Box.made Yq _ _, Kp6.out.later (alloc_later _ _), (Bth_zero _ _).symm, HG.out⟩
  case round =>
    obtain ⟨i, b, rfl, hi, HBk, HBB, KB, HBV, HBG⟩ := hrel
    have HW7 := hid (bt HW6.out HBk.out)
    have Hp7 := hid (Hp6.out.later HBk.out Hp6.out.lt)
    have Hq7 := hid (Gq.out.later HBk.out Gq.out.lt)
    have Kp7 := hid (Kp6.out.later HBk.out)
    have Kq7 := hid (Kq6.out.later HBk.out)
    clear HW6 Hp6 Gq Kp6 Kq6
    by_cases hin : i < q.ts.length
    · have hiN : i < N := by have := HQL.out; omega
      have hi3 : i < 3 := by have := HNN.out; omega
      have hqi : (tT q.ts i).v = vT vs i := by rw [tT_v, HQT.out]
      have KT := hid ((Kq7.out.ts).1 _ (tT_mem hin))
      rcases Kq7.out.ts.2 with e | ⟨bm, om, hmt, hbm, hcm⟩
      · rw [e] at hin; exact absurd hin (by simp)
      have HQTT := hid hmt
      clear hmt
      have hcm' := hcm i _ (tT_at hin)
      have HQC : Hid (∀ V, Below wr.heap.size wr V → ∀ k, k < 9 → V.cell? ⟨bm, om + i * 9 + k, none⟩ = (tT q.ts i).cells[k]?) := fun V hV k hk => (hV.cell (p := ⟨bm, om + i * 9 + k, none⟩) hbm).trans (hcm' k hk)
      have HTV := hid hqi
      clear hcm hcm' hbm hqi
      generalize tT q.ts i = tm at *
      have hi0 : (0 : Int) ≤ (i : Int) := by omega
      have hi2 : (i : Int) < (q.ts.length : Int) := by omega
      have hi4 : (i : Int) + 1 ≤ 4 := by omega
      have HRR := hid (Below.refl wr.heap.size wr)
      have cq4 : wr.cell? ⟨w5.heap.size, 4, none⟩ = some (.slice (some ⟨bm, om, none⟩) q.ts.length q.ct) := by
        have q : wr.cell? ⟨w5.heap.size, 4, none⟩ = some (.slice q.t q.ts.length q.ct) := Hq7.out.cell 4
        rw [HQTT.out] at q
        exact q
      have em0 : wr.cell? ⟨bm, om + i * 9, none⟩ = some (.string tm.s) := HQC.out wr HRR.out 0 (by decide)
      have em1 : wr.cell? ⟨bm, om + i * 9 + 1, none⟩ = some (.int .i32 tm.f) := HQC.out wr HRR.out 1 (by decide)
      have em2 : wr.cell? ⟨bm, om + i * 9 + 2, none⟩ = some (.int .i32 tm.r) := HQC.out wr HRR.out 2 (by decide)
      have em3 : wr.cell? ⟨bm, om + i * 9 + 3, none⟩ = some (.bool tm.n) := HQC.out wr HRR.out 3 (by decide)
      have em4 : wr.cell? ⟨bm, om + i * 9 + 4, none⟩ = some (.slice tm.a tm.xs.length tm.ca) := HQC.out wr HRR.out 4 (by decide)
      have em5 : wr.cell? ⟨bm, om + i * 9 + 5, none⟩ = some (.slice tm.b tm.ys.length tm.cb) := HQC.out wr HRR.out 5 (by decide)
      have em6 : wr.cell? ⟨bm, om + i * 9 + 6, none⟩ = some (.bool tm.m) := HQC.out wr HRR.out 6 (by decide)
      have em7 : wr.cell? ⟨bm, om + i * 9 + 7, none⟩ = some (.slice tm.c tm.us.length tm.cc) := HQC.out wr HRR.out 7 (by decide)
      have em8 : wr.cell? ⟨bm, om + i * 9 + 8, none⟩ = some (.slice tm.d tm.vs.length tm.cd) := HQC.out wr HRR.out 8 (by decide)
      obtain ⟨Yc, hYc⟩ : ∃ Yc, wr.alloc (.cells #[.string tm.s, .int .i32 tm.f, .int .i32 tm.r, .bool tm.n, .slice tm.a tm.xs.length tm.ca, .slice tm.b tm.ys.length tm.cb, .bool tm.m, .slice tm.c tm.us.length tm.cc, .slice tm.d tm.vs.length tm.cd] 37) = Yc := ⟨_, rfl⟩
      have GC0 : Hid (Box Yc wr.heap.size 37 #[.string tm.s, .int .i32 tm.f, .int .i32 tm.r, .bool tm.n, .slice tm.a tm.xs.length tm.ca, .slice tm.b tm.ys.length tm.cb, .bool tm.m, .slice tm.c tm.us.length tm.cc, .slice tm.d tm.vs.length tm.cd]) := by
        subst hYc
        exact Box.made wr _ _
      obtain ⟨Yd, hYd⟩ : ∃ Yd, Yc.setCell ⟨wr.heap.size, 0, none⟩ (.string (nmI i)) = Yd := ⟨_, rfl⟩
      have z0 : Yc.cell? ⟨wr.heap.size, 0, none⟩ = some (.string tm.s) := GC0.out.cell 0
      have z1 : Yc.frozen? ⟨wr.heap.size, 0, none⟩ = false := GC0.out.free 0
      have Gc : Hid (Box Yd wr.heap.size 37 #[.string (nmI i), .int .i32 tm.f, .int .i32 tm.r, .bool tm.n, .slice tm.a tm.xs.length tm.ca, .slice tm.b tm.ys.length tm.cb, .bool tm.m, .slice tm.c tm.us.length tm.cc, .slice tm.d tm.vs.length tm.cd]) := by
        subst hYd
        exact GC0.out.set 0 _
      have Lc : Hid (Below wr.heap.size wr Yd) := by
        subst hYd hYc
        exact (alloc_later _ _).setCell (p := ⟨wr.heap.size, 0, none⟩) (Nat.le_refl _) _
      have hnm := nmI_run hi3
      clear GC0
      have HW8 := hid (bt HW7.out Lc.out)
      have Hp8 := hid (Hp7.out.later Lc.out Hp7.out.lt)
      have Hq8 := hid (Hq7.out.later Lc.out Hq7.out.lt)
      have Hb8 := hid (HBB.out.later Lc.out HBB.out.lt)
      have Kp8 := hid (Kp7.out.later Lc.out)
      have Kq8 := hid (Kq7.out.later Lc.out)
      have Kb8 := hid (KB.out.later Lc.out)
      clear HW7 Hp7 Hq7 HBB Kp7 Kq7 KB
      have HWT := hid (pWith_in b (⟨nmI i, tm.f, tm.r, tm.n, tm.a, tm.ca, tm.xs, tm.b, tm.cb, tm.ys, tm.m, tm.c, tm.cc, tm.us, tm.d, tm.cd, tm.vs⟩ : TL) Yd Kb8.out (by
        have h := KT.out.later Lc.out
        exact ⟨by show (nmI i).size ≤ maxLen; rw [nmI_size]; unfold maxLen; decide, h.rot, h.sx, h.sy, h.su, h.sv⟩) HBG.out (by
        show (rnm i tm.v).chk = 0
        rw [HTV.out]
        exact rnm_chk (HVS.out i hiN) (HG.out.chk i (by have := HL.out; omega)) hi3) (by
        rw [HBV.out, Bth_len]
        have := HL.out
        have := HNN.out
        omega))
      have HTK := hid (KT.out.later Lc.out)
      clear KT
      unfold PL.cells TL.cells at HWT
      have cb0 : Yd.cell? ⟨Yq.heap.size, 0, none⟩ = some (.string b.s) := Hb8.out.cell 0
      have cb1 : Yd.cell? ⟨Yq.heap.size, 1, none⟩ = some (.bool b.n) := Hb8.out.cell 1
      have cb2 : Yd.cell? ⟨Yq.heap.size, 2, none⟩ = some (.slice b.a b.xs.length b.ca) := Hb8.out.cell 2
      have cb3 : Yd.cell? ⟨Yq.heap.size, 3, none⟩ = some (.slice b.b b.ys.length b.cb) := Hb8.out.cell 3
      have cb4 : Yd.cell? ⟨Yq.heap.size, 4, none⟩ = some (.slice b.t b.ts.length b.ct) := Hb8.out.cell 4
      have cc0 : Yd.cell? ⟨wr.heap.size, 0, none⟩ = some (.string (nmI i)) := Gc.out.cell 0
      have cc1 : Yd.cell? ⟨wr.heap.size, 1, none⟩ = some (.int .i32 tm.f) := Gc.out.cell 1
      have cc2 : Yd.cell? ⟨wr.heap.size, 2, none⟩ = some (.int .i32 tm.r) := Gc.out.cell 2
      have cc3 : Yd.cell? ⟨wr.heap.size, 3, none⟩ = some (.bool tm.n) := Gc.out.cell 3
      have cc4 : Yd.cell? ⟨wr.heap.size, 4, none⟩ = some (.slice tm.a tm.xs.length tm.ca) := Gc.out.cell 4
      have cc5 : Yd.cell? ⟨wr.heap.size, 5, none⟩ = some (.slice tm.b tm.ys.length tm.cb) := Gc.out.cell 5
      have cc6 : Yd.cell? ⟨wr.heap.size, 6, none⟩ = some (.bool tm.m) := Gc.out.cell 6
      have cc7 : Yd.cell? ⟨wr.heap.size, 7, none⟩ = some (.slice tm.c tm.us.length tm.cc) := Gc.out.cell 7
      have cc8 : Yd.cell? ⟨wr.heap.size, 8, none⟩ = some (.slice tm.d tm.vs.length tm.cd) := Gc.out.cell 8
      go_wp2_with fail
      refine Calls.mono HWT.out ?_
      rintro e w7 ⟨o, cq, rfl, ho⟩
      clear cq4 em0 em1 em2 em3 em4 em5 em6 em7 em8 cb0 cb1 cb2 cb3 cb4 cc0 cc1 cc2 cc3 cc4 cc5 cc6 cc7 cc8
      clear z0 z1 hnm HWT
      rcases ho with ⟨rfl, hm⟩ | ⟨rfl, hgm, hm⟩
      · have HW9 := hid (bt HW8.out hm.bel)
        have Hp9 := hid (Hp8.out.later hm.bel Hp8.out.lt)
        have Hq9 := hid (Hq8.out.later hm.bel Hq8.out.lt)
        have Hb9 := hid (Hb8.out.later hm.bel Hb8.out.lt)
        have Hc9 := hid (Gc.out.later hm.bel Gc.out.lt)
        have Kp9 := hid (Kp8.out.later hm.bel)
        have Kq9 := hid (Kq8.out.later hm.bel)
        have Kb9 := hid (Kb8.out.later hm.bel)
        clear HW8 Hp8 Hq8 Hb8 Gc Kp8 Kq8 Kb8
        clear hm
        obtain ⟨Yo, hYo⟩ : ∃ Yo, w7.alloc (.cells #[.string o.s, .bool o.n, .slice o.a o.xs.length o.ca, .slice o.b o.ys.length o.cb, .slice o.t o.ts.length o.ct] 27) = Yo := ⟨_, rfl⟩
        have Go : Hid (Box Yo w7.heap.size 27 #[.string o.s, .bool o.n, .slice o.a o.xs.length o.ca, .slice o.b o.ys.length o.cb, .slice o.t o.ts.length o.ct]) := by
          subst hYo
          exact Box.made w7 _ _
        have Lo : Hid (Below w7.heap.size w7 Yo) := by
          subst hYo
          exact alloc_later _ _
        have HW10 := hid (bt HW9.out Lo.out)
        have Hp10 := hid (Hp9.out.later Lo.out Hp9.out.lt)
        have Hq10 := hid (Hq9.out.later Lo.out Hq9.out.lt)
        have Hb10 := hid (Hb9.out.later Lo.out Hb9.out.lt)
        have Hc10 := hid (Hc9.out.later Lo.out Hc9.out.lt)
        have Kp10 := hid (Kp9.out.later Lo.out)
        have Kq10 := hid (Kq9.out.later Lo.out)
        have Kb10 := hid (Kb9.out.later Lo.out)
        clear HW9 Hp9 Hq9 Hb9 Hc9 Kp9 Kq9 Kb9
        go_wp2_with fail
        go_ret
        exact ⟨rfl, HW10.out⟩
      · have HBW7 := hid hm.bel
        have HOV := hid hm.v
        have HOG := hid hgm
        have HOW := hid hm.ow
        have HBO := hid Kb8.out.v
        have HW11 := hid (bt HW8.out hm.bel)
        have Hp11 := hid (Hp8.out.later hm.bel Hp8.out.lt)
        have Hq11 := hid (Hq8.out.later hm.bel Hq8.out.lt)
        have Hb11 := hid (Hb8.out.later hm.bel Hb8.out.lt)
        have Hc11 := hid (Gc.out.later hm.bel Gc.out.lt)
        have Kp11 := hid (Kp8.out.later hm.bel)
        have Kq11 := hid (Kq8.out.later hm.bel)
        have Kb11 := hid (Kb8.out.later hm.bel)
        clear HW8 Hp8 Hq8 Hb8 Gc Kp8 Kq8 Kb8
        clear hm hgm
        obtain ⟨Yo, hYo⟩ : ∃ Yo, w7.alloc (.cells #[.string o.s, .bool o.n, .slice o.a o.xs.length o.ca, .slice o.b o.ys.length o.cb, .slice o.t o.ts.length o.ct] 27) = Yo := ⟨_, rfl⟩
        have Go : Hid (Box Yo w7.heap.size 27 #[.string o.s, .bool o.n, .slice o.a o.xs.length o.ca, .slice o.b o.ys.length o.cb, .slice o.t o.ts.length o.ct]) := by
          subst hYo
          exact Box.made w7 _ _
        have Lo : Hid (Below w7.heap.size w7 Yo) := by
          subst hYo
          exact alloc_later _ _
        have HW12 := hid (bt HW11.out Lo.out)
        have Hp12 := hid (Hp11.out.later Lo.out Hp11.out.lt)
        have Hq12 := hid (Hq11.out.later Lo.out Hq11.out.lt)
        have Hb12 := hid (Hb11.out.later Lo.out Hb11.out.lt)
        have Hc12 := hid (Hc11.out.later Lo.out Hc11.out.lt)
        have Kp12 := hid (Kp11.out.later Lo.out)
        have Kq12 := hid (Kq11.out.later Lo.out)
        have Kb12 := hid (Kb11.out.later Lo.out)
        clear HW11 Hp11 Hq11 Hb11 Hc11 Kp11 Kq11 Kb11
        have co0 : Yo.cell? ⟨w7.heap.size, 0, none⟩ = some (.string o.s) := Go.out.cell 0
        have co1 : Yo.cell? ⟨w7.heap.size, 1, none⟩ = some (.bool o.n) := Go.out.cell 1
        have co2 : Yo.cell? ⟨w7.heap.size, 2, none⟩ = some (.slice o.a o.xs.length o.ca) := Go.out.cell 2
        have co3 : Yo.cell? ⟨w7.heap.size, 3, none⟩ = some (.slice o.b o.ys.length o.cb) := Go.out.cell 3
        have co4 : Yo.cell? ⟨w7.heap.size, 4, none⟩ = some (.slice o.t o.ts.length o.ct) := Go.out.cell 4
        obtain ⟨A0, A1, A2, A3, A4, a0, a1, a2, a3, a4, ⟨r0, r1, r2, r3, r4⟩, ⟨f0, f1, f2, f3, f4⟩, HA⟩ := pchain5 Hb12.out (.string o.s) (.bool o.n) (.slice o.a o.xs.length o.ca) (.slice o.b o.ys.length o.cb) (.slice o.t o.ts.length o.ct)
        have HR1 : Hid (Below Yq.heap.size Yq A4) := HA.out.2.2.2.1 _ _ (Nat.le_refl _) (bt HBk.out (bt Lc.out (bt HBW7.out Lo.out)))
        have HR2 := hid HA.out.1
        have HR3 : Hid (o.v = Bth p.v vs (i + 1)) := by
          show o.v = _
          rw [HOV.out, ← Bth_succ, ← HBV.out, ← HTV.out]
          rfl
        have HR4 : Hid (o.ok A4) := PL.ok_of (by
          rw [HOV.out]
          refine more_ok HBO.out ?_
          show (rnm i tm.v).ok
          exact rnm_ok HTK.out.v i) (plow_put (HOW.out.later Lo.out) HA.out.2.2.1)
        have HR5 : Hid o.v.Good := by
          show o.v.Good
          rw [HOV.out]
          exact HOG.out
        have hi9 : i + 1 < 5 := by omega
        clear HA
        go_wp2_with fail
        go_roundw
        case rel => exact ⟨i + 1, o, by go_num, by omega, HR1, HR2, HR4, HR3, HR5⟩
        case measure => simp [intOf]; omega
    obtain rfl : i = q.ts.length := by omega
    have hi1 : ¬ (q.ts.length : Int) < (q.ts.length : Int) := by omega
    have HBW : Hid (b.v = Bth p.v vs N) := by
      show _ = _
      rw [HBV.out, HQL.out]
    have HBL : Hid (b.v.ts.length = N + N) := by
      show _ = _
      rw [HBW.out, Bth_len, HL.out]
    have HBT : Hid (b.ts.length = N + N) := by
      have e : b.v.ts.length = b.ts.length := List.length_map ..
      show _ = _
      rw [← e]
      exact HBL.out
    have HMI : Hid (∀ j, j < b.v.ts.length → ∃ k, k < b.v.ts.length ∧ (vT b.v.ts k).f = (vT b.v.ts j).f ∧ (vT b.v.ts k).r = -(vT b.v.ts j).r ∧ (vT b.v.ts k).Is (vT b.v.ts j).q1 (-(vT b.v.ts j).q2)) := fun j hj => by
      rw [HBW.out] at hj ⊢
      exact bth_mirror HL.out HVL.out (fun j hj => (HIS.out j hj).1) HVS.out j hj
    have HSD : Hid (∀ j, j < N + N → Smd (vT b.v.ts j)) := fun j hj => by
      rw [HBW.out]
      exact bth_smd HL.out HIS.out HVS.out HRO.out j hj
    have HCJ : Hid (∀ j, j < N → (zA (vT b.v.ts (N + j)) t).2 = -(zA (vT b.v.ts j) t).2) := fun j hj => by
      rw [HBW.out]
      exact bth_conj HL.out HVS.out t j hj
    have htn : t.natAbs ≤ 30 := by omega
    have HTN := hid htn
    clear htn HBk HBV HBW HIS HRO HVS HVL HQT
    have cq4 : wr.cell? ⟨w5.heap.size, 4, none⟩ = some (.slice q.t q.ts.length q.ct) := Hq7.out.cell 4
    have cb0 : wr.cell? ⟨Yq.heap.size, 0, none⟩ = some (.string b.s) := HBB.out.cell 0
    have cb1 : wr.cell? ⟨Yq.heap.size, 1, none⟩ = some (.bool b.n) := HBB.out.cell 1
    have cb2 : wr.cell? ⟨Yq.heap.size, 2, none⟩ = some (.slice b.a b.xs.length b.ca) := HBB.out.cell 2
    have cb3 : wr.cell? ⟨Yq.heap.size, 3, none⟩ = some (.slice b.b b.ys.length b.cb) := HBB.out.cell 3
    have cb4 : wr.cell? ⟨Yq.heap.size, 4, none⟩ = some (.slice b.t b.ts.length b.ct) := HBB.out.cell 4
    go_wp2_with fail
    have HRE := hid (pReal_good b wr KB.out HBG.out HMI.out)
    unfold PL.cells at HRE
    refine Calls.mono HRE.out ?_
    rintro e w6 ⟨rfl, b6⟩
    clear cq4 cb0 cb1 cb2 cb3 cb4
    clear HRE HMI
    have HW13 := hid (bt HW7.out b6)
    have Hp13 := hid (Hp7.out.later b6 Hp7.out.lt)
    have Hq13 := hid (Hq7.out.later b6 Hq7.out.lt)
    have Hb13 := hid (HBB.out.later b6 HBB.out.lt)
    have Kp13 := hid (Kp7.out.later b6)
    have Kq13 := hid (Kq7.out.later b6)
    have Kb13 := hid (KB.out.later b6)
    clear HW7 Hp7 Hq7 HBB Kp7 Kq7 KB
    clear b6
    clear Hq13 Kq13
    go_wp2_with fail
    refine Calls.mono (oInt_any 0 0 w6 (by decide) (by decide) (by decide) (by decide)) ?_
    rintro e w7 ⟨s, rfl, HSO, HSI, b7⟩
    have KS := hid (HSO.out.sl HSI.out)
    have HS0 : Hid (s.Is (zs (fun j => zA (vT b.v.ts j) t) 0).1 (zs (fun j => zA (vT b.v.ts j) t) 0).2) := by
      have e : Rat.divInt 0 1 = 0 := by decide +kernel
      have h := HSI.out
      rw [e] at h
      exact h
    clear HSO HSI
    have HW14 := hid (bt HW13.out b7.out)
    have Hp14 := hid (Hp13.out.later b7.out Hp13.out.lt)
    have Hb14 := hid (Hb13.out.later b7.out Hb13.out.lt)
    have Kp14 := hid (Kp13.out.later b7.out)
    have Kb14 := hid (Kb13.out.later b7.out)
    clear HW13 Hp13 Hb13 Kp13 Kb13
    clear b7
    have cb4 : w7.cell? ⟨Yq.heap.size, 4, none⟩ = some (.slice b.t b.ts.length b.ct) := Hb14.out.cell 4
    go_wp2_with fail
    clear cb4
    obtain ⟨Z, hZ⟩ : ∃ Z, (fun j => zA (vT b.v.ts j) t) = Z := ⟨_, rfl⟩
    rw [hZ] at HS0
    have HZ : Hid (∀ j, zA (vT b.v.ts j) t = Z j) := fun j => congrFun hZ j
    clear hZ
    go_loopw [15] (fun x wr => ∃ (i : Nat) (v : G6), x = .int .i64 (i : Int) ∧ i ≤ b.ts.length ∧ Hid (Below w7.heap.size w7 wr) ∧ Hid (Box wr w7.heap.size 35 #[.bool v.n, .slice v.a v.xs.length v.ca, .slice v.b v.ys.length v.cb, .bool v.m, .slice v.c v.us.length v.cc, .slice v.d v.vs.length v.cd]) ∧ Hid (v.Sl4 wr) ∧ Hid (v.Is (zs Z i).1 (zs Z i).2)) (fun x _ => b.ts.length - (intOf x).toNat)
    case atStart => exact ⟨0, s, rfl, Nat.zero_le _, alloc_later _ _, Box.made w7 _ _, KS.out.later (alloc_later _ _), HS0.out⟩
    case round =>
      obtain ⟨i, v, rfl, hi, HBk, HVB, KV, HVI⟩ := hrel
      clear KS HS0
      have HW15 := hid (bt HW14.out HBk.out)
      have Hp15 := hid (Hp14.out.later HBk.out Hp14.out.lt)
      have Hb15 := hid (Hb14.out.later HBk.out Hb14.out.lt)
      have Kp15 := hid (Kp14.out.later HBk.out)
      have Kb15 := hid (Kb14.out.later HBk.out)
      clear HW14 Hp14 Hb14 Kp14 Kb14
      by_cases hin : i < b.ts.length
      · have hiN : i < N + N := by have := HBT.out; omega
        have hiv : i < b.v.ts.length := by have := HBL.out; omega
        have HSI := hid (HSD.out i hiN)
        have hbi : (tT b.ts i).v = vT b.v.ts i := tT_v b.ts i
        have HAT : Hid (∀ V, Below wr.heap.size wr V → Calls Tryz.prog 44 #[.agg #[.string (tT b.ts i).s, .int .i32 (tT b.ts i).f, .int .i32 (tT b.ts i).r, .bool (tT b.ts i).n, .slice (tT b.ts i).a (tT b.ts i).xs.length (tT b.ts i).ca, .slice (tT b.ts i).b (tT b.ts i).ys.length (tT b.ts i).cb, .bool (tT b.ts i).m, .slice (tT b.ts i).c (tT b.ts i).us.length (tT b.ts i).cc, .slice (tT b.ts i).d (tT b.ts i).vs.length (tT b.ts i).cd], .int .i64 t] V fun e w' => ∃ g : G6, e = .returned (.tuple #[.agg #[.bool g.n, .slice g.a g.xs.length g.ca, .slice g.b g.ys.length g.cb, .bool g.m, .slice g.c g.us.length g.cc, .slice g.d g.vs.length g.cd], .bool true]) ∧ g.Sl4 w' ∧ g.Is (Z i).1 (Z i).2 ∧ Below V.heap.size V w') := fun V hV => by
          have hs1 := zA_short HSI.out HTN.out
          have hz := HZ.out i
          rw [← hz]
          unfold zA
          rw [← hbi] at hs1 ⊢
          exact pat_any (tT b.ts i) t V ((Kb15.out.ts.later hV).1 _ (tT_mem hin)) (by have h := HBG.out.chk i hiv; rw [← hbi] at h; exact h) (by omega) (by omega) hs1
        have HSH : Hid (¬ rlong ((zs Z i).1 + (Z i).1) ∧ ¬ rlong ((zs Z i).2 + (Z i).2)) := by
          obtain ⟨K, hK⟩ : ∃ K, 128 + 21 * 30 + (128 + 21 * 30) + 1 = K := ⟨_, rfl⟩
          refine zs_short (K := K) (M := N + N) (fun j hj => ?_) ?_ hiN
          · rw [← HZ.out j]
            exact zA_hgt (HSD.out j hj) HTN.out hK
          · have h1 : N + N ≤ 6 := by have := HNN.out; omega
            exact Nat.lt_of_le_of_lt (Nat.mul_le_mul_left (K + 1) h1) (by omega)
        clear hbi hiv HSI
        rcases Kb15.out.ts.2 with e | ⟨bm, om, hmt, hbm, hcm⟩
        · rw [e] at hin; exact absurd hin (by simp)
        have HBTT := hid hmt
        clear hmt
        have hcm' := hcm i _ (tT_at hin)
        have HQC : Hid (∀ V, Below wr.heap.size wr V → ∀ k, k < 9 → V.cell? ⟨bm, om + i * 9 + k, none⟩ = (tT b.ts i).cells[k]?) := fun V hV k hk => (hV.cell (p := ⟨bm, om + i * 9 + k, none⟩) hbm).trans (hcm' k hk)
        clear hcm hcm' hbm
        generalize tT b.ts i = tm at *
        have hi0 : (0 : Int) ≤ (i : Int) := by omega
        have hi2 : (i : Int) < (b.ts.length : Int) := by omega
        have HRR := hid (Below.refl wr.heap.size wr)
        have cb4 : wr.cell? ⟨Yq.heap.size, 4, none⟩ = some (.slice (some ⟨bm, om, none⟩) b.ts.length b.ct) := by
          have q : wr.cell? ⟨Yq.heap.size, 4, none⟩ = some (.slice b.t b.ts.length b.ct) := Hb15.out.cell 4
          rw [HBTT.out] at q
          exact q
        have em0 : wr.cell? ⟨bm, om + i * 9, none⟩ = some (.string tm.s) := HQC.out wr HRR.out 0 (by decide)
        have em1 : wr.cell? ⟨bm, om + i * 9 + 1, none⟩ = some (.int .i32 tm.f) := HQC.out wr HRR.out 1 (by decide)
        have em2 : wr.cell? ⟨bm, om + i * 9 + 2, none⟩ = some (.int .i32 tm.r) := HQC.out wr HRR.out 2 (by decide)
        have em3 : wr.cell? ⟨bm, om + i * 9 + 3, none⟩ = some (.bool tm.n) := HQC.out wr HRR.out 3 (by decide)
        have em4 : wr.cell? ⟨bm, om + i * 9 + 4, none⟩ = some (.slice tm.a tm.xs.length tm.ca) := HQC.out wr HRR.out 4 (by decide)
        have em5 : wr.cell? ⟨bm, om + i * 9 + 5, none⟩ = some (.slice tm.b tm.ys.length tm.cb) := HQC.out wr HRR.out 5 (by decide)
        have em6 : wr.cell? ⟨bm, om + i * 9 + 6, none⟩ = some (.bool tm.m) := HQC.out wr HRR.out 6 (by decide)
        have em7 : wr.cell? ⟨bm, om + i * 9 + 7, none⟩ = some (.slice tm.c tm.us.length tm.cc) := HQC.out wr HRR.out 7 (by decide)
        have em8 : wr.cell? ⟨bm, om + i * 9 + 8, none⟩ = some (.slice tm.d tm.vs.length tm.cd) := HQC.out wr HRR.out 8 (by decide)
        go_wp2_with fail
        refine Calls.mono (HAT.out wr HRR.out) ?_
        rintro e w8 ⟨y, rfl, sy, iy, b8⟩
        clear cb4 em0 em1 em2 em3 em4 em5 em6 em7 em8
        have HYI := hid iy
        have KY := hid sy
        have HRX := hid b8
        clear HAT HQC HRR sy iy b8
        have HW16 := hid (bt HW15.out HRX.out)
        have Hp16 := hid (Hp15.out.later HRX.out Hp15.out.lt)
        have Hb16 := hid (Hb15.out.later HRX.out Hb15.out.lt)
        have Hv16 := hid (HVB.out.later HRX.out HVB.out.lt)
        have Kp16 := hid (Kp15.out.later HRX.out)
        have Kb16 := hid (Kb15.out.later HRX.out)
        have Kv16 := hid (KV.out.later HRX.out)
        clear HW15 Hp15 Hb15 HVB Kp15 Kb15 KV
        obtain ⟨Yy, hYy⟩ : ∃ Yy, w8.alloc (.cells #[.bool y.n, .slice y.a y.xs.length y.ca, .slice y.b y.ys.length y.cb, .bool y.m, .slice y.c y.us.length y.cc, .slice y.d y.vs.length y.cd] 35) = Yy := ⟨_, rfl⟩
        have Gy : Hid (Box Yy w8.heap.size 35 #[.bool y.n, .slice y.a y.xs.length y.ca, .slice y.b y.ys.length y.cb, .bool y.m, .slice y.c y.us.length y.cc, .slice y.d y.vs.length y.cd]) := by
          subst hYy
          exact Box.made w8 _ _
        have Ly : Hid (Below w8.heap.size w8 Yy) := by
          subst hYy
          exact alloc_later _ _
        have HW17 := hid (bt HW16.out Ly.out)
        have Hp17 := hid (Hp16.out.later Ly.out Hp16.out.lt)
        have Hb17 := hid (Hb16.out.later Ly.out Hb16.out.lt)
        have Hv17 := hid (Hv16.out.later Ly.out Hv16.out.lt)
        have Kp17 := hid (Kp16.out.later Ly.out)
        have Kb17 := hid (Kb16.out.later Ly.out)
        have Kv17 := hid (Kv16.out.later Ly.out)
        have Ky17 := hid (KY.out.later Ly.out)
        clear HW16 Hp16 Hb16 Hv16 Kp16 Kb16 Kv16 KY
        have cv0 : Yy.cell? ⟨w7.heap.size, 0, none⟩ = some (.bool v.n) := Hv17.out.cell 0
        have cv1 : Yy.cell? ⟨w7.heap.size, 1, none⟩ = some (.slice v.a v.xs.length v.ca) := Hv17.out.cell 1
        have cv2 : Yy.cell? ⟨w7.heap.size, 2, none⟩ = some (.slice v.b v.ys.length v.cb) := Hv17.out.cell 2
        have cv3 : Yy.cell? ⟨w7.heap.size, 3, none⟩ = some (.bool v.m) := Hv17.out.cell 3
        have cv4 : Yy.cell? ⟨w7.heap.size, 4, none⟩ = some (.slice v.c v.us.length v.cc) := Hv17.out.cell 4
        have cv5 : Yy.cell? ⟨w7.heap.size, 5, none⟩ = some (.slice v.d v.vs.length v.cd) := Hv17.out.cell 5
        have cy0 : Yy.cell? ⟨w8.heap.size, 0, none⟩ = some (.bool y.n) := Gy.out.cell 0
        have cy1 : Yy.cell? ⟨w8.heap.size, 1, none⟩ = some (.slice y.a y.xs.length y.ca) := Gy.out.cell 1
        have cy2 : Yy.cell? ⟨w8.heap.size, 2, none⟩ = some (.slice y.b y.ys.length y.cb) := Gy.out.cell 2
        have cy3 : Yy.cell? ⟨w8.heap.size, 3, none⟩ = some (.bool y.m) := Gy.out.cell 3
        have cy4 : Yy.cell? ⟨w8.heap.size, 4, none⟩ = some (.slice y.c y.us.length y.cc) := Gy.out.cell 4
        have cy5 : Yy.cell? ⟨w8.heap.size, 5, none⟩ = some (.slice y.d y.vs.length y.cd) := Gy.out.cell 5
        have HAD := hid (pAdd_good v y Yy Kv17.out Ky17.out HVI.out HYI.out HSH.out.1 HSH.out.2)
        go_wp2_with fail
        refine Calls.mono HAD.out ?_
        rintro e w9 ⟨x, rfl, sx, ix, b9⟩
        clear cv0 cv1 cv2 cv3 cv4 cv5 cy0 cy1 cy2 cy3 cy4 cy5
        have HB9 := hid b9
        have HXI := hid ix
        have HXO := hid sx
        clear HAD HYI HSH b9 ix sx
        have HW18 := hid (bt HW17.out HB9.out)
        have Hp18 := hid (Hp17.out.later HB9.out Hp17.out.lt)
        have Hb18 := hid (Hb17.out.later HB9.out Hb17.out.lt)
        have Hv18 := hid (Hv17.out.later HB9.out Hv17.out.lt)
        have Hy18 := hid (Gy.out.later HB9.out Gy.out.lt)
        have Kp18 := hid (Kp17.out.later HB9.out)
        have Kb18 := hid (Kb17.out.later HB9.out)
        have Kv18 := hid (Kv17.out.later HB9.out)
        have Ky18 := hid (Ky17.out.later HB9.out)
        clear HW17 Hp17 Hb17 Hv17 Gy Kp17 Kb17 Kv17 Ky17
        obtain ⟨A0, A1, A2, A3, A4, A5, a0, a1, a2, a3, a4, a5, ⟨r0, r1, r2, r3, r4, r5⟩, ⟨f0, f1, f2, f3, f4, f5⟩, HA⟩ := rchain6 Hv18.out (by decide) (.bool x.n) (.slice x.a x.xs.length x.ca) (.slice x.b x.ys.length x.cb) (.bool x.m) (.slice x.c x.us.length x.cc) (.slice x.d x.vs.length x.cd)
        have HR1 : Hid (Below w7.heap.size w7 A5) := HA.out.2.2.2.1 _ _ (Nat.le_refl _) (bt HBk.out (bt HRX.out (bt Ly.out HB9.out)))
        have HR2 := hid HA.out.1
        have HOA : Hid (x.Ow A5 Yy.heap.size) := ⟨HA.out.2.2.1 _ _ _ _ HXO.out.1, HA.out.2.2.1 _ _ _ _ HXO.out.2.1, HA.out.2.2.1 _ _ _ _ HXO.out.2.2.1, HA.out.2.2.1 _ _ _ _ HXO.out.2.2.2⟩
        have HR3 := hid (HOA.out.sl HXI.out)
        have HNB : Hid (b.ts.length ≤ 6) := by
          have h1 := HBT.out
          have h2 := HNN.out
          show _ ≤ _
          omega
        have hb6 := HNB.out
        clear HA HXO HOA
        go_wp2_with fail
        go_roundw
        case rel => exact ⟨i + 1, x, by go_num, by omega, HR1, HR2, HR3, HXI.out⟩
        case measure => simp [intOf]; omega
      obtain rfl : i = b.ts.length := by omega
      have hi1' : ¬ (b.ts.length : Int) < (b.ts.length : Int) := by omega
      have hz0 : (zs Z b.ts.length).2 = 0 := by
        rw [HBT.out]
        exact zs_real (fun j hj => by rw [← HZ.out, ← HZ.out]; exact HCJ.out j hj)
      have hus : v.us = [] := by
        have h := HVI.out
        rw [hz0] at h
        exact zero_form h.2.2.2.2.1 h.2.2.2.2.2 h.2.1.1 h.2.1.2
      have hsg : rsgn v.m v.us v.vs = 0 := by
        unfold rsgn
        rw [if_pos HVI.out.2.1.1, hus]
        rfl
      have hul : (v.us.length : Int) = 0 := by rw [hus]; rfl
      have HUL := hid hul
      have HRS := hid (rSign_any v.m v.c v.cc v.us v.d v.cd v.vs wr KV.out.2.2.1 KV.out.2.2.2)
      rw [hsg] at HRS
      clear hz0 hus hsg hul HBk
      have cb4 : wr.cell? ⟨Yq.heap.size, 4, none⟩ = some (.slice b.t b.ts.length b.ct) := Hb15.out.cell 4
      have cv0 : wr.cell? ⟨w7.heap.size, 0, none⟩ = some (.bool v.n) := HVB.out.cell 0
      have cv1 : wr.cell? ⟨w7.heap.size, 1, none⟩ = some (.slice v.a v.xs.length v.ca) := HVB.out.cell 1
      have cv2 : wr.cell? ⟨w7.heap.size, 2, none⟩ = some (.slice v.b v.ys.length v.cb) := HVB.out.cell 2
      have cv3 : wr.cell? ⟨w7.heap.size, 3, none⟩ = some (.bool v.m) := HVB.out.cell 3
      have cv4 : wr.cell? ⟨w7.heap.size, 4, none⟩ = some (.slice v.c v.us.length v.cc) := HVB.out.cell 4
      have cv5 : wr.cell? ⟨w7.heap.size, 5, none⟩ = some (.slice v.d v.vs.length v.cd) := HVB.out.cell 5
      go_wp2_with fail
      refine Calls.mono HRS.out ?_
      rintro e w8 ⟨rfl, b8⟩
      clear cb4 cv0 cv1 cv2 cv3 cv4 cv5
      clear HRS
      have HW19 := hid (bt HW15.out b8)
      have Hp19 := hid (Hp15.out.later b8 Hp15.out.lt)
      have Hb19 := hid (Hb15.out.later b8 Hb15.out.lt)
      have Hv19 := hid (HVB.out.later b8 HVB.out.lt)
      have Kp19 := hid (Kp15.out.later b8)
      have Kb19 := hid (Kb15.out.later b8)
      have Kv19 := hid (KV.out.later b8)
      clear HW15 Hp15 Hb15 HVB Kp15 Kb15 KV
      clear b8
      have cv0 : w8.cell? ⟨w7.heap.size, 0, none⟩ = some (.bool v.n) := Hv19.out.cell 0
      have cv1 : w8.cell? ⟨w7.heap.size, 1, none⟩ = some (.slice v.a v.xs.length v.ca) := Hv19.out.cell 1
      have cv2 : w8.cell? ⟨w7.heap.size, 2, none⟩ = some (.slice v.b v.ys.length v.cb) := Hv19.out.cell 2
      have cv3 : w8.cell? ⟨w7.heap.size, 3, none⟩ = some (.bool v.m) := Hv19.out.cell 3
      have cv4 : w8.cell? ⟨w7.heap.size, 4, none⟩ = some (.slice v.c v.us.length v.cc) := Hv19.out.cell 4
      have cv5 : w8.cell? ⟨w7.heap.size, 5, none⟩ = some (.slice v.d v.vs.length v.cd) := Hv19.out.cell 5
      have hul := HUL.out
      go_wp2_with fail
      go_ret
      exact ⟨rfl, HW19.out⟩
end Go.Proofs.YtnfemheabikolaaGreatDoor

/- A port, a constituent that came in: each one letter. -/
namespace Go.Proofs.YtnfemheabikolaaGreatDoor
open Go.RowKit Go.ChangeShapes Go.WideShapes Go.ChangeAt Go.Joins Go.Deep
set_option linter.unusedVariables false

end Go.Proofs.YtnfemheabikolaaGreatDoor

/- Layer 14: what the frame of PortReal takes. -/
namespace Go.Proofs.YtnfemheabikolaaGreatDoor
open Go.RowKit
theorem portReal_of (p : PL) (t : Int) (w : World) (hp : p.ok w) (htab : Tab w) : Calls Tryz.prog 8 #[.agg p.cells, .int .i64 t] w fun e w' => e = .returned (.bool true) ∧ Below w.heap.size w w' :=
  portReal_in p t w hp htab
end Go.Proofs.YtnfemheabikolaaGreatDoor

