/- My texts on the way to PortMoves, one behind the other: contracts of the program and of the document's answers. -/
import Derived.Test.YtnfemheabikolaaGreatDoorJ1
import Derived.Test.YtnfemheabikolaaGreatDoorJ2
import Derived.Test.YtnfemheabikolaaGreatDoorJ3
import Derived.Test.YtnfemheabikolaaGreatDoorJ4
import Derived.Test.YtnfemheabikolaaGreatDoorJ5
import Derived.Test.YtnfemheabikolaaGreatDoorJ6
import Derived.Deep.RegionHeld3
import Derived.Deep.RegionLaw
import Derived.Lib.SliceRun
import Derived.Laws.OwnMore
import Derived.LoopN
/- package port: changed, at any change that is told; of every port that is not too long. (tools/mkqc9.py, out of Qc3) -/
namespace Go.Proofs.YtnfemheabikolaaGreatDoor
open Go.RowKit
set_option linter.unusedVariables false
set_option linter.unusedSimpArgs false

def ChT (p : PL) (R : Nat → TV → Int → Prop) (q : PL) (c : Int) (w w' : World) : Prop := (∃ (i : Nat) (v : TV), i < p.ts.length ∧ (∀ j, j < i → ∃ u, R j u 0) ∧ R i v c ∧ c ≠ 0 ∧ Made q PV.zero w w') ∨ (c = 0 ∧ ∃ vs : List TV, vs.length = p.ts.length ∧ (∀ j v, vs[j]? = some v → R j v 0) ∧ Made q ⟨p.s, p.n, p.xs, p.ys, vs⟩ w w')
set_option maxHeartbeats 3200000 in
set_option maxRecDepth 100000 in
theorem pchanged_any (f : Nat) (cap : Array Value) (p : PL) (w : World) (h : p.ok w) (hf : p.v.few) (eg : ∀ args W, (callFunc f args).run Tryz.prog W = .ok (.enter f args) W) (R : Nat → TV → Int → Prop) (hC : ∀ j V, j < p.ts.length → Below w.heap.size w V → Calls Tryz.prog f (#[.agg (tT p.ts j).cells] ++ cap) V (TRet (R j) V)) : Calls Tryz.prog 62 #[.agg p.cells, .func (.func f) #[] cap] w fun e w' => ∃ (q : PL) (c : Int), e = .returned (.tuple #[.agg q.cells, .int .i64 c]) ∧ ChT p R q c w w' := by
  obtain ⟨i0, hi0, hz0, hz1, hz2⟩ := info_parts Tryz.infoT
  obtain ⟨s, n, a, ca, xs, b, cb, ys, t, ct, ts⟩ := p
  obtain ⟨hfx, hfy, hfl, hfe⟩ := hf
  have HTS : Hid (RdT w t ts) := h.ts
  have HCW : Hid (∀ j V, j < ts.length → Below w.heap.size w V → Calls Tryz.prog f (#[.agg #[.string (tT ts j).s, .int .i32 (tT ts j).f, .int .i32 (tT ts j).r, .bool (tT ts j).n, .slice (tT ts j).a (tT ts j).xs.length (tT ts j).ca, .slice (tT ts j).b (tT ts j).ys.length (tT ts j).cb, .bool (tT ts j).m, .slice (tT ts j).c (tT ts j).us.length (tT ts j).cc, .slice (tT ts j).d (tT ts j).vs.length (tT ts j).cd]] ++ cap) V (TRet (R j) V)) := hC
  have sx : Sl w (.slice a xs.length ca) xs := h.sx
  have sy : Sl w (.slice b ys.length cb) ys := h.sy
  have hfl' : ts.length ≤ 1000000 := by
    have : (ts.map TL.v).length ≤ 1000000 := hfl
    simpa using this
  clear h hfl hfe hC
  unfold PL.cells
  dsimp only
  obtain ⟨N, hN⟩ : ∃ N, ts.length = N := ⟨_, rfl⟩
  have HLN := hid hN
  rw [hN] at hfl' ⊢
  clear hN
  obtain ⟨X, hX⟩ : ∃ X, w.alloc (.cells #[.string s, .bool n, .slice a xs.length ca, .slice b ys.length cb, .slice t N ct] 27) = X := ⟨_, rfl⟩
  obtain ⟨Y, hY⟩ : ∃ Y, X.alloc (.cells #[.string ⟨#[]⟩, .bool false, .slice none 0 0, .slice none 0 0, .slice none 0 0] 27) = Y := ⟨_, rfl⟩
  have HX : Hid (Box Y w.heap.size 27 #[.string s, .bool n, .slice a xs.length ca, .slice b ys.length cb, .slice t N ct]) := by
    subst hY hX
    exact (Box.made w _ _).later (alloc_later _ _) (Box.made w 27 _).lt
  have HR : Hid (Box Y X.heap.size 27 #[.string ⟨#[]⟩, .bool false, .slice none 0 0, .slice none 0 0, .slice none 0 0]) := by
    subst hY
    exact Box.made X _ _
  have HXs : X.heap.size = w.heap.size + 1 := by subst hX; simp
  have HB : Hid (Below w.heap.size w Y) := by
    subst hY hX
    exact bt (alloc_later _ _) (alloc_later _ _)
  rw [HXs] at HR
  have HYs : Hid (w.heap.size + 1 < Y.heap.size) := HR.out.lt
  have HC : Hid (∀ V, Below Y.heap.size Y V → Calls Tryz.prog 115 #[.agg #[.bool n, .slice a xs.length ca, .slice b ys.length cb]] V fun e w' => ∃ a1 c1 a2 c2, e = .returned (.agg #[.bool n, .slice a1 xs.length c1, .slice a2 ys.length c2]) ∧ w'.ownsRow V.heap.size 78 1 (.slice a1 xs.length c1) xs.length (xs.map (Value.int .u32)) ∧ w'.ownsRow V.heap.size 78 1 (.slice a2 ys.length c2) ys.length (ys.map (Value.int .u32)) ∧ Below V.heap.size V w' ∧ Cut V (.slice a1 xs.length c1) (.slice a2 ys.length c2) w') := fun V hV => pcopyR_any n a ca xs b cb ys V (sx.later (bt HB.out hV)) (sy.later (bt HB.out hV)) hfx hfy
  have HS : Hid (∀ V, Box V w.heap.size 27 #[.string s, .bool n, .slice a xs.length ca, .slice b ys.length cb, .slice t N ct] → V.cell? ⟨w.heap.size, 0, none⟩ = some (.string s) ∧ V.cell? ⟨w.heap.size, 1, none⟩ = some (.bool n) ∧ V.cell? ⟨w.heap.size, 2, none⟩ = some (.slice a xs.length ca) ∧ V.cell? ⟨w.heap.size, 3, none⟩ = some (.slice b ys.length cb)) := fun V h => ⟨h.cell 0, h.cell 1, h.cell 2, h.cell 3⟩
  have HXL : Hid (∀ V, Below Y.heap.size Y V → Box V w.heap.size 27 #[.string s, .bool n, .slice a xs.length ca, .slice b ys.length cb, .slice t N ct]) := fun V hV => HX.out.later hV HX.out.lt
  have hd0 := hid (Below.refl Y.heap.size Y)
  clear sx sy hfx hfy
  go_enter Tryz.func62, Tryz.ntmps62
  go_wp2_with fail
  go_cut [6] from 11 (fun s3 wx => ∃ B a1 c1 a2 c2, s3 = .pointer (some ⟨B, 0, none⟩) ∧ Hid (CpI ⟨s, n, xs, ys, ts.map TL.v⟩ w B a1 c1 a2 c2 [] [] none 0 wx) ∧ Hid (Box wx w.heap.size 27 #[.string s, .bool n, .slice a xs.length ca, .slice b ys.length cb, .slice t N ct] ∧ Box wx (w.heap.size + 1) 27 #[.string ⟨#[]⟩, .bool false, .slice none 0 0, .slice none 0 0, .slice none 0 0]))
  case first =>
    have hs0 := HS.out _ (HXL.out _ hd0.out.drew)
    have hsa := HS.out _ (HXL.out _ ((bel_al hd0.out (.cells #[.string ⟨#[]⟩, .bool false, .slice none 0 0, .slice none 0 0, .slice none 0 0] 27)).drew))
    go_region_held3 (fun V : World => V.cell? ⟨w.heap.size, 0, none⟩ = some (.string s) ∧ V.cell? ⟨w.heap.size, 1, none⟩ = some (.bool n) ∧ V.cell? ⟨w.heap.size, 2, none⟩ = some (.slice a xs.length ca) ∧ V.cell? ⟨w.heap.size, 3, none⟩ = some (.slice b ys.length cb)) (first | exact hs2 | exact hs1a | exact hs1 | exact hsa | exact hs0 | go_keep)
      (first
        | (go_at_call 115; (with_reducible refine Calls.mono (HC.out _ (by first | exact hd0.out.drew | exact (bel_al hd0.out _).drew)) ?_); rintro e w1 ⟨a1, c1, a2, c2, rfl, o1, o2, b1, ct1⟩; (first | (have hbA := hid (bt hd0.out.drew b1)) | (have hbA := hid (bt (bel_al hd0.out _).drew b1))); have HA1 := hid (And.intro o1 (And.intro o2 (And.intro b1 ct1))); have hs1 := HS.out _ (HXL.out _ hbA.out); have hs1a := HS.out _ (HXL.out _ (bel_al hbA.out (.cells #[.string ⟨#[]⟩, .bool false, .slice none 0 0, .slice none 0 0, .slice none 0 0] 27))); (first | (have HQ := hid (Box.later ((Box.made Y 27 #[.string ⟨#[]⟩, .bool false, .slice none 0 0, .slice none 0 0, .slice none 0 0]).drewN 1) b1 (Box.made Y 27 _).lt)) | (have HQ := hid (Box.made w1 27 #[.string ⟨#[]⟩, .bool false, .slice none 0 0, .slice none 0 0, .slice none 0 0]))); obtain ⟨A0, A1, A2, A3, A4, hA0, hA1, hA2, hA3, hA4, ⟨q0, q1, q2, q3, q4⟩, ⟨f0, f1, f2, f3, f4⟩, HA⟩ := pchain5 HQ.out (.string s) (.bool n) (.slice a1 xs.length c1) (.slice a2 ys.length c2) (.slice none 0 0); have hs2 := HS.out A4 (HA.out.2.1 _ _ _ (by have h1 := hbA.out.size; have h2 := HYs.out; omega) (by first | exact HXL.out _ hbA.out | exact HXL.out _ (bel_al hbA.out _)))))
    all_goals
      have HN1 : Hid (w.heap.size + 1 < w1.heap.size) := by have h1 := hbA.out.size; have h2 := HYs.out; show _ < _; omega
      have HE : Hid (∃ B, A4.cell? ⟨B, 0, none⟩ = A4.cell? ⟨B, 0, none⟩) := ⟨0, rfl⟩
      clear HE q0 q1 q2 q3 q4 f0 f1 f2 f3 f4 hs0 hsa hs1 hs1a hs2 HC HS
      go_wp2_with fail
      go_meet
    · exact ⟨_, a1, c1, a2, c2, rfl, CpI.start (p := ⟨s, n, xs, ys, ts.map TL.v⟩) (bt HB.out hd0.out.drew) HA1.out.1 HA1.out.2.1 HA1.out.2.2.1 HA1.out.2.2.2 (alloc_later w1 _) HA.out HN1.out, HA.out.2.1 _ _ _ (by have h1 := HN1.out; omega) (HXL.out _ (bel_al hbA.out _)), HA.out.2.1 _ _ _ (by have h1 := HN1.out; omega) (HR.out.later (bel_al hbA.out _) HR.out.lt)⟩
    · exact ⟨_, a1, c1, a2, c2, rfl, CpI.start (p := ⟨s, n, xs, ys, ts.map TL.v⟩) (bt HB.out (bel_al hd0.out _).drew) HA1.out.1 HA1.out.2.1 HA1.out.2.2.1 HA1.out.2.2.2 (Below.refl _ w1) HA.out HYs.out, HA.out.2.1 _ _ _ (by have h1 := HYs.out; omega) (HXL.out _ hbA.out), HA.out.2.1 _ _ _ (by have h1 := HYs.out; omega) (HR.out.later hbA.out HR.out.lt)⟩
  case rest =>
    obtain ⟨B, a1, c1, a2, c2, rfl, HI, HBX⟩ := hcut
    have k4 : wc.cell? ⟨w.heap.size, 4, none⟩ = some (.slice t N ct) := HBX.out.1.cell 4
    have HRC := hid HBX.out.2
    have HBW := hid HI.out.bel
    clear HBX HC HS HXL HX HR hd0 hX hY HXs HYs HB
    go_wp2_with fail
    clear k4
    go_loopw [20] (fun x wr => ∃ (i : Nat) (L : List TL) (q : Option Addr) (cq : Nat), x = .int .i64 (i : Int) ∧ i ≤ N ∧ L.length = i ∧ Hid (∀ j v, (L.map TL.v)[j]? = some v → R j v 0) ∧ Hid (CpI ⟨s, n, xs, ys, ts.map TL.v⟩ w B a1 c1 a2 c2 L L q cq wr) ∧ Hid (Box wr (w.heap.size + 1) 27 #[.string ⟨#[]⟩, .bool false, .slice none 0 0, .slice none 0 0, .slice none 0 0])) (fun x _ => N - (intOf x).toNat)
    case atStart => exact ⟨0, [], none, 0, rfl, by omega, rfl, (fun j v h => by simp at h : ∀ j v, (([] : List TL).map TL.v)[j]? = some v → R j v 0), HI, HRC⟩
    case round =>
      obtain ⟨i, L, q, cq, rfl, hi, hLi, HV, HI, HRC⟩ := hrel
      by_cases hin : i < N
      · have hil : i < ts.length := by rw [HLN.out]; exact hin
        have HTW := hid (HTS.out.later HI.out.bel)
        rcases HTW.out.2 with e | ⟨bb, o, rfl, hbb, hc⟩
        · rw [e] at hil; exact absurd hil (by simp)
        have HCC : Hid (∀ V, Below w.heap.size w V → Calls Tryz.prog f (#[.agg #[.string (tT ts i).s, .int .i32 (tT ts i).f, .int .i32 (tT ts i).r, .bool (tT ts i).n, .slice (tT ts i).a (tT ts i).xs.length (tT ts i).ca, .slice (tT ts i).b (tT ts i).ys.length (tT ts i).cb, .bool (tT ts i).m, .slice (tT ts i).c (tT ts i).us.length (tT ts i).cc, .slice (tT ts i).d (tT ts i).vs.length (tT ts i).cd]] ++ cap) V (TRet (R i) V)) := fun V hV => HCW.out i V hil hV
        have HLL : Hid (L.length ≤ 1000000) := by show L.length ≤ _; omega
        have HVN : Hid (∀ u : TL, R i u.v 0 → ∀ j v, ((L ++ [u]).map TL.v)[j]? = some v → R j v 0) := fun u hu j v hj => by
          rw [List.map_append, List.map_cons, List.map_nil] at hj
          rcases Nat.lt_or_ge j i with hji | hji
          · rw [List.getElem?_append_left (by rw [List.length_map]; omega)] at hj
            exact HV.out j v hj
          · rw [List.getElem?_append_right (by rw [List.length_map]; omega), List.length_map] at hj
            have hj0 : j - L.length = 0 := by
              rcases Nat.eq_zero_or_pos (j - L.length) with h | h
              · exact h
              · rw [List.getElem?_eq_none (by simp; omega)] at hj; cases hj
            rw [hj0] at hj
            have ej : j = i := by omega
            rw [ej, ← Option.some.inj hj]
            exact hu
        have HVF : Hid (∀ j, j < i → ∃ u, R j u 0) := fun j hj => ⟨_, HV.out j _ (List.getElem?_eq_getElem (by rw [List.length_map]; omega))⟩
        have hci := hc i _ (tT_at hil)
        have e0 := hci 0 (by decide)
        have e1 := hci 1 (by decide)
        have e2 := hci 2 (by decide)
        have e3 := hci 3 (by decide)
        have e4 := hci 4 (by decide)
        have e5 := hci 5 (by decide)
        have e6 := hci 6 (by decide)
        have e7 := hci 7 (by decide)
        have e8 := hci 8 (by decide)
        clear hci hc
        generalize tT ts i = tt at *
        have c0 : wr.cell? ⟨bb, o + i * 9, none⟩ = some (.string tt.s) := e0
        have c1' : wr.cell? ⟨bb, o + i * 9 + 1, none⟩ = some (.int .i32 tt.f) := e1
        have c2' : wr.cell? ⟨bb, o + i * 9 + 2, none⟩ = some (.int .i32 tt.r) := e2
        have c3 : wr.cell? ⟨bb, o + i * 9 + 3, none⟩ = some (.bool tt.n) := e3
        have c4 : wr.cell? ⟨bb, o + i * 9 + 4, none⟩ = some (.slice tt.a tt.xs.length tt.ca) := e4
        have c5 : wr.cell? ⟨bb, o + i * 9 + 5, none⟩ = some (.slice tt.b tt.ys.length tt.cb) := e5
        have c6 : wr.cell? ⟨bb, o + i * 9 + 6, none⟩ = some (.bool tt.m) := e6
        have c7 : wr.cell? ⟨bb, o + i * 9 + 7, none⟩ = some (.slice tt.c tt.us.length tt.cc) := e7
        have c8 : wr.cell? ⟨bb, o + i * 9 + 8, none⟩ = some (.slice tt.d tt.vs.length tt.cd) := e8
        clear e0 e1 e2 e3 e4 e5 e6 e7 e8
        obtain ⟨A0, A1, A2, A3, A4, A5, A6, A7, A8, q0, q1, q2, q3, q4, q5, q6, q7, q8, ⟨r0, r1, r2, r3, r4, r5, r6, r7, r8⟩, ⟨f0, f1, f2, f3, f4, f5, f6, f7, f8⟩, HA⟩ := tlbox wr tt
        have HIA := hid (HI.out.later HA.out.2)
        have HRA := hid (HRC.out.later HA.out.2 HRC.out.lt)
        have HXA := hid HA.out.1
        have m0 : A8.cell? ⟨wr.heap.size, 0, none⟩ = some (.string tt.s) := HXA.out.cell 0
        have m1 : A8.cell? ⟨wr.heap.size, 1, none⟩ = some (.int .i32 tt.f) := HXA.out.cell 1
        have m2 : A8.cell? ⟨wr.heap.size, 2, none⟩ = some (.int .i32 tt.r) := HXA.out.cell 2
        have m3 : A8.cell? ⟨wr.heap.size, 3, none⟩ = some (.bool tt.n) := HXA.out.cell 3
        have m4 : A8.cell? ⟨wr.heap.size, 4, none⟩ = some (.slice tt.a tt.xs.length tt.ca) := HXA.out.cell 4
        have m5 : A8.cell? ⟨wr.heap.size, 5, none⟩ = some (.slice tt.b tt.ys.length tt.cb) := HXA.out.cell 5
        have m6 : A8.cell? ⟨wr.heap.size, 6, none⟩ = some (.bool tt.m) := HXA.out.cell 6
        have m7 : A8.cell? ⟨wr.heap.size, 7, none⟩ = some (.slice tt.c tt.us.length tt.cc) := HXA.out.cell 7
        have m8 : A8.cell? ⟨wr.heap.size, 8, none⟩ = some (.slice tt.d tt.vs.length tt.cd) := HXA.out.cell 8
        have hi0' : (0 : Int) ≤ (i : Int) := by omega
        have hi1 : (i : Int) < (N : Int) := by omega
        have HLE := hid hLi
        clear HI HRC HA hbb hLi
        go_wp2_with fail
        clear q0 q1 q2 q3 q4 q5 q6 q7 q8 r0 r1 r2 r3 r4 r5 r6 r7 r8 f0 f1 f2 f3 f4 f5 f6 f7 f8 c0 c1' c2' c3 c4 c5 c6 c7 c8
        refine Calls.mono (HCC.out _ HIA.out.bel) ?_
        rintro e w1 ⟨u, c, rfl, hu, ou, iu, b1⟩
        obtain ⟨W2, hW2⟩ : ∃ W2, w1.alloc (.cells #[.string u.s, .int .i32 u.f, .int .i32 u.r, .bool u.n, .slice u.a u.xs.length u.ca, .slice u.b u.ys.length u.cb, .bool u.m, .slice u.c u.us.length u.cc, .slice u.d u.vs.length u.cd] 37) = W2 := ⟨_, rfl⟩
        have HOB : Hid (Box W2 w1.heap.size 37 #[.string u.s, .int .i32 u.f, .int .i32 u.r, .bool u.n, .slice u.a u.xs.length u.ca, .slice u.b u.ys.length u.cb, .bool u.m, .slice u.c u.us.length u.cc, .slice u.d u.vs.length u.cd]) := by
          subst hW2
          exact Box.made w1 _ _
        have HB2 : Hid (Below w1.heap.size w1 W2) := by
          subst hW2
          exact alloc_later _ _
        have HU := hid hu
        have HI1 := hid ((HIA.out.call b1 ou iu).later HB2.out)
        have HR1 := hid (HRA.out.later (bt b1 HB2.out) HRA.out.lt)
        have n0 : W2.cell? ⟨w1.heap.size, 0, none⟩ = some (.string u.s) := HOB.out.cell 0
        have n1 : W2.cell? ⟨w1.heap.size, 1, none⟩ = some (.int .i32 u.f) := HOB.out.cell 1
        have n2 : W2.cell? ⟨w1.heap.size, 2, none⟩ = some (.int .i32 u.r) := HOB.out.cell 2
        have n3 : W2.cell? ⟨w1.heap.size, 3, none⟩ = some (.bool u.n) := HOB.out.cell 3
        have n4 : W2.cell? ⟨w1.heap.size, 4, none⟩ = some (.slice u.a u.xs.length u.ca) := HOB.out.cell 4
        have n5 : W2.cell? ⟨w1.heap.size, 5, none⟩ = some (.slice u.b u.ys.length u.cb) := HOB.out.cell 5
        have n6 : W2.cell? ⟨w1.heap.size, 6, none⟩ = some (.bool u.m) := HOB.out.cell 6
        have n7 : W2.cell? ⟨w1.heap.size, 7, none⟩ = some (.slice u.c u.us.length u.cc) := HOB.out.cell 7
        have n8 : W2.cell? ⟨w1.heap.size, 8, none⟩ = some (.slice u.d u.vs.length u.cd) := HOB.out.cell 8
        have hw12 : w1.heap.size < W2.heap.size := HOB.out.lt
        have z1 : W2.cell? ⟨B, 4, none⟩ = some (.slice q L.length cq) := HI1.out.box.cell 4
        clear m0 m1 m2 m3 m4 m5 m6 m7 m8 HIA HRA HXA HB2 HCC HOB b1 ou iu hu
        by_cases hc0 : c = 0
        · subst hc0
          obtain ⟨W3, hW3⟩ : ∃ W3, W2.alloc (.cells #[.string u.s, .int .i32 u.f, .int .i32 u.r, .bool u.n, .slice u.a u.xs.length u.ca, .slice u.b u.ys.length u.cb, .bool u.m, .slice u.c u.us.length u.cc, .slice u.d u.vs.length u.cd] 37) = W3 := ⟨_, rfl⟩
          have HI2 : Hid (CpI ⟨s, n, xs, ys, ts.map TL.v⟩ w B a1 c1 a2 c2 L (L ++ [u]) q cq W3) := by
            subst hW3
            exact HI1.out.later (alloc_later _ _)
          have HR2 : Hid (Box W3 (w.heap.size + 1) 27 #[.string ⟨#[]⟩, .bool false, .slice none 0 0, .slice none 0 0, .slice none 0 0]) := by
            subst hW3
            exact HR1.out.later (alloc_later _ _) HR1.out.lt
          have HNW : Hid (∀ j v, u.cells.toList[j]? = some v → W3.cell? ((⟨W2.heap.size, 0, none⟩ : Addr).add j) = some v) := by
            subst hW3
            exact qcells_new W2 _ _
          have z2 : W3.cell? ⟨B, 4, none⟩ = some (.slice q L.length cq) := HI2.out.box.cell 4
          go_wp2_with (first
            | (at_builtin; refine wpList_append_own_at _ rfl _ _ 25 rfl w.heap.size 37 i0 (.agg #[.string ⟨#[]⟩, .int .i32 0, .int .i32 0, .bool false, .slice none 0 0, .slice none 0 0, .bool false, .slice none 0 0, .slice none 0 0]) 9 136 Tryz.underlying25 hi0 hz0 hz1 hz2 rfl (by decide) (.slice q L.length cq) L.length (flatT L) rfl HI2.out.row ⟨W2.heap.size, 0, none⟩ 1 1 u.cells.toList rfl rfl HNW.out u.one ?hm ?hb HI2.out.bel.size ?_; rotate_right; intro v1 y1 o1 g1 _ at1; obtain ⟨HB1, a', ct', rfl, Z, hZ, HZ⟩ := HI2.out.add o1 g1; have z3 : y1.cell? ⟨B, 4, none⟩ = some (.slice q L.length cq) := HB1.out.cell 4; have z5 : y1.frozen? ⟨B, 4, none⟩ = false := HB1.out.free 4; have HR4 := hid (HZ.out.2 (w.heap.size + 1) _ _ ?hn HR2.out (.inl (by decide)))))
          case hm => have := HLL.out; unfold maxLen; omega
          case hb => have := HLL.out; omega
          case hn => have := HI2.out.low; omega
          have HVN' := hid (HVN.out u HU.out)
          have HLX : Hid ((L ++ [u]).length = i + 1) := by rw [List.length_append, HLE.out]; rfl
          clear z1 z2 z3 z5 n0 n1 n2 n3 n4 n5 n6 n7 n8 HVN HVF HI1 HI2 HR1 HR2
          (try go_wp2_with fail)
          go_roundw
          case rel => exact ⟨i + 1, L ++ [u], a', ct', by go_num, by omega, HLX.out, HVN', HZ.out.1, HR4⟩
          case measure => simp [intOf]; omega
        · have h0' : (c == 0) = false := by simp [hc0]
          have h0'' : (c != 0) = true := by simp [hc0]
          obtain ⟨W3, hW3⟩ : ∃ W3, W2.alloc (.cells #[.string u.s, .int .i32 u.f, .int .i32 u.r, .bool u.n, .slice u.a u.xs.length u.ca, .slice u.b u.ys.length u.cb, .bool u.m, .slice u.c u.us.length u.cc, .slice u.d u.vs.length u.cd] 37) = W3 := ⟨_, rfl⟩
          have HCN := hid hc0
          have HTW2 := hid hil
          have HBW2 := hid HI1.out.bel
          have hlow := HI1.out.low
          obtain ⟨⟨s0, s1, s2, s3, s4⟩, ⟨x0, x1, x2, x3, x4⟩, ⟨u0, u1, u2, u3, u4⟩⟩ := pzero5 HR1.out
          clear hc0 hil HVN HI1 z1 HLL
          go_wp2_with fail
          exact bodyPost_ret (pres_run (by rfl) HR1.out _ rfl) rfl ⟨PL.zero, c, rfl, .inl ⟨i, u.v, HTW2.out, HVF.out, HU.out, HCN.out, Made.none HBW2.out⟩⟩
      · obtain rfl : i = N := by omega
        have hi1 : ¬ (i : Int) < (i : Int) := by omega
        have hk0 : wr.cell? ⟨B, 0, none⟩ = some (.string s) := HI.out.box.cell 0
        have hk1 : wr.cell? ⟨B, 1, none⟩ = some (.bool n) := HI.out.box.cell 1
        have hk2 : wr.cell? ⟨B, 2, none⟩ = some (.slice a1 xs.length c1) := HI.out.box.cell 2
        have hk3 : wr.cell? ⟨B, 3, none⟩ = some (.slice a2 ys.length c2) := HI.out.box.cell 3
        have hk4 : wr.cell? ⟨B, 4, none⟩ = some (.slice q L.length cq) := HI.out.box.cell 4
        obtain ⟨A0, A1, A2, A3, A4, q0, q1, q2, q3, q4, ⟨r0, r1, r2, r3, r4⟩, ⟨f0, f1, f2, f3, f4⟩, HA⟩ := pchain5 HRC.out (.string s) (.bool n) (.slice a1 xs.length c1) (.slice a2 ys.length c2) (.slice q L.length cq)
        have HM : Hid (Made ⟨s, n, a1, c1, xs, a2, c2, ys, q, cq, L⟩ ⟨s, n, xs, ys, L.map TL.v⟩ w A4) := CpI.done (HI.out.re (L.map TL.v)) rfl (Nat.le_succ _) HA.out.2.2.1 HA.out.2.2.2.1 HA.out.2.2.2.2
        have HE := hid HA.out.1
        have HLE : Hid ((L.map TL.v).length = ts.length) := by rw [List.length_map, hLi]; exact HLN.out.symm
        clear HI HRC HA HTS HCW hLi
        go_wp2_with fail
        exact bodyPost_ret (pres_run (by rfl) HE.out _ rfl) rfl ⟨⟨s, n, a1, c1, xs, a2, c2, ys, q, cq, L⟩, 0, rfl, .inr ⟨rfl, L.map TL.v, HLE.out, HV.out, HM.out⟩⟩
end Go.Proofs.YtnfemheabikolaaGreatDoor

/- package port: Conj and Moved, of every port. (tools/mkqca.py) -/
namespace Go.Proofs.YtnfemheabikolaaGreatDoor
open Go.RowKit
set_option linter.unusedVariables false
set_option linter.unusedSimpArgs false

theorem Made.put {q : PL} {v : PV} {w V W A : World} {b : Nat} (hm : Made q v V W) (hV : Below w.heap.size w V) (hb : w.heap.size ≤ b) (hA : Box A b 27 #[.string q.s, .bool q.n, .slice q.a q.xs.length q.ca, .slice q.b q.ys.length q.cb, .slice q.t q.ts.length q.ct] ∧ (∀ b' t' vs, b' ≠ b → Box W b' t' vs → Box A b' t' vs) ∧ (∀ base e s v n xs, e ≠ 27 → W.ownsRow base e s v n xs → A.ownsRow base e s v n xs) ∧ (∀ B' x, B' ≤ b → Below B' x W → Below B' x A) ∧ A.heap.size = W.heap.size) : Made q v w A := by
  obtain ⟨_, _, h3, h4, h5⟩ := hA
  obtain ⟨c, d, c0, c1, l0, l1, sq⟩ := hm.sep
  have hs := hV.size
  have ho := hm.ow.base hs
  refine ⟨hm.v, ⟨h3 _ _ _ _ _ _ (by decide) ho.mx, h3 _ _ _ _ _ _ (by decide) ho.my, h3 _ _ _ _ _ _ (by decide) ho.row, fun t ht => ?_⟩, ⟨c, d, by omega, c1, fun g e => by have := l0 g e; omega, l1, sq.wide (Nat.le_refl _) (by omega)⟩, h4 _ _ hb (bt hV hm.bel)⟩
  have q := ho.els t ht
  exact ⟨h3 _ _ _ _ _ _ (by decide) q.1, h3 _ _ _ _ _ _ (by decide) q.2.1, h3 _ _ _ _ _ _ (by decide) q.2.2.1, h3 _ _ _ _ _ _ (by decide) q.2.2.2⟩
theorem PL.good.at_ {p : PL} (h : p.good) {j : Nat} (hj : j < p.ts.length) : (tT p.ts j).chk = 0 := (h.all j hj).1
def CnT (p : PL) (q : PL) (c : Int) (w w' : World) : Prop := (∃ z, PChk p.hd p.ts c z ∧ c ≠ 0 ∧ Made q PV.zero w w') ∨ (p.good ∧ c = 0 ∧ ∃ vs : List TV, vs.length = p.ts.length ∧ (∀ j v, vs[j]? = some v → CjT (tT p.ts j).v v 0) ∧ Made q ⟨p.s, p.n, p.xs, p.ys, vs⟩ w w')
set_option maxHeartbeats 3200000 in
set_option maxRecDepth 100000 in
theorem pConj_any (p : PL) (w : World) (hp : p.ok w) : Calls Tryz.prog 31 #[.agg p.cells] w fun e w' => ∃ (q : PL) (c : Int), e = .returned (.tuple #[.agg q.cells, .int .i64 c]) ∧ CnT p q c w w' := by
  obtain ⟨X, hX⟩ : ∃ X, w.alloc (.cells #[.string p.s, .bool p.n, .slice p.a p.xs.length p.ca, .slice p.b p.ys.length p.cb, .slice p.t p.ts.length p.ct] 27) = X := ⟨_, rfl⟩
  obtain ⟨Y, hY⟩ : ∃ Y, X.alloc (.cells #[.string ⟨#[]⟩, .bool false, .slice none 0 0, .slice none 0 0, .slice none 0 0] 27) = Y := ⟨_, rfl⟩
  have hXs : X.heap.size = w.heap.size + 1 := by subst hX; simp
  have HX : Hid (Box Y w.heap.size 27 #[.string p.s, .bool p.n, .slice p.a p.xs.length p.ca, .slice p.b p.ys.length p.cb, .slice p.t p.ts.length p.ct]) := by
    subst hY hX
    exact (Box.made w _ _).later (alloc_later _ _) (Box.made w 27 _).lt
  have HR : Hid (Box Y (w.heap.size + 1) 27 #[.string ⟨#[]⟩, .bool false, .slice none 0 0, .slice none 0 0, .slice none 0 0]) := by
    rw [← hXs]
    subst hY
    exact Box.made X _ _
  have HB : Hid (Below w.heap.size w Y) := by
    subst hY hX
    exact bt (alloc_later _ _) (alloc_later _ _)
  have HYs : Hid (w.heap.size + 1 < Y.heap.size) := HR.out.lt
  have HCH : Hid (p.good → ∀ V, Below Y.heap.size Y V → Calls Tryz.prog 62 #[.agg #[.string p.s, .bool p.n, .slice p.a p.xs.length p.ca, .slice p.b p.ys.length p.cb, .slice p.t p.ts.length p.ct], .func (.func 14) #[] #[]] V fun e w' => ∃ (q : PL) (c : Int), e = .returned (.tuple #[.agg #[.string q.s, .bool q.n, .slice q.a q.xs.length q.ca, .slice q.b q.ys.length q.cb, .slice q.t q.ts.length q.ct], .int .i64 c]) ∧ ChT p (fun j => CjT (tT p.ts j).v) q c V w') := fun hg V hV => by
    have hpV := hp.later (bt HB.out hV)
    exact pchanged_any 14 #[] p V hpV hg.few (enters_of Tryz.func14 (by kernel_rfl) rfl) _ (fun j U hj hU => pConjC_any (tT p.ts j) U ((hpV.ts.later hU).1 _ (tT_mem hj)) (hg.at_ hj))
  have HC1 := hid (plcheck_any p Y (hp.later HB.out))
  have HG : Hid (∀ z, PChk p.hd p.ts 0 z → p.good) := fun z h => h.good.1
  have k0 : Y.cell? ⟨w.heap.size, 0, none⟩ = some (.string p.s) := HX.out.cell 0
  have k1 : Y.cell? ⟨w.heap.size, 1, none⟩ = some (.bool p.n) := HX.out.cell 1
  have k2 : Y.cell? ⟨w.heap.size, 2, none⟩ = some (.slice p.a p.xs.length p.ca) := HX.out.cell 2
  have k3 : Y.cell? ⟨w.heap.size, 3, none⟩ = some (.slice p.b p.ys.length p.cb) := HX.out.cell 3
  have k4 : Y.cell? ⟨w.heap.size, 4, none⟩ = some (.slice p.t p.ts.length p.ct) := HX.out.cell 4
  unfold PL.cells
  clear hp
  go_enter Tryz.func31, Tryz.ntmps31
  go_wp2_with fail
  refine Calls.mono HC1.out ?_
  rintro e w1 ⟨c, z, rfl, hc, b1⟩
  have HX1 := hid (HX.out.later b1 HX.out.lt)
  have HR1 := hid (HR.out.later b1 HR.out.lt)
  
  obtain ⟨W2, hW2⟩ : ∃ W2, w1.alloc (.cells #[.int .i64 0, .int .i64 0] 40) = W2 := ⟨_, rfl⟩
  have HF : Hid (Box W2 w1.heap.size 40 #[.int .i64 0, .int .i64 0]) := by
    subst hW2
    exact Box.made w1 _ _
  have HB2 : Hid (Below w1.heap.size w1 W2) := by
    subst hW2
    exact alloc_later _ _
  have hs1 : Y.heap.size ≤ w1.heap.size := b1.size
  obtain ⟨A0, A1, q0, q1, ⟨r0, r1⟩, ⟨v0, v1⟩, HA⟩ := rchain2 HF.out (by decide) (.int .i64 c) (.int .i64 z)
  have hy := HYs.out
  have HYA : Hid (Below Y.heap.size Y A1) := HA.out.2.2.2.1 _ _ hs1 (bt b1 HB2.out)
  have HXA := hid (HA.out.2.1 _ _ _ (show w.heap.size ≠ w1.heap.size by omega) (HX1.out.later HB2.out HX1.out.lt))
  have HRA := hid (HA.out.2.1 _ _ _ (show w.heap.size + 1 ≠ w1.heap.size by omega) (HR1.out.later HB2.out HR1.out.lt))
  
  have HBA := hid (bt HB.out HYA.out)
  have y0 : A1.cell? ⟨w1.heap.size, 0, none⟩ = some (.int .i64 c) := HA.out.1.cell 0
  have HCK := hid hc
  clear b1 HC1 k0 k1 k2 k3 k4 HX1 HR1 HF HB2 HX HR hc hX hY
  by_cases hc0 : c = 0
  · subst hc0
    have hG := HG.out _ HCK.out
    have k0 : A1.cell? ⟨w.heap.size, 0, none⟩ = some (.string p.s) := HXA.out.cell 0
    have k1 : A1.cell? ⟨w.heap.size, 1, none⟩ = some (.bool p.n) := HXA.out.cell 1
    have k2 : A1.cell? ⟨w.heap.size, 2, none⟩ = some (.slice p.a p.xs.length p.ca) := HXA.out.cell 2
    have k3 : A1.cell? ⟨w.heap.size, 3, none⟩ = some (.slice p.b p.ys.length p.cb) := HXA.out.cell 3
    have k4 : A1.cell? ⟨w.heap.size, 4, none⟩ = some (.slice p.t p.ts.length p.ct) := HXA.out.cell 4
    have HGG := hid hG
    go_wp2_with fail
    refine Calls.mono (HCH.out hG A1 HYA.out) ?_
    rintro e w5 ⟨q, c5, rfl, hch⟩
    have hm : ∃ v, Made q v A1 w5 := by
      rcases hch with ⟨_, _, _, _, _, _, h⟩ | ⟨_, _, _, _, h⟩
      · exact ⟨_, h⟩
      · exact ⟨_, h⟩
    obtain ⟨v5, hm⟩ := hm
    have HR5 := hid (HRA.out.later hm.bel HRA.out.lt)
    obtain ⟨A2, A3, A4, A5, A6, q0, q1, q2, q3, q4, ⟨r0, r1, r2, r3, r4⟩, ⟨f0, f1, f2, f3, f4⟩, HA⟩ := pchain5 HR5.out (.string q.s) (.bool q.n) (.slice q.a q.xs.length q.ca) (.slice q.b q.ys.length q.cb) (.slice q.t q.ts.length q.ct)
    have HD : Hid (CnT p q c5 w A6) := by
      rcases hch with ⟨i, v, hi, _, hr, hn, h⟩ | ⟨h0, vs, h1, h2, h⟩
      · exact absurd hr.1 hn
      · exact .inr ⟨HGG.out, h0, vs, h1, (fun j v hj => h2 j v hj), h.put HBA.out (Nat.le_succ _) HA.out⟩
    have HE := hid HA.out.1
    clear hm hch HCH HG HXA HRA HYA HBA k0 k1 k2 k3 k4 HA HR5
    go_wp2_with fail
    exact bodyPost_ret (pres_run (by rfl) HE.out _ rfl) rfl ⟨q, c5, rfl, HD.out⟩
  · have h0' : (c == 0) = false := by simp [hc0]
    have h0'' : (c != 0) = true := by simp [hc0]
    obtain ⟨⟨s0, s1, s2, s3, s4⟩, ⟨x0, x1, x2, x3, x4⟩, ⟨u0, u1, u2, u3, u4⟩⟩ := pzero5 HRA.out
    clear HCH HG HXA HYA
    go_wp2_with fail
    go_region_held3 (fun V : World => V.cell? ⟨w1.heap.size, 0, none⟩ = some (.int .i64 c)) (first | exact y0 | go_keep) (fail)
    all_goals
      have HCN := hid hc0
      clear hc0
      go_wp2_with fail
      exact bodyPost_ret (pres_run (by rfl) (HRA.out.drewN 1) _ rfl) rfl ⟨PL.zero, c, rfl, .inl ⟨z, HCK.out, HCN.out, Made.none HBA.out.drew⟩⟩
def MoT (p : PL) (n : Int) (q : PL) (c : Int) (w w' : World) : Prop := (∃ z, PChk p.hd p.ts c z ∧ c ≠ 0 ∧ Made q PV.zero w w') ∨ (p.good ∧ ((¬ (-1024 ≤ n ∧ n ≤ 1024) ∧ c = 2 ∧ Made q PV.zero w w') ∨ ((-1024 ≤ n ∧ n ≤ 1024) ∧ ((∃ i, i < p.ts.length ∧ mlong (tT p.ts i).v.q1 (tT p.ts i).v.q2 (oP (tT p.ts i).f (tT p.ts i).r n).1 (oP (tT p.ts i).f (tT p.ts i).r n).2 ∧ c = 3 ∧ Made q PV.zero w w') ∨ (c = 0 ∧ ∃ vs : List TV, vs.length = p.ts.length ∧ (∀ j v, vs[j]? = some v → MvT n (tT p.ts j).v v 0) ∧ Made q ⟨p.s, p.n, p.xs, p.ys, vs⟩ w w')))))
set_option maxHeartbeats 3200000 in
set_option maxRecDepth 100000 in
theorem pMoved_any (p : PL) (n : Int) (w : World) (hp : p.ok w) : Calls Tryz.prog 17 #[.agg p.cells, .int .i64 n] w fun e w' => ∃ (q : PL) (c : Int), e = .returned (.tuple #[.agg q.cells, .int .i64 c]) ∧ MoT p n q c w w' := by
  obtain ⟨X, hX⟩ : ∃ X, w.alloc (.cells #[.string p.s, .bool p.n, .slice p.a p.xs.length p.ca, .slice p.b p.ys.length p.cb, .slice p.t p.ts.length p.ct] 27) = X := ⟨_, rfl⟩
  obtain ⟨X2, hX2⟩ : ∃ X2, X.alloc (.cells #[.int .i64 n] 3) = X2 := ⟨_, rfl⟩
  obtain ⟨Y, hY⟩ : ∃ Y, X2.alloc (.cells #[.string ⟨#[]⟩, .bool false, .slice none 0 0, .slice none 0 0, .slice none 0 0] 27) = Y := ⟨_, rfl⟩
  have hXs : X.heap.size = w.heap.size + 1 := by subst hX; simp
  have hXs2 : X2.heap.size = w.heap.size + 1 + 1 := by subst hX2; simp [hXs]
  have HX : Hid (Box Y w.heap.size 27 #[.string p.s, .bool p.n, .slice p.a p.xs.length p.ca, .slice p.b p.ys.length p.cb, .slice p.t p.ts.length p.ct]) := by
    subst hY hX2 hX
    exact (Box.made w _ _).later (bt (alloc_later _ _) (alloc_later _ _)) (Box.made w 27 _).lt
  have HI : Hid (Box Y (w.heap.size + 1) 3 #[.int .i64 n]) := by
    rw [← hXs]
    subst hY hX2
    exact (Box.made X _ _).later (alloc_later _ _) (Box.made X 3 _).lt
  have HR : Hid (Box Y (w.heap.size + 1 + 1) 27 #[.string ⟨#[]⟩, .bool false, .slice none 0 0, .slice none 0 0, .slice none 0 0]) := by
    rw [← hXs2]
    subst hY
    exact Box.made X2 _ _
  have HB : Hid (Below w.heap.size w Y) := by
    subst hY hX2 hX
    exact bt (alloc_later _ _) (bt (alloc_later _ _) (alloc_later _ _))
  have HYs : Hid (w.heap.size + 1 + 1 < Y.heap.size) := HR.out.lt
  have HCH : Hid (p.good → -1024 ≤ n → n ≤ 1024 → ∀ V, Below Y.heap.size Y V → Box V (w.heap.size + 1) 3 #[.int .i64 n] → Calls Tryz.prog 62 #[.agg #[.string p.s, .bool p.n, .slice p.a p.xs.length p.ca, .slice p.b p.ys.length p.cb, .slice p.t p.ts.length p.ct], .func (.func 63) #[] #[.pointer (some ⟨w.heap.size + 1, 0, none⟩)]] V fun e w' => ∃ (q : PL) (c : Int), e = .returned (.tuple #[.agg #[.string q.s, .bool q.n, .slice q.a q.xs.length q.ca, .slice q.b q.ys.length q.cb, .slice q.t q.ts.length q.ct], .int .i64 c]) ∧ ChT p (fun j => MvT n (tT p.ts j).v) q c V w') := fun hg n0 n1 V hV hbx => by
    have hpV := hp.later (bt HB.out hV)
    exact pchanged_any 63 #[.pointer (some ⟨w.heap.size + 1, 0, none⟩)] p V hpV hg.few (enters_of Tryz.func63 (by kernel_rfl) rfl) _ (fun j U hj hU => pMovedC_any (tT p.ts j) n (w.heap.size + 1) U ((hpV.ts.later hU).1 _ (tT_mem hj)) (hg.at_ hj) n0 n1 (hbx.later hU hbx.lt))
  have HC1 := hid (plcheck_any p Y (hp.later HB.out))
  have HG : Hid (∀ z, PChk p.hd p.ts 0 z → p.good) := fun z h => h.good.1
  have k0 : Y.cell? ⟨w.heap.size, 0, none⟩ = some (.string p.s) := HX.out.cell 0
  have k1 : Y.cell? ⟨w.heap.size, 1, none⟩ = some (.bool p.n) := HX.out.cell 1
  have k2 : Y.cell? ⟨w.heap.size, 2, none⟩ = some (.slice p.a p.xs.length p.ca) := HX.out.cell 2
  have k3 : Y.cell? ⟨w.heap.size, 3, none⟩ = some (.slice p.b p.ys.length p.cb) := HX.out.cell 3
  have k4 : Y.cell? ⟨w.heap.size, 4, none⟩ = some (.slice p.t p.ts.length p.ct) := HX.out.cell 4
  unfold PL.cells
  clear hp
  go_enter Tryz.func17, Tryz.ntmps17
  go_wp2_with fail
  refine Calls.mono HC1.out ?_
  rintro e w1 ⟨c, z, rfl, hc, b1⟩
  have HX1 := hid (HX.out.later b1 HX.out.lt)
  have HR1 := hid (HR.out.later b1 HR.out.lt)
  have HI1 := hid (HI.out.later b1 HI.out.lt)
  obtain ⟨W2, hW2⟩ : ∃ W2, w1.alloc (.cells #[.int .i64 0, .int .i64 0] 40) = W2 := ⟨_, rfl⟩
  have HF : Hid (Box W2 w1.heap.size 40 #[.int .i64 0, .int .i64 0]) := by
    subst hW2
    exact Box.made w1 _ _
  have HB2 : Hid (Below w1.heap.size w1 W2) := by
    subst hW2
    exact alloc_later _ _
  have hs1 : Y.heap.size ≤ w1.heap.size := b1.size
  obtain ⟨A0, A1, q0, q1, ⟨r0, r1⟩, ⟨v0, v1⟩, HA⟩ := rchain2 HF.out (by decide) (.int .i64 c) (.int .i64 z)
  have hy := HYs.out
  have HYA : Hid (Below Y.heap.size Y A1) := HA.out.2.2.2.1 _ _ hs1 (bt b1 HB2.out)
  have HXA := hid (HA.out.2.1 _ _ _ (show w.heap.size ≠ w1.heap.size by omega) (HX1.out.later HB2.out HX1.out.lt))
  have HRA := hid (HA.out.2.1 _ _ _ (show w.heap.size + 1 + 1 ≠ w1.heap.size by omega) (HR1.out.later HB2.out HR1.out.lt))
  have HIA := hid (HA.out.2.1 _ _ _ (show w.heap.size + 1 ≠ w1.heap.size by omega) (HI1.out.later HB2.out HI1.out.lt))
  have HBA := hid (bt HB.out HYA.out)
  have y0 : A1.cell? ⟨w1.heap.size, 0, none⟩ = some (.int .i64 c) := HA.out.1.cell 0
  have HCK := hid hc
  clear b1 HC1 k0 k1 k2 k3 k4 HX1 HR1 HF HB2 HX HR hc HI HI1
  by_cases hc0 : c = 0
  · subst hc0
    have hG := HG.out _ HCK.out
    have HGG := hid hG
    have kn : A1.cell? ⟨w.heap.size + 1, 0, none⟩ = some (.int .i64 n) := HIA.out.cell 0
    by_cases hn : -1024 ≤ n ∧ n ≤ 1024
    · obtain ⟨n0, n1⟩ := hn
      have HN := hid (And.intro n0 n1)
      have n0' : ¬ n < -1024 := by omega
      have n1' : ¬ n > 1024 := by omega
      have n2' : ¬ 1024 < n := by omega
      have k0 : A1.cell? ⟨w.heap.size, 0, none⟩ = some (.string p.s) := HXA.out.cell 0
      have k1 : A1.cell? ⟨w.heap.size, 1, none⟩ = some (.bool p.n) := HXA.out.cell 1
      have k2 : A1.cell? ⟨w.heap.size, 2, none⟩ = some (.slice p.a p.xs.length p.ca) := HXA.out.cell 2
      have k3 : A1.cell? ⟨w.heap.size, 3, none⟩ = some (.slice p.b p.ys.length p.cb) := HXA.out.cell 3
      have k4 : A1.cell? ⟨w.heap.size, 4, none⟩ = some (.slice p.t p.ts.length p.ct) := HXA.out.cell 4
      have hcall := HCH.out hG n0 n1 A1 HYA.out HIA.out
      clear n0 n1
      go_wp2_with fail
      refine Calls.mono hcall ?_
      rintro e w5 ⟨q, c5, rfl, hch⟩
      have hm : ∃ v, Made q v A1 w5 := by
        rcases hch with ⟨_, _, _, _, _, _, h⟩ | ⟨_, _, _, _, h⟩
        · exact ⟨_, h⟩
        · exact ⟨_, h⟩
      obtain ⟨v5, hm⟩ := hm
      have HR5 := hid (HRA.out.later hm.bel HRA.out.lt)
      obtain ⟨A2, A3, A4, A5, A6, q0, q1, q2, q3, q4, ⟨r0, r1, r2, r3, r4⟩, ⟨f0, f1, f2, f3, f4⟩, HA⟩ := pchain5 HR5.out (.string q.s) (.bool q.n) (.slice q.a q.xs.length q.ca) (.slice q.b q.ys.length q.cb) (.slice q.t q.ts.length q.ct)
      have HD : Hid (MoT p n q c5 w A6) := by
        rcases hch with ⟨i, v, hi, _, hr, hn, h⟩ | ⟨h0, vs, h1, h2, h⟩
        · rcases hr with ⟨hl, hc3⟩ | ⟨_, hc3, _⟩
          · exact .inr ⟨HGG.out, .inr ⟨HN.out, .inl ⟨i, hi, hl, hc3, h.put HBA.out (by omega) HA.out⟩⟩⟩
          · exact absurd hc3 hn
        · exact .inr ⟨HGG.out, .inr ⟨HN.out, .inr ⟨h0, vs, h1, (fun j v hj => h2 j v hj), h.put HBA.out (by omega) HA.out⟩⟩⟩
      have HE := hid HA.out.1
      clear hm hch HCH HG HXA HRA HYA HBA k0 k1 k2 k3 k4 HA HR5 hcall
      go_wp2_with fail
      exact bodyPost_ret (pres_run (by rfl) HE.out _ rfl) rfl ⟨q, c5, rfl, HD.out⟩
    · have HN := hid hn
      obtain ⟨⟨s0, s1, s2, s3, s4⟩, ⟨x0, x1, x2, x3, x4⟩, ⟨u0, u1, u2, u3, u4⟩⟩ := pzero5 HRA.out
      clear HCH HG HXA HYA
      by_cases hn0 : n < -1024
      · clear hn
        go_wp2_with fail
        exact bodyPost_ret (pres_run (by rfl) HRA.out _ rfl) rfl ⟨PL.zero, 2, rfl, .inr ⟨HGG.out, .inl ⟨HN.out, rfl, Made.none HBA.out⟩⟩⟩
      · have hn1 : 1024 < n := by omega
        clear hn
        go_wp2_with fail
        exact bodyPost_ret (pres_run (by rfl) HRA.out _ rfl) rfl ⟨PL.zero, 2, rfl, .inr ⟨HGG.out, .inl ⟨HN.out, rfl, Made.none HBA.out⟩⟩⟩
  · have h0' : (c == 0) = false := by simp [hc0]
    have h0'' : (c != 0) = true := by simp [hc0]
    obtain ⟨⟨s0, s1, s2, s3, s4⟩, ⟨x0, x1, x2, x3, x4⟩, ⟨u0, u1, u2, u3, u4⟩⟩ := pzero5 HRA.out
    clear HCH HG HXA HYA
    go_wp2_with fail
    go_region_held3 (fun V : World => V.cell? ⟨w1.heap.size, 0, none⟩ = some (.int .i64 c)) (first | exact y0 | go_keep) (fail)
    all_goals
      have HCN := hid hc0
      clear hc0
      go_wp2_with fail
      exact bodyPost_ret (pres_run (by rfl) (HRA.out.drewN 1) _ rfl) rfl ⟨PL.zero, c, rfl, .inl ⟨z, HCK.out, HCN.out, Made.none HBA.out.drew⟩⟩
end Go.Proofs.YtnfemheabikolaaGreatDoor

/- slices.Delete of one constituent out of a row of one's own. -/
namespace Go.Proofs.YtnfemheabikolaaGreatDoor
open Go.RowKit
set_option linter.unusedVariables false
set_option linter.unusedSimpArgs false

theorem own_setCells {base e s g n cap : Nat} : ∀ (us : List Value) (o : Nat) (w : World) (xs : List Value), w.ownsRow base e s (.slice (some ⟨g, 0, none⟩) n cap) n xs → xs.length ≤ o → (w.setCells g o us).ownsRow base e s (.slice (some ⟨g, 0, none⟩) n cap) n xs ∧ w.grownBy (w.setCells g o us) (some g) ∧ (w.setCells g o us).heap.size = w.heap.size
  | [], o, w, xs, h, _ => ⟨h, ⟨rfl, rfl, rfl, Nat.le_refl _, fun _ _ _ => rfl⟩, rfl⟩
  | u :: us, o, w, xs, h, ho => by
    obtain ⟨h1, h2⟩ := h.stored o u
    rw [List.set_eq_of_length_le ho] at h1
    obtain ⟨k1, k2, k3⟩ := own_setCells us (o + 1) _ xs h1 (by omega)
    exact ⟨k1, grow_trans h2 k2, by rw [show (w.setCells g o (u :: us)) = (w.setCell ⟨g, o, none⟩ u).setCells g (o + 1) us from rfl, k3]; simp [World.setCell]⟩
theorem own_take {w : World} {base e s g n cap : Nat} {xs : List Value} (h : w.ownsRow base e s (.slice (some ⟨g, 0, none⟩) n cap) n xs) {i : Nat} (hi : i ≤ n) : w.ownsRow base e s (.slice (some ⟨g, 0, none⟩) i cap) i (xs.take (i * s)) := by
  have hl := h.1
  have hm : i * s ≤ n * s := Nat.mul_le_mul_right _ hi
  rcases h.2 with ⟨h', _⟩ | ⟨g', cap', cur, h', hb, hg, hnc, hcm, hcs, htake⟩
  · simp at h'
  · simp only [Value.slice.injEq, Option.some.injEq, Addr.mk.injEq, and_true, true_and] at h'
    obtain ⟨rfl, rfl⟩ := h'
    refine ⟨by rw [List.length_take, hl]; omega, .inr ⟨g, cap, cur, rfl, hb, hg, by omega, hcm, hcs, ?_⟩⟩
    rw [← htake, List.take_take, Nat.min_eq_left hm]
theorem own_cells {w : World} {base e s g n cap : Nat} {xs : List Value} (h : w.ownsRow base e s (.slice (some ⟨g, 0, none⟩) n cap) n xs) {j : Nat} (hj : j < cap * s) : (w.cell? ⟨g, j, none⟩).isSome = true := by
  rcases h.2 with ⟨h', _⟩ | ⟨g', cap', cur, h', hb, hg, hnc, hcm, hcs, htake⟩
  · simp at h'
  · simp only [Value.slice.injEq, Option.some.injEq, Addr.mk.injEq, and_true, true_and] at h'
    obtain ⟨rfl, rfl⟩ := h'
    have q : Box w g e cur := hg
    rw [q.cell j, Array.getElem?_eq_getElem (by omega)]
    rfl
theorem flatT_take (L : List TL) (i : Nat) : flatT (L.take i) = (flatT L).take (i * 9) := by
  induction L generalizing i with
  | nil => simp [flatT]
  | cons t L ih =>
    cases i with
    | zero => simp [flatT]
    | succ i =>
      have hs : t.cells.toList.length = 9 := rfl
      have e1 : t.cells.toList.take ((i + 1) * 9) = t.cells.toList := List.take_of_length_le (by rw [hs]; omega)
      rw [List.take_succ_cons, flatT_cons, flatT_cons, ih i, List.take_append, hs, e1, show (i + 1) * 9 - 9 = i * 9 by omega]
theorem flatT_append (L M : List TL) : flatT (L ++ M) = flatT L ++ flatT M := by unfold flatT; rw [List.flatMap_append]
theorem flatT_drop (L : List TL) (i : Nat) : flatT (L.drop i) = (flatT L).drop (i * 9) := by
  induction L generalizing i with
  | nil => simp [flatT]
  | cons t L ih =>
    cases i with
    | zero => simp [flatT]
    | succ i =>
      have hs : t.cells.toList.length = 9 := rfl
      have e1 : t.cells.toList.drop ((i + 1) * 9) = [] := List.drop_eq_nil_of_le (by rw [hs]; omega)
      rw [List.drop_succ_cons, flatT_cons, ih i, List.drop_append, hs, e1, show (i + 1) * 9 - 9 = i * 9 by omega, List.nil_append]
theorem flatT_one (L : List TL) : ∀ u ∈ flatT L, u.oneCell' = true := by
  intro u hu
  obtain ⟨t, _, ht⟩ := List.mem_flatMap.1 hu
  exact t.one u ht
theorem flatT_erase {L : List TL} {i : Nat} : flatT (L.take i) ++ flatT (L.drop (i + 1)) = flatT (L.eraseIdx i) := by rw [← flatT_append, List.eraseIdx_eq_take_drop_succ]
theorem step_append_run {P : Program} {ops : Array Oper} {o : Oper} {a : Act} {w : World} {K : Act → World → Prop} {Q : Exit → Act → World → Prop} {E : Prop}
    (hg : o.guard = none) (s x : Operand) (t : TypeId) (hop : o.op = Op.call { callee := Callee.builtin Builtin.append, args := #[s, x], argTypes := #[t, t] }) (v u v' : Value) (w' : World) (hs : a.eval s = v) (hx : a.eval x = u) (hrun : (Builtin.append_ #[t, t] o.type #[v, u]).run P w = .ok v' w') (hK : K (a.put o.dst v') w') :
    if Region.wanted o (yielded ops a.tmps) = true then Oper.wp P o a w K Q else E := by
  have hw : Region.wanted o (yielded ops a.tmps) = true := by simp [Region.wanted, hg]
  rw [if_pos hw]
  unfold Oper.wp
  simp [execOp, hop, resolve, invoke, builtin, hs, hx, hrun, Result.andThen]
  exact hK
def zT : Value := .agg #[.string ⟨#[]⟩, .int .i32 0, .int .i32 0, .bool false, .slice none 0 0, .slice none 0 0, .bool false, .slice none 0 0, .slice none 0 0]
def zTs : List Value := [.string ⟨#[]⟩, .int .i32 0, .int .i32 0, .bool false, .slice none 0 0, .slice none 0 0, .bool false, .slice none 0 0, .slice none 0 0]
theorem run_clear_tide (w : World) (ty b o c : Nat) (hc : ∀ j, j < 9 → (w.cell? ⟨b, o + j, none⟩).isSome = true) (hf : ∀ j, j < 9 → w.frozen? ⟨b, o + j, none⟩ = false) :
    (Builtin.clear_ #[25] ty #[.slice (some ⟨b, o, none⟩) 1 c]).run Tryz.prog w = .ok (.tuple #[]) (w.setCells b o zTs) := by
  have hzc : (Builtin.zeroCells zT.cells 1).toList = zTs := by kernel_rfl
  have hv : ∀ w, (zeroValue 37).run Tryz.prog w = .ok zT w := fun w => Tryz.zeroValue37 w
  have hst := run_storeCells_cells (P := Tryz.prog) b o zTs 0 w (fun j hj => hc j hj) (fun j hj => hf j hj) (by intro v hv'; simp only [zTs, List.mem_cons, List.not_mem_nil, or_false] at hv'; rcases hv' with rfl | rfl | rfl | rfl | rfl | rfl | rfl | rfl | rfl <;> rfl)
  simp only [Nat.add_zero] at hst
  simp [Builtin.clear_, run_underlying Tryz.underlying25, hv, hzc, hst]
set_option maxHeartbeats 3200000 in
set_option maxRecDepth 100000 in
theorem pDelete_any (W : World) (base : Nat) (a : Option Addr) (ct : Nat) (L : List TL) (i : Nat) (hi : i < L.length) (hl : L.length ≤ 1000000) (h : W.ownsRow base 37 9 (.slice a L.length ct) L.length (flatT L)) :
    Calls Tryz.prog 61 #[.slice a L.length ct, .int .i64 (i : Int), .int .i64 ((i : Int) + 1)] W fun e W' => e = .returned (.slice a (L.eraseIdx i).length ct) ∧ W'.ownsRow base 37 9 (.slice a (L.eraseIdx i).length ct) (L.eraseIdx i).length (flatT (L.eraseIdx i)) ∧ W.grownBy W' (Value.slice a L.length ct).ownBlock := by
  obtain ⟨i0, hi0, hz0, hz1, hz2⟩ := info_parts Tryz.infoT
  obtain ⟨l1, l2, l3⟩ := len_own h
  have hne : (L.eraseIdx i).length = L.length - 1 := by rw [List.length_eraseIdx]; simp [hi]
  obtain ⟨g, rfl⟩ : ∃ g, a = some ⟨g, 0, none⟩ := by
    rcases h.2 with ⟨h1, h0⟩ | ⟨g, cap, cur, hv, _⟩
    · omega
    · injection hv with e1 _ _
      exact ⟨g, e1⟩
  have h : W.drew.ownsRow base 37 9 (.slice (some ⟨g, 0, none⟩) L.length ct) L.length (flatT L) := h.drew
  have hp := own_take h (i := i) (by omega)
  rw [← flatT_take] at hp
  obtain ⟨AD, hAD, hcA⟩ : ∃ AD : Addr, (if ct = i + 1 then some (⟨g, 0, none⟩ : Addr) else some ⟨g, (i + 1) * 9, none⟩) = some AD ∧ ∀ (j : Nat) (u : Value), (flatT (L.drop (i + 1)))[j]? = some u → W.drew.cell? (AD.add j) = some u := by
    by_cases hc : ct = i + 1
    · refine ⟨⟨g, 0, none⟩, if_pos hc, fun j u hj => ?_⟩
      have hj' : j < (flatT (L.drop (i + 1))).length := (List.getElem?_eq_some_iff.1 hj).1
      rw [flatT_len, List.length_drop] at hj'
      omega
    · refine ⟨⟨g, (i + 1) * 9, none⟩, if_neg hc, fun j u hj => ?_⟩
      have hj' : j < (flatT (L.drop (i + 1))).length := (List.getElem?_eq_some_iff.1 hj).1
      rw [flatT_len, List.length_drop] at hj'
      rw [flatT_drop, List.getElem?_drop] at hj
      rw [← hj, ← h.cellAt ((i + 1) * 9 + j) (by omega)]
      simp only [Addr.add]; split <;> simp_all
  obtain ⟨W1, hrun, ho1, hg1⟩ := run_append_fits W.drew base 25 25 37 i0 9 Tryz.underlying25 hi0 hz1 g i ct (flatT (L.take i)) hp AD (L.length - (i + 1)) (ct - (i + 1)) (flatT (L.drop (i + 1))) (by rw [flatT_len, List.length_drop]) hcA (flatT_one _) (by omega)
  rw [flatT_erase] at ho1
  have hn1 : i + (L.length - (i + 1)) = (L.eraseIdx i).length := by omega
  rw [hn1] at ho1 hrun
  have hct : (L.eraseIdx i).length * 9 + 9 ≤ ct * 9 := by omega
  have hcl := run_clear_tide W1 0 g ((L.eraseIdx i).length * 9) (ct - (L.eraseIdx i).length) (fun j hj => own_cells ho1 (by omega)) (fun j hj => ho1.frozenAt _)
  obtain ⟨k1, k2, k3⟩ := own_setCells zTs ((L.eraseIdx i).length * 9) W1 _ ho1 (Nat.le_of_eq (flatT_len _))
  have HK : Hid ((W1.setCells g ((L.eraseIdx i).length * 9) zTs).ownsRow base 37 9 (.slice (some ⟨g, 0, none⟩) (L.eraseIdx i).length ct) (L.eraseIdx i).length (flatT (L.eraseIdx i)) ∧ W.drew.grownBy (W1.setCells g ((L.eraseIdx i).length * 9) zTs) (some g)) := ⟨k1, grow_trans hg1 k2⟩
  generalize W1.setCells g ((L.eraseIdx i).length * 9) zTs = W2 at *
  clear h hp ho1 hg1 k1 k2 k3
  generalize hM : (L.eraseIdx i).length = M at *
  generalize hN : L.length = N at *
  obtain rfl : N = M + 1 := by omega
  clear hne hn1 hct
  rw [show M + 1 - (i + 1) = M - i by omega] at hrun
  have b0 : (0 : Int) ≤ (i : Int) := by omega
  have b1 : (i : Int) ≤ (i : Int) + 1 := by omega
  have b2 : (i : Int) + 1 ≤ (M : Int) + 1 := by omega
  have b3 : (M : Int) + 1 ≤ (ct : Int) := by omega
  have b4 : ¬ ((i : Int) = (i : Int) + 1) := by omega
  have b5 : (i : Int) ≤ (ct : Int) := by omega
  have b6 : (0 : Int) ≤ (i : Int) + 1 := by omega
  have b7 : ((i : Int) + 1).toNat = i + 1 := by omega
  have b8 : (i : Int) + 1 ≤ (ct : Int) := by omega
  have b9 : ¬ ct = M := by omega
  have b10 : (M : Int) ≤ (M : Int) + 1 := by omega
  have b11 : (0 : Int) ≤ (M : Int) := by omega
  have b12 : (((M : Int) + 1).toNat) = M + 1 := by omega
  go_enter Tryz.func61, Tryz.ntmps61
  go_wp2_with fail
  go_region_held3 (fun _ : World => True) (exact trivial) (first | (refine step_append_run rfl (.tmp 22) (.tmp 25) 25 rfl (.slice (some ⟨g, 0, none⟩) i ct) (.slice (some AD) (M - i) (ct - (i + 1))) _ _ rfl rfl hrun ?_))
  clear hrun
  go_wp2_with fail
  go_ret
  have hk := HK.out
  exact ⟨rfl, hk.1, ⟨hk.2.os, hk.2.tape, hk.2.output, hk.2.size, hk.2.block⟩⟩
end Go.Proofs.YtnfemheabikolaaGreatDoor

/- package port: Without, of every port and name. -/
namespace Go.Proofs.YtnfemheabikolaaGreatDoor
open Go.RowKit
set_option linter.unusedVariables false
set_option linter.unusedSimpArgs false

theorem CpI.put {p : PV} {w : World} {B : Nat} {a1 : Option Addr} {c1 : Nat} {a2 : Option Addr} {c2 : Nat} {L E M E' : List TL} {a a' : Option Addr} {ct ct' : Nat} {W W' : World} (h : CpI p w B a1 c1 a2 c2 L E a ct W) (o : W'.ownsRow w.heap.size 37 9 (.slice a' M.length ct') M.length (flatT M)) (hg : W.grownBy W' (Value.slice a L.length ct).ownBlock) (hm : ∀ t ∈ E', t ∈ E) (hs' : ∀ d, TSq d W.heap.size E → TSq d W.heap.size E') :
    Hid (Box W' B 27 #[.string p.s, .bool p.n, .slice a1 p.xs.length c1, .slice a2 p.ys.length c2, .slice a L.length ct]) ∧ ∃ Z, W'.setCell ⟨B, 4, none⟩ (.slice a' M.length ct') = Z ∧ Hid (CpI p w B a1 c1 a2 c2 M E' a' ct' Z ∧ ∀ b t vs, b ≠ B → Box W b t vs → t ≠ 37 ∨ (∀ g, (Value.slice a L.length ct).ownBlock = some g → g ≠ b) → Box Z b t vs) := by
  have hB : Box W' B 27 #[.string p.s, .bool p.n, .slice a1 p.xs.length c1, .slice a2 p.ys.length c2, .slice a L.length ct] := qbox_gby h.box hg (fun e => qown_box h.row h.box (by decide) B e rfl)
  refine ⟨hB, ?_⟩
  have hs : W'.heap.size = (W'.setCell ⟨B, 4, none⟩ (.slice a' M.length ct')).heap.size := by simp [World.setCell]
  obtain ⟨c, d, h1, h2, h3, h4, h5⟩ := h.sq
  refine ⟨_, rfl, ⟨?_, ?_, ?_, ?_, fun t ht => ?_, ⟨c, d, h1, h2, h3, h4, (hs' d h5).wide (Nat.le_refl _) (by rw [← hs]; exact hg.size)⟩, ?_, h.low⟩, ?_⟩
  · exact hB.set 4 _
  · have q := h.mx.kept hg (qown_unlike h.mx h.row (by decide))
    exact qown_put q B (qown_box q hB (by decide)) 4 _
  · have q := h.my.kept hg (qown_unlike h.my h.row (by decide))
    exact qown_put q B (qown_box q hB (by decide)) 4 _
  · exact qown_put o B (qown_box o hB (by decide)) 4 _
  · exact TL.Ow_put (TL.Ow_kept (h.els t (hm t ht)) h.row (by decide) hg) hB (by decide) 4 _
  · have q : Below w.heap.size w W' := h.bel.grown hg h.bel.size (fun g e => (h.row.lt g e).1)
    exact q.setCell (p := ⟨B, 4, none⟩) (by have := h.low; show w.heap.size ≤ B; omega) _
  · intro b t vs hne hb ht
    have q : Box W' b t vs := qbox_gby hb hg (fun e => by
      rcases ht with ht | ht
      · exact qown_box h.row hb (fun e2 => ht e2.symm) b e rfl
      · exact ht b e rfl)
    exact q.other ⟨B, 4, none⟩ _ hne
theorem eraseIdx_map {α β : Type} (f : α → β) : ∀ (l : List α) (i : Nat), (l.eraseIdx i).map f = (l.map f).eraseIdx i
  | [], _ => rfl
  | _ :: _, 0 => rfl
  | x :: l, i + 1 => by rw [List.eraseIdx_cons_succ, List.map_cons, List.map_cons, List.eraseIdx_cons_succ, eraseIdx_map f l i]
def PL.nmB (p : PL) (k : ByteArray) (j : Nat) : Bool := (tT p.ts j).s.toList == k.toList
def PV.less (p : PV) (i : Nat) : PV := ⟨p.s, p.n, p.xs, p.ys, p.ts.eraseIdx i⟩
def WoT (p : PL) (k : ByteArray) (q : PL) (c : Int) (w w' : World) : Prop := (∃ z, PChk p.hd p.ts c z ∧ c ≠ 0 ∧ Made q PV.zero w w') ∨ (p.good ∧ ((FstI (p.nmB k) p.ts.length (-1) ∧ c = 6 ∧ Made q PV.zero w w') ∨ ∃ i : Nat, FstI (p.nmB k) p.ts.length i ∧ i < p.ts.length ∧ c = 0 ∧ Made q (p.v.less i) w w'))
set_option maxHeartbeats 6400000 in
set_option maxRecDepth 100000 in
theorem pWithout_any (p : PL) (k : ByteArray) (w : World) (hp : p.ok w) : Calls Tryz.prog 16 #[.agg p.cells, .string k] w fun e w' => ∃ (q : PL) (c : Int), e = .returned (.tuple #[.agg q.cells, .int .i64 c]) ∧ WoT p k q c w w' := by
  obtain ⟨X, hX⟩ : ∃ X, w.alloc (.cells p.cells 27) = X := ⟨_, rfl⟩
  obtain ⟨Y, hY⟩ : ∃ Y, X.alloc (.cells #[.string ⟨#[]⟩, .bool false, .slice none 0 0, .slice none 0 0, .slice none 0 0] 27) = Y := ⟨_, rfl⟩
  have hXs : X.heap.size = w.heap.size + 1 := by subst hX; simp
  have HX : Hid (Box Y w.heap.size 27 p.cells) := by
    subst hY hX
    exact (Box.made w _ _).later (alloc_later _ _) (Box.made w 27 _).lt
  have HR : Hid (Box Y (w.heap.size + 1) 27 #[.string ⟨#[]⟩, .bool false, .slice none 0 0, .slice none 0 0, .slice none 0 0]) := by
    rw [← hXs]
    subst hY
    exact Box.made X _ _
  have HB : Hid (Below w.heap.size w Y) := by
    subst hY hX
    exact bt (alloc_later _ _) (alloc_later _ _)
  have HYs : Hid (w.heap.size + 1 < Y.heap.size) := HR.out.lt
  have HC1 := hid (plcheck_any p Y (hp.later HB.out))
  have HC3 : Hid (p.good → ∀ V, Below Y.heap.size Y V → Calls Tryz.prog 13 #[.agg p.cells, .string k] V fun e w' => ∃ z : Int, e = .returned (.int .i64 z) ∧ FstI (p.nmB k) p.ts.length z ∧ Below V.heap.size V w') := fun h V hV => pFind_any p.s p.n p.a p.ca p.xs p.b p.cb p.ys p.t p.ct p.ts k V (by have := h.len; omega) (hp.ts.later (bt HB.out hV))
  have HC4 : Hid (p.good → ∀ V, Below Y.heap.size Y V → Calls Tryz.prog 51 #[.agg p.cells] V fun e w' => ∃ q : PL, e = .returned (.agg #[.string q.s, .bool q.n, .slice q.a q.xs.length q.ca, .slice q.b q.ys.length q.cb, .slice q.t q.ts.length q.ct]) ∧ Made q p.v V w') := fun h V hV => pCopied_any p V (hp.later (bt HB.out hV)) h.few
  have HG : Hid (∀ z, PChk p.hd p.ts 0 z → p.good) := fun z h => h.good.1
  have HKP : Hid (∀ V, Box V w.heap.size 27 p.cells → V.cell? ⟨w.heap.size, 0, none⟩ = some (.string p.s) ∧ V.cell? ⟨w.heap.size, 1, none⟩ = some (.bool p.n) ∧ V.cell? ⟨w.heap.size, 2, none⟩ = some (.slice p.a p.xs.length p.ca) ∧ V.cell? ⟨w.heap.size, 3, none⟩ = some (.slice p.b p.ys.length p.cb) ∧ V.cell? ⟨w.heap.size, 4, none⟩ = some (.slice p.t p.ts.length p.ct)) := fun V h => ⟨h.cell 0, h.cell 1, h.cell 2, h.cell 3, h.cell 4⟩
  clear hp
  obtain ⟨k0, k1, k2, k3, k4⟩ := HKP.out _ HX.out
  go_enter Tryz.func16, Tryz.ntmps16
  go_wp2_with fail
  refine Calls.mono HC1.out ?_
  rintro e w1 ⟨c, z, rfl, hc, b1⟩
  have HX1 := hid (HX.out.later b1 HX.out.lt)
  have HR1 := hid (HR.out.later b1 HR.out.lt)
  obtain ⟨W2, hW2⟩ : ∃ W2, w1.alloc (.cells #[.int .i64 0, .int .i64 0] 40) = W2 := ⟨_, rfl⟩
  have HF : Hid (Box W2 w1.heap.size 40 #[.int .i64 0, .int .i64 0]) := by
    subst hW2
    exact Box.made w1 _ _
  have HB2 : Hid (Below w1.heap.size w1 W2) := by
    subst hW2
    exact alloc_later _ _
  have hs1 : Y.heap.size ≤ w1.heap.size := b1.size
  obtain ⟨A0, A1, q0, q1, ⟨r0, r1⟩, ⟨v0, v1⟩, HA⟩ := rchain2 HF.out (by decide) (.int .i64 c) (.int .i64 z)
  have hy := HYs.out
  have HYA : Hid (Below Y.heap.size Y A1) := HA.out.2.2.2.1 _ _ hs1 (bt b1 HB2.out)
  have HXA := hid (HA.out.2.1 _ _ _ (show w.heap.size ≠ w1.heap.size by omega) (HX1.out.later HB2.out HX1.out.lt))
  have HRA := hid (HA.out.2.1 _ _ _ (show w.heap.size + 1 ≠ w1.heap.size by omega) (HR1.out.later HB2.out HR1.out.lt))
  have HBA := hid (bt HB.out HYA.out)
  have y0 : A1.cell? ⟨w1.heap.size, 0, none⟩ = some (.int .i64 c) := HA.out.1.cell 0
  have HCK := hid hc
  clear b1 HC1 k0 k1 k2 k3 k4 HX1 HR1 HF HB2 HX HR hc
  by_cases hc0 : c = 0
  · subst hc0
    have hG := HG.out _ HCK.out
    obtain ⟨k0, k1, k2, k3, k4⟩ := HKP.out _ HXA.out
    go_wp2_with fail
    refine Calls.mono (HC3.out hG A1 HYA.out) ?_
    rintro e w3 ⟨z3, rfl, hz3, b3⟩
    have HX3 := hid (HXA.out.later b3 HXA.out.lt)
    have HR3 := hid (HRA.out.later b3 HRA.out.lt)
    have HY3 := hid (bt HYA.out b3)
    have HB3 := hid (bt HBA.out b3)
    have HGG := hid hG
    clear b3 k0 k1 k2 k3 k4 HXA HRA HYA HBA HC3 q0 q1 r0 r1 v0 v1 y0 HA HCK hW2 hs1
    rcases hz3 with ⟨i, hi, rfl, hq, hb⟩ | ⟨rfl, hb⟩
    · have HFI : Hid (FstI (p.nmB k) p.ts.length i) := .inl ⟨i, hi, rfl, hq, hb⟩
      have hin : ¬ (i : Int) < 0 := by omega
      have hi24 : i < 24 := by have := hG.len; omega
      have hwr : IntKind.i64.wrap ((i : Int) + 1) = (i : Int) + 1 := by rw [IntKind.wrap_i64]; omega
      obtain ⟨k0, k1, k2, k3, k4⟩ := HKP.out _ HX3.out
      clear hq hb
      go_wp2_with fail
      refine Calls.mono (HC4.out hG w3 HY3.out) ?_
      rintro e w4 ⟨q, rfl, hm⟩
      have HM := hid hm
      obtain ⟨W5, hW5⟩ : ∃ W5, w4.alloc (.cells #[.string ⟨#[]⟩, .bool false, .slice none 0 0, .slice none 0 0, .slice none 0 0] 27) = W5 := ⟨_, rfl⟩
      have HQ : Hid (Box W5 w4.heap.size 27 #[.string ⟨#[]⟩, .bool false, .slice none 0 0, .slice none 0 0, .slice none 0 0]) := by
        subst hW5
        exact Box.made w4 _ _
      have HB5 : Hid (Below w4.heap.size w4 W5) := by
        subst hW5
        exact alloc_later _ _
      have HR5 := hid (HR3.out.later (bt hm.bel HB5.out) HR3.out.lt)
      have hlow : w.heap.size + 1 < w4.heap.size := by have h1 := HY3.out.size; have h2 := hm.bel.size; omega
      obtain ⟨A2, A3, A4, A5, A6, q0, q1, q2, q3, q4, ⟨r0, r1, r2, r3, r4⟩, ⟨f0, f1, f2, f3, f4⟩, HA⟩ := pchain5 HQ.out (.string q.s) (.bool q.n) (.slice q.a q.xs.length q.ca) (.slice q.b q.ys.length q.cb) (.slice q.t q.ts.length q.ct)
      have HI := hid (CpI.of_made hm HB3.out HB5.out HA.out (by omega))
      have HRB : Hid (Box A6 (w.heap.size + 1) 27 #[.string ⟨#[]⟩, .bool false, .slice none 0 0, .slice none 0 0, .slice none 0 0]) := HA.out.2.1 _ _ _ (by omega) HR5.out
      have hLQ : q.ts.length = p.ts.length := by
        have e := congrArg PV.ts hm.v
        have e2 := congrArg List.length e
        rw [show q.v.ts = q.ts.map TL.v from rfl, show p.v.ts = p.ts.map TL.v from rfl, List.length_map, List.length_map] at e2
        exact e2
      have HDL := hid (pDelete_any A6 w.heap.size q.t q.ct q.ts i (by omega) (by have := HGG.out.len; omega) HI.out.row)
      have z0 : A6.cell? ⟨w4.heap.size, 4, none⟩ = some (.slice q.t q.ts.length q.ct) := HI.out.box.cell 4
      clear hm HC4 k0 k1 k2 k3 k4 HX3 HR3 HY3 HB3 HQ HB5 HR5 HA hLQ
      go_wp2_with fail
      clear q0 q1 q2 q3 q4 r0 r1 r2 r3 r4 f0 f1 f2 f3 f4
      refine Calls.mono HDL.out ?_
      rintro e w6 ⟨rfl, o6, g6⟩
      obtain ⟨HB1, Z, hZ, HZ⟩ := HI.out.put o6 g6 (E' := q.ts.eraseIdx i) (fun t ht => List.mem_of_mem_eraseIdx ht) (fun d hd => hd.drop i)
      have z3 : w6.cell? ⟨w4.heap.size, 4, none⟩ = some (.slice q.t q.ts.length q.ct) := HB1.out.cell 4
      have z5 : w6.frozen? ⟨w4.heap.size, 4, none⟩ = false := HB1.out.free 4
      have HR4 := hid (HZ.out.2 (w.heap.size + 1) _ _ (by omega) HRB.out (.inl (by decide)))
      have hk0 : Z.cell? ⟨w4.heap.size, 0, none⟩ = some (.string q.s) := HZ.out.1.box.cell 0
      have hk1 : Z.cell? ⟨w4.heap.size, 1, none⟩ = some (.bool q.n) := HZ.out.1.box.cell 1
      have hk2 : Z.cell? ⟨w4.heap.size, 2, none⟩ = some (.slice q.a q.xs.length q.ca) := HZ.out.1.box.cell 2
      have hk3 : Z.cell? ⟨w4.heap.size, 3, none⟩ = some (.slice q.b q.ys.length q.cb) := HZ.out.1.box.cell 3
      have hk4 : Z.cell? ⟨w4.heap.size, 4, none⟩ = some (.slice q.t (q.ts.eraseIdx i).length q.ct) := HZ.out.1.box.cell 4
      obtain ⟨A2, A3, A4, A5, A6, q0, q1, q2, q3, q4, ⟨r0, r1, r2, r3, r4⟩, ⟨f0, f1, f2, f3, f4⟩, HA⟩ := pchain5 HR4.out (.string q.s) (.bool q.n) (.slice q.a q.xs.length q.ca) (.slice q.b q.ys.length q.cb) (.slice q.t (q.ts.eraseIdx i).length q.ct)
      have HD : Hid (Made ⟨q.s, q.n, q.a, q.ca, q.xs, q.b, q.cb, q.ys, q.t, q.ct, q.ts.eraseIdx i⟩ (p.v.less i) w A6) := by
        have e : p.v.less i = ⟨q.v.s, q.v.n, q.v.xs, q.v.ys, (q.ts.eraseIdx i).map TL.v⟩ := by
          rw [← HM.out.v, eraseIdx_map]
          rfl
        rw [e]
        exact CpI.done (HZ.out.1.re _) rfl (by omega) HA.out.2.2.1 HA.out.2.2.2.1 HA.out.2.2.2.2
      have HE' := hid HA.out.1
      have HIN := hid hi
      clear z0 HA HZ HR4 HI o6 g6 hi HDL HB1
      generalize q.ts.eraseIdx i = M at *
      go_wp2_with fail
      exact bodyPost_ret (pres_run (by rfl) HE'.out _ rfl) rfl ⟨⟨q.s, q.n, q.a, q.ca, q.xs, q.b, q.cb, q.ys, q.t, q.ct, M⟩, 0, rfl, .inr ⟨HGG.out, .inr ⟨i, HFI.out, HIN.out, rfl, HD.out⟩⟩⟩
    · have HFI : Hid (FstI (p.nmB k) p.ts.length (-1)) := .inr ⟨rfl, hb⟩
      obtain ⟨⟨s0, s1, s2, s3, s4⟩, ⟨x0, x1, x2, x3, x4⟩, ⟨u0, u1, u2, u3, u4⟩⟩ := pzero5 HR3.out
      clear hb HX3 HC4 HKP
      go_wp2_with fail
      exact bodyPost_ret (pres_run (by rfl) HR3.out _ rfl) rfl ⟨PL.zero, 6, rfl, .inr ⟨HGG.out, .inl ⟨HFI.out, rfl, Made.none HB3.out⟩⟩⟩
  · have h0' : (c == 0) = false := by simp [hc0]
    have h0'' : (c != 0) = true := by simp [hc0]
    obtain ⟨⟨s0, s1, s2, s3, s4⟩, ⟨x0, x1, x2, x3, x4⟩, ⟨u0, u1, u2, u3, u4⟩⟩ := pzero5 HRA.out
    clear HC3 HC4 HG HKP HXA HYA
    go_wp2_with fail
    go_region_held3 (fun V : World => V.cell? ⟨w1.heap.size, 0, none⟩ = some (.int .i64 c)) (first | exact y0 | go_keep) (fail)
    all_goals
      have HCN := hid hc0
      clear hc0
      go_wp2_with fail
      exact bodyPost_ret (pres_run (by rfl) (HRA.out.drewN 1) _ rfl) rfl ⟨PL.zero, c, rfl, .inl ⟨z, HCK.out, HCN.out, Made.none HBA.out.drew⟩⟩
end Go.Proofs.YtnfemheabikolaaGreatDoor

/- package port: slices.EqualFunc over constituents. -/
namespace Go.Proofs.YtnfemheabikolaaGreatDoor
open Go.RowKit
set_option linter.unusedVariables false
set_option linter.unusedSimpArgs false

def smB (a b : TL) : Bool := decide (a.s = b.s) && (a.f == b.f && a.r == b.r) && (decide (a.n = b.n ∧ a.xs = b.xs ∧ a.ys = b.ys) && decide (a.m = b.m ∧ a.us = b.us ∧ a.vs = b.vs))
def BoT (e : Ending) (P : Prop) : Prop := ∃ bo : Bool, e = .returned (.bool bo) ∧ (bo = true ↔ P)
def TL.short (t : TL) : Prop := t.xs.length ≤ 281474976710656 ∧ t.ys.length ≤ 281474976710656 ∧ t.us.length ≤ 281474976710656 ∧ t.vs.length ≤ 281474976710656
theorem tlsame_any (a b : TL) (w : World) (ha : a.ok w) (hb : b.ok w) (sa : a.short) (sb : b.short) : Calls Tryz.prog 85 #[.agg a.cells, .agg b.cells] w fun e w' => e = .returned (.bool (smB a b)) ∧ Below w.heap.size w w' :=
  tSame_any a.s a.f a.r a.n a.a a.ca a.xs a.b a.cb a.ys a.m a.c a.cc a.us a.d a.cd a.vs b.s b.f b.r b.n b.a b.ca b.xs b.b b.cb b.ys b.m b.c b.cc b.us b.d b.cd b.vs w ha.sx ha.sy ha.su ha.sv hb.sx hb.sy hb.su hb.sv sa.1 sa.2.1 sa.2.2.1 sa.2.2.2 sb.1 sb.2.1 sb.2.2.1 sb.2.2.2
set_option maxHeartbeats 6400000 in
set_option maxRecDepth 100000 in
theorem pequalF_any (t : Option Addr) (n ct : Nat) (ts : List TL) (u : Option Addr) (m cu : Nat) (us : List TL) (w : World) (hn : n ≤ 1000000) (hl : ts.length = n) (hm : us.length = m) (ht : RdT w t ts) (hu : RdT w u us) (st : ∀ x ∈ ts, x.short) (su : ∀ x ∈ us, x.short) :
    Calls Tryz.prog 84 #[.slice t n ct, .slice u m cu, .func (.func 85) #[] #[]] w fun e w' => BoT e (n = m ∧ ∀ j, j < n → smB (tT ts j) (tT us j) = true) ∧ Below w.heap.size w w' := by
  have HX := hid ht
  have HU := hid hu
  have HL := hid hl
  have HM := hid hm
  have HC : Hid (n = m → ∀ j V, j < n → Below w.heap.size w V → Calls Tryz.prog 85 #[.agg (tT ts j).cells, .agg (tT us j).cells] V fun e w' => e = .returned (.bool (smB (tT ts j) (tT us j))) ∧ Below V.heap.size V w') := fun e j V hj hV => by
    have h1 := tT_mem (ts := ts) (j := j) (by omega)
    have h2 := tT_mem (ts := us) (j := j) (by omega)
    exact tlsame_any _ _ V ((ht.1 _ h1).later hV) ((hu.1 _ h2).later hV) (st _ h1) (su _ h2)
  clear ht hu hl hm st su
  by_cases hnm : n = m
  · have HC2 := hid (HC.out hnm)
    clear HC
    subst hnm
    go_enter Tryz.func84, Tryz.ntmps84
    go_wp2_with fail
    go_loopw [17] (fun x wr => ∃ k : Nat, k ≤ n ∧ x = .int .i64 (k : Int) ∧ Hid (Below w.heap.size w wr) ∧ Hid (∀ j, j < k → smB (tT ts j) (tT us j) = true)) (fun x _ => n - (intOf x).toNat)
    case atStart => exact ⟨0, Nat.zero_le _, rfl, Below.refl _ _, (fun j hj => by omega : ∀ j, j < 0 → _)⟩
    case round =>
      obtain ⟨k, hk, rfl, HW, HT⟩ := hrel
      by_cases hlt : k < n
      · have hkx : k < ts.length := by have := HL.out; omega
        have hku : k < us.length := by have := HM.out; omega
        rcases HX.out.2 with h0 | ⟨bb, o, rfl, hg, hx⟩
        · rw [h0] at hkx; exact absurd hkx (by simp)
        rcases HU.out.2 with h0 | ⟨bu, ou, rfl, hgu, hxu⟩
        · rw [h0] at hku; exact absurd hku (by simp)
        have hci := hx k _ (tT_at hkx)
        have hcu := hxu k _ (tT_at hku)
        have HCk := hid (fun V hV => HC2.out k V hlt hV)
        have HN : Hid (smB (tT ts k) (tT us k) = true → ∀ j, j < k + 1 → smB (tT ts j) (tT us j) = true) := fun hq j hj => by
          rcases Nat.lt_or_ge j k with g1 | g1
          · exact HT.out j g1
          · obtain rfl : j = k := by omega
            exact hq
        have HF : Hid (smB (tT ts k) (tT us k) = false → ¬ (n = n ∧ ∀ j, j < n → smB (tT ts j) (tT us j) = true)) := fun hq h => by
          have := h.2 k hlt
          rw [hq] at this; cases this
        have e0 := (HW.out.cell (p := ⟨bb, o + k * 9 + 0, none⟩) hg).trans (hci 0 (by decide))
        have e1 := (HW.out.cell (p := ⟨bb, o + k * 9 + 1, none⟩) hg).trans (hci 1 (by decide))
        have e2 := (HW.out.cell (p := ⟨bb, o + k * 9 + 2, none⟩) hg).trans (hci 2 (by decide))
        have e3 := (HW.out.cell (p := ⟨bb, o + k * 9 + 3, none⟩) hg).trans (hci 3 (by decide))
        have e4 := (HW.out.cell (p := ⟨bb, o + k * 9 + 4, none⟩) hg).trans (hci 4 (by decide))
        have e5 := (HW.out.cell (p := ⟨bb, o + k * 9 + 5, none⟩) hg).trans (hci 5 (by decide))
        have e6 := (HW.out.cell (p := ⟨bb, o + k * 9 + 6, none⟩) hg).trans (hci 6 (by decide))
        have e7 := (HW.out.cell (p := ⟨bb, o + k * 9 + 7, none⟩) hg).trans (hci 7 (by decide))
        have e8 := (HW.out.cell (p := ⟨bb, o + k * 9 + 8, none⟩) hg).trans (hci 8 (by decide))
        have HCU : Hid (∀ V, Below w.heap.size w V → ∀ j, j < 9 → V.cell? ⟨bu, ou + k * 9 + j, none⟩ = (tT us k).cells[j]?) := fun V hV j hj => (hV.cell (p := ⟨bu, ou + k * 9 + j, none⟩) hgu).trans (hcu j hj)
        clear hci hx hcu hxu
        generalize smB (tT ts k) (tT us k) = sq at *
        generalize tT ts k = tt at *
        generalize tT us k = tu at *
        have c0 : wr.cell? ⟨bb, o + k * 9, none⟩ = some (.string tt.s) := e0
        have c1 : wr.cell? ⟨bb, o + k * 9 + 1, none⟩ = some (.int .i32 tt.f) := e1
        have c2 : wr.cell? ⟨bb, o + k * 9 + 2, none⟩ = some (.int .i32 tt.r) := e2
        have c3 : wr.cell? ⟨bb, o + k * 9 + 3, none⟩ = some (.bool tt.n) := e3
        have c4 : wr.cell? ⟨bb, o + k * 9 + 4, none⟩ = some (.slice tt.a tt.xs.length tt.ca) := e4
        have c5 : wr.cell? ⟨bb, o + k * 9 + 5, none⟩ = some (.slice tt.b tt.ys.length tt.cb) := e5
        have c6 : wr.cell? ⟨bb, o + k * 9 + 6, none⟩ = some (.bool tt.m) := e6
        have c7 : wr.cell? ⟨bb, o + k * 9 + 7, none⟩ = some (.slice tt.c tt.us.length tt.cc) := e7
        have c8 : wr.cell? ⟨bb, o + k * 9 + 8, none⟩ = some (.slice tt.d tt.vs.length tt.cd) := e8
        clear e0 e1 e2 e3 e4 e5 e6 e7 e8
        obtain ⟨A0, A1, A2, A3, A4, A5, A6, A7, A8, qA0, qA1, qA2, qA3, qA4, qA5, qA6, qA7, qA8, ⟨rA0, rA1, rA2, rA3, rA4, rA5, rA6, rA7, rA8⟩, ⟨fA0, fA1, fA2, fA3, fA4, fA5, fA6, fA7, fA8⟩, HA⟩ := tlbox wr tt
        have HBA := hid (bt HW.out HA.out.2)
        have d0 : A8.cell? ⟨bu, ou + k * 9, none⟩ = some (.string tu.s) := HCU.out A8 HBA.out 0 (by decide)
        have d1 : A8.cell? ⟨bu, ou + k * 9 + 1, none⟩ = some (.int .i32 tu.f) := HCU.out A8 HBA.out 1 (by decide)
        have d2 : A8.cell? ⟨bu, ou + k * 9 + 2, none⟩ = some (.int .i32 tu.r) := HCU.out A8 HBA.out 2 (by decide)
        have d3 : A8.cell? ⟨bu, ou + k * 9 + 3, none⟩ = some (.bool tu.n) := HCU.out A8 HBA.out 3 (by decide)
        have d4 : A8.cell? ⟨bu, ou + k * 9 + 4, none⟩ = some (.slice tu.a tu.xs.length tu.ca) := HCU.out A8 HBA.out 4 (by decide)
        have d5 : A8.cell? ⟨bu, ou + k * 9 + 5, none⟩ = some (.slice tu.b tu.ys.length tu.cb) := HCU.out A8 HBA.out 5 (by decide)
        have d6 : A8.cell? ⟨bu, ou + k * 9 + 6, none⟩ = some (.bool tu.m) := HCU.out A8 HBA.out 6 (by decide)
        have d7 : A8.cell? ⟨bu, ou + k * 9 + 7, none⟩ = some (.slice tu.c tu.us.length tu.cc) := HCU.out A8 HBA.out 7 (by decide)
        have d8 : A8.cell? ⟨bu, ou + k * 9 + 8, none⟩ = some (.slice tu.d tu.vs.length tu.cd) := HCU.out A8 HBA.out 8 (by decide)
        obtain ⟨B0, B1, B2, B3, B4, B5, B6, B7, B8, qB0, qB1, qB2, qB3, qB4, qB5, qB6, qB7, qB8, ⟨rB0, rB1, rB2, rB3, rB4, rB5, rB6, rB7, rB8⟩, ⟨fB0, fB1, fB2, fB3, fB4, fB5, fB6, fB7, fB8⟩, HB⟩ := tlbox A8 tu
        have HBB := hid (bt HBA.out HB.out.2)
        have HXA := hid (HA.out.1.later HB.out.2 HA.out.1.lt)
        have HXB := hid HB.out.1
        have m0 : B8.cell? ⟨wr.heap.size, 0, none⟩ = some (.string tt.s) := HXA.out.cell 0
        have m1 : B8.cell? ⟨wr.heap.size, 1, none⟩ = some (.int .i32 tt.f) := HXA.out.cell 1
        have m2 : B8.cell? ⟨wr.heap.size, 2, none⟩ = some (.int .i32 tt.r) := HXA.out.cell 2
        have m3 : B8.cell? ⟨wr.heap.size, 3, none⟩ = some (.bool tt.n) := HXA.out.cell 3
        have m4 : B8.cell? ⟨wr.heap.size, 4, none⟩ = some (.slice tt.a tt.xs.length tt.ca) := HXA.out.cell 4
        have m5 : B8.cell? ⟨wr.heap.size, 5, none⟩ = some (.slice tt.b tt.ys.length tt.cb) := HXA.out.cell 5
        have m6 : B8.cell? ⟨wr.heap.size, 6, none⟩ = some (.bool tt.m) := HXA.out.cell 6
        have m7 : B8.cell? ⟨wr.heap.size, 7, none⟩ = some (.slice tt.c tt.us.length tt.cc) := HXA.out.cell 7
        have m8 : B8.cell? ⟨wr.heap.size, 8, none⟩ = some (.slice tt.d tt.vs.length tt.cd) := HXA.out.cell 8
        have n0 : B8.cell? ⟨A8.heap.size, 0, none⟩ = some (.string tu.s) := HXB.out.cell 0
        have n1 : B8.cell? ⟨A8.heap.size, 1, none⟩ = some (.int .i32 tu.f) := HXB.out.cell 1
        have n2 : B8.cell? ⟨A8.heap.size, 2, none⟩ = some (.int .i32 tu.r) := HXB.out.cell 2
        have n3 : B8.cell? ⟨A8.heap.size, 3, none⟩ = some (.bool tu.n) := HXB.out.cell 3
        have n4 : B8.cell? ⟨A8.heap.size, 4, none⟩ = some (.slice tu.a tu.xs.length tu.ca) := HXB.out.cell 4
        have n5 : B8.cell? ⟨A8.heap.size, 5, none⟩ = some (.slice tu.b tu.ys.length tu.cb) := HXB.out.cell 5
        have n6 : B8.cell? ⟨A8.heap.size, 6, none⟩ = some (.bool tu.m) := HXB.out.cell 6
        have n7 : B8.cell? ⟨A8.heap.size, 7, none⟩ = some (.slice tu.c tu.us.length tu.cc) := HXB.out.cell 7
        have n8 : B8.cell? ⟨A8.heap.size, 8, none⟩ = some (.slice tu.d tu.vs.length tu.cd) := HXB.out.cell 8
        have HD := hid (HCk.out B8 HBB.out)
        have hk0 : (0 : Int) ≤ (k : Int) := by omega
        have hk1 : (k : Int) < (n : Int) := by omega
        clear HCk HA HB HBA HCU hg hgu
        go_wp2_with fail
        clear qA0 rA0 fA0 qA1 rA1 fA1 qA2 rA2 fA2 qA3 rA3 fA3 qA4 rA4 fA4 qA5 rA5 fA5 qA6 rA6 fA6 qA7 rA7 fA7 qA8 rA8 fA8 qB0 rB0 fB0 qB1 rB1 fB1 qB2 rB2 fB2 qB3 rB3 fB3 qB4 rB4 fB4 qB5 rB5 fB5 qB6 rB6 fB6 qB7 rB7 fB7 qB8 rB8 fB8
        clear c0 d0 m0 n0 c1 d1 m1 n1 c2 d2 m2 n2 c3 d3 m3 n3 c4 d4 m4 n4 c5 d5 m5 n5 c6 d6 m6 n6 c7 d7 m7 n7 c8 d8 m8 n8
        refine Calls.mono HD.out ?_
        rintro e w3 ⟨rfl, hb3⟩
        have HB3 := hid (bt HBB.out hb3)
        clear HD hb3 HBB HXA HXB
        cases sq with
        | true =>
          have HN1 := hid (HN.out rfl)
          go_wp2_with fail
          go_roundw
          case rel => exact ⟨k + 1, by omega, by go_num, HB3.out, HN1.out⟩
          case measure => simp [intOf]; omega
        | false =>
          have HF1 := hid (HF.out rfl)
          go_wp2_with fail
          go_ret
          exact ⟨⟨false, rfl, (fun h => by cases h), fun h => absurd h HF1.out⟩, HB3.out⟩
      · obtain rfl : k = n := by omega
        have hkk : ¬ (k : Int) < (k : Int) := by omega
        go_wp2_with fail
        go_ret
        exact ⟨⟨true, rfl, (fun _ => HT.out), fun _ => rfl⟩, HW.out⟩
  · have hne : ((n : Int) == (m : Int)) = false := by simp; omega
    have hne2 : ((n : Int) != (m : Int)) = true := by simp; omega
    go_enter Tryz.func84, Tryz.ntmps84
    go_wp2_with fail
    go_ret
    exact ⟨⟨false, rfl, (fun h => by cases h), fun h => absurd h.1 hnm⟩, Below.refl _ _⟩
end Go.Proofs.YtnfemheabikolaaGreatDoor

/- package port: Same, of any two. -/
namespace Go.Proofs.YtnfemheabikolaaGreatDoor
open Go.RowKit
set_option linter.unusedVariables false

def PL.short (p : PL) : Prop := p.xs.length ≤ 281474976710656 ∧ p.ys.length ≤ 281474976710656 ∧ p.ts.length ≤ 1000000 ∧ ∀ t ∈ p.ts, t.short
def PL.same (p q : PL) : Prop := p.s = q.s ∧ (p.n = q.n ∧ p.xs = q.xs ∧ p.ys = q.ys) ∧ p.ts.length = q.ts.length ∧ ∀ j, j < p.ts.length → smB (tT p.ts j) (tT q.ts j) = true
set_option maxHeartbeats 3200000 in
set_option maxRecDepth 100000 in
theorem pSame_any (p q : PL) (w : World) (hp : p.ok w) (hq : q.ok w) (sp : p.short) (sq : q.short) :
    Calls Tryz.prog 25 #[.agg p.cells, .agg q.cells] w fun e w' => BoT e (p.same q) ∧ Below w.heap.size w w' := by
  have HX := hid (boxes2r w 27 p.cells q.cells)
  obtain ⟨X, hX⟩ : ∃ X, (w.alloc (.cells p.cells 27)).alloc (.cells q.cells 27) = X := ⟨_, rfl⟩
  rw [hX] at HX
  have H1 : Hid (∀ V, Below w.heap.size w V → Calls Tryz.prog 83 #[.agg #[.bool p.n, .slice p.a p.xs.length p.ca, .slice p.b p.ys.length p.cb], .agg #[.bool q.n, .slice q.a q.xs.length q.ca, .slice q.b q.ys.length q.cb]] V fun e w' => e = .returned (.bool (decide (p.n = q.n ∧ p.xs = q.xs ∧ p.ys = q.ys))) ∧ Below V.heap.size V w') := fun V hv => rSame_any p.n p.a p.ca p.xs p.b p.cb p.ys q.n q.a q.ca q.xs q.b q.cb q.ys V (hp.sx.later hv) (hp.sy.later hv) (hq.sx.later hv) (hq.sy.later hv) sp.1 sp.2.1 sq.1 sq.2.1
  have H2 : Hid (∀ V, Below w.heap.size w V → Calls Tryz.prog 84 #[.slice p.t p.ts.length p.ct, .slice q.t q.ts.length q.ct, .func (.func 85) #[] #[]] V fun e w' => BoT e (p.ts.length = q.ts.length ∧ ∀ j, j < p.ts.length → smB (tT p.ts j) (tT q.ts j) = true) ∧ Below V.heap.size V w') := fun V hv => pequalF_any p.t p.ts.length p.ct p.ts q.t q.ts.length q.ct q.ts V sp.2.2.1 rfl rfl (hp.ts.later hv) (hq.ts.later hv) sp.2.2.2 sq.2.2.2
  have HP : Hid (p.same q ↔ p.s = q.s ∧ (p.n = q.n ∧ p.xs = q.xs ∧ p.ys = q.ys) ∧ p.ts.length = q.ts.length ∧ ∀ j, j < p.ts.length → smB (tT p.ts j) (tT q.ts j) = true) := Iff.rfl
  generalize (p.ts.length = q.ts.length ∧ ∀ j, j < p.ts.length → smB (tT p.ts j) (tT q.ts j) = true) = T at *
  generalize p.same q = PS at *
  have a0 : X.cell? ⟨w.heap.size, 0, none⟩ = some (.string p.s) := HX.out.1.cell 0
  have a1 : X.cell? ⟨w.heap.size, 1, none⟩ = some (.bool p.n) := HX.out.1.cell 1
  have a2 : X.cell? ⟨w.heap.size, 2, none⟩ = some (.slice p.a p.xs.length p.ca) := HX.out.1.cell 2
  have a3 : X.cell? ⟨w.heap.size, 3, none⟩ = some (.slice p.b p.ys.length p.cb) := HX.out.1.cell 3
  have b0 : X.cell? ⟨w.heap.size + 1, 0, none⟩ = some (.string q.s) := HX.out.2.1.cell 0
  have b1 : X.cell? ⟨w.heap.size + 1, 1, none⟩ = some (.bool q.n) := HX.out.2.1.cell 1
  have b2 : X.cell? ⟨w.heap.size + 1, 2, none⟩ = some (.slice q.a q.xs.length q.ca) := HX.out.2.1.cell 2
  have b3 : X.cell? ⟨w.heap.size + 1, 3, none⟩ = some (.slice q.b q.ys.length q.cb) := HX.out.2.1.cell 3
  unfold PL.cells at hX ⊢
  clear hp hq sp sq
  by_cases hs : p.s = q.s
  · have hb : (p.s.toList == q.s.toList) = true := by rw [hs]; simp
    have HS := hid hs
    clear hs
    go_enter Tryz.func25, Tryz.ntmps25
    go_wp2_with fail
    refine Calls.mono (H1.out _ HX.out.2.2) ?_
    rintro e w1 ⟨rfl, hb1⟩
    have HB1 := hid (bt HX.out.2.2 hb1)
    have a4 : w1.cell? ⟨w.heap.size, 4, none⟩ = some (.slice p.t p.ts.length p.ct) := (HX.out.1.later hb1 HX.out.1.lt).cell 4
    have b4 : w1.cell? ⟨w.heap.size + 1, 4, none⟩ = some (.slice q.t q.ts.length q.ct) := (HX.out.2.1.later hb1 HX.out.2.1.lt).cell 4
    clear hb1 a0 a1 a2 a3 b0 b1 b2 b3
    by_cases hr : p.n = q.n ∧ p.xs = q.xs ∧ p.ys = q.ys
    · have HR := hid hr
      rw [decide_eq_true hr]
      clear hr
      go_wp2_with fail
      refine Calls.mono (H2.out _ HB1.out) ?_
      rintro e w2 ⟨⟨bo, rfl, hbo⟩, hb2⟩
      have HB2 := hid (bt HB1.out hb2)
      have HBO := hid hbo
      clear hb2 hbo a4 b4
      go_wp2_with fail
      go_ret
      exact ⟨⟨bo, rfl, fun h => HP.out.2 ⟨HS.out, HR.out, HBO.out.1 h⟩, fun h => HBO.out.2 (HP.out.1 h).2.2⟩, HB2.out⟩
    · have HR := hid hr
      rw [decide_eq_false hr]
      clear hr
      go_wp2_with fail
      go_ret
      exact ⟨⟨false, rfl, (fun h => by cases h), fun h => absurd (HP.out.1 h).2.1 HR.out⟩, HB1.out⟩
  · have hs' := tstr_other hs
    have HS := hid hs
    go_enter Tryz.func25, Tryz.ntmps25
    go_wp2_with fail
    go_ret
    exact ⟨⟨false, rfl, (fun h => by cases h), fun h => absurd (HP.out.1 h).1 HS.out⟩, HX.out.2.2⟩
end Go.Proofs.YtnfemheabikolaaGreatDoor

/- Ports that may be, by what they say: what With, Without, Conj and Moved tell of them. -/
namespace Go.Proofs.YtnfemheabikolaaGreatDoor
open Go.RowKit
set_option linter.unusedVariables false
set_option linter.unusedSimpArgs false

theorem nmEq {s t : ByteArray} : (s.toList == t.toList) = true ↔ s = t := by
  constructor
  · intro h
    rw [ByteArray.toList_eq, ByteArray.toList_eq] at h
    exact ByteArray.ext (Array.toList_inj.1 (eq_of_beq h))
  · rintro rfl; simp
theorem nmEq' {s t : ByteArray} : s.data.toList = t.data.toList ↔ s = t := ⟨fun h => ByteArray.ext (Array.toList_inj.1 h), fun h => by rw [h]⟩
def vT (vs : List TV) (j : Nat) : TV := vs[j]?.getD TV.zero
theorem vT_at {vs : List TV} {j : Nat} (h : j < vs.length) : vs[j]? = some (vT vs j) := by
  unfold vT
  rw [List.getElem?_eq_getElem h]; rfl
theorem vT_of {vs : List TV} {j : Nat} {v : TV} (h : vs[j]? = some v) : vT vs j = v := by
  unfold vT
  rw [h]; rfl
theorem tT_v (ts : List TL) (j : Nat) : (tT ts j).v = vT (ts.map TL.v) j := by
  unfold tT vT
  rw [List.getElem?_map]
  cases ts[j]? <;> rfl
theorem vT_ext {vs us : List TV} (hl : vs.length = us.length) (h : ∀ j, j < us.length → vT vs j = vT us j) : vs = us := by
  apply List.ext_getElem? 
  intro j
  rcases Nat.lt_or_ge j us.length with g | g
  · rw [vT_at g, vT_at (by omega), h j g]
  · rw [List.getElem?_eq_none g, List.getElem?_eq_none (by omega)]
def TV.chk (t : TV) : Int := tchk t.s.data.toList t.f t.r (gchk t.n t.xs t.ys t.m t.us t.vs)
structure PV.Good (v : PV) : Prop where
  nm : tname v.s.data.toList = true
  mean : rchk v.n v.xs v.ys = 0
  len : v.ts.length ≤ 24
  chk : ∀ j, j < v.ts.length → (vT v.ts j).chk = 0
  nms : ∀ k j, k < j → j < v.ts.length → (vT v.ts k).s ≠ (vT v.ts j).s
  rot : ∀ k j, k < j → j < v.ts.length → ¬ ((vT v.ts k).f = (vT v.ts j).f ∧ (vT v.ts k).r = (vT v.ts j).r)
theorem PL.good_iff {p : PL} : p.good ↔ p.v.Good := by
  have hl : p.v.ts.length = p.ts.length := List.length_map ..
  have ht : ∀ j, vT p.v.ts j = (tT p.ts j).v := fun j => (tT_v p.ts j).symm
  constructor
  · intro h
    refine ⟨h.nm, h.mean, by rw [hl]; exact h.len, fun j hj => ?_, fun k j hk hj => ?_, fun k j hk hj => ?_⟩
    · rw [ht]; exact (h.all j (by omega)).1
    · rw [ht, ht]
      intro e
      exact (h.all j (by omega)).2.1 ⟨k, hk, nmEq'.2 e⟩
    · rw [ht, ht]
      rintro ⟨e1, e2⟩
      exact (h.all j (by omega)).2.2 ⟨k, hk, Prod.ext e1 e2⟩
  · intro h
    refine ⟨h.nm, h.mean, by rw [← hl]; exact h.len, fun j hj => ⟨?_, ?_, ?_⟩⟩
    · have q := h.chk j (by omega)
      rw [ht] at q
      exact q
    · rintro ⟨k, hk, e⟩
      have q := h.nms k j hk (by omega)
      rw [ht, ht] at q
      exact q (nmEq'.1 e)
    · rintro ⟨k, hk, e⟩
      have q := h.rot k j hk (by omega)
      rw [ht, ht] at q
      exact q ⟨congrArg Prod.fst e, congrArg Prod.snd e⟩
theorem PCk.one0 {p : PL} {c z : Int} (h : PChk p.hd p.ts c z) (hg : p.v.Good) : c = 0 := by
  have g := (PL.good_iff.2 hg).chk
  rcases h with ⟨h0, h1, _⟩ | ⟨h0, h1⟩ <;> rcases g with ⟨g0, g1, _⟩ | ⟨g0, g1⟩
  · exact absurd g1.symm g0
  · exact absurd g0 h0
  · exact absurd g1.symm g0
  · exact (h1.one g1).1
theorem TV.chk_is {t : TV} (h : t.chk = 0) (wx : Wd t.xs) (wy : Wd t.ys) (wu : Wd t.us) (wv : Wd t.vs) : t.Is t.q1 t.q2 := by
  obtain ⟨g1, g2⟩ := gchk_ok (tchk_ok h).2.2
  exact ⟨⟨g1, rfl⟩, ⟨g2, rfl⟩, wx, wy, wu, wv⟩
theorem TV.Is.chk {t : TV} {q1 q2 : Rat} (h : t.Is q1 q2) (hn : tname t.s.data.toList = true) (ho : ochk t.f t.r = 0) : t.chk = 0 := by
  unfold TV.chk
  rw [tchk_rest _ _ _ hn, ho, fstE_zero]
  unfold gchk
  rw [h.1.1, fstE_zero, h.2.1.1]
theorem TV.Is.one {t u : TV} {q1 q2 : Rat} (h : t.Is q1 q2) (g : u.Is q1 q2) (hs : t.s = u.s) (hf : t.f = u.f) (hr : t.r = u.r) : t = u := by
  obtain ⟨a1, a2, a3⟩ := rq_inj h.2.2.1 h.2.2.2.1 g.2.2.1 g.2.2.2.1 h.1.1 g.1.1 (h.1.2.trans g.1.2.symm)
  obtain ⟨b1, b2, b3⟩ := rq_inj h.2.2.2.2.1 h.2.2.2.2.2 g.2.2.2.2.1 g.2.2.2.2.2 h.2.1.1 g.2.1.1 (h.2.1.2.trans g.2.1.2.symm)
  cases t; cases u
  simp only at hs hf hr a1 a2 a3 b1 b2 b3
  subst hs hf hr a1 a2 a3 b1 b2 b3
  rfl
theorem PV.Good.map {v : PV} (h : v.Good) {vs : List TV} (hl : vs.length = v.ts.length) (σ : Int → Int) (hσ : ∀ a b, σ a = σ b → a = b) (ho : ∀ f r, ochk f r = 0 → ochk f (σ r) = 0) (hv : ∀ j, j < v.ts.length → (vT vs j).s = (vT v.ts j).s ∧ (vT vs j).f = (vT v.ts j).f ∧ (vT vs j).r = σ (vT v.ts j).r ∧ ∃ q1 q2, (vT vs j).Is q1 q2) : PV.Good ⟨v.s, v.n, v.xs, v.ys, vs⟩ := by
  refine ⟨h.nm, h.mean, by show vs.length ≤ 24; rw [hl]; exact h.len, fun j hj => ?_, fun k j hk hj => ?_, fun k j hk hj => ?_⟩
  · have hj' : j < v.ts.length := by rw [← hl]; exact hj
    obtain ⟨e1, e2, e3, q1, q2, hi⟩ := hv j hj'
    have hc := h.chk j hj'
    obtain ⟨c1, c2, _⟩ := tchk_ok hc
    exact hi.chk (by rw [e1]; exact c1) (by rw [e2, e3]; exact ho _ _ c2)
  · have hj' : j < v.ts.length := by rw [← hl]; exact hj
    show (vT vs k).s ≠ (vT vs j).s
    rw [(hv j hj').1, (hv k (by omega)).1]
    exact h.nms k j hk hj'
  · have hj' : j < v.ts.length := by rw [← hl]; exact hj
    show ¬ ((vT vs k).f = (vT vs j).f ∧ (vT vs k).r = (vT vs j).r)
    rw [(hv j hj').2.1, (hv k (by omega)).2.1, (hv j hj').2.2.1, (hv k (by omega)).2.2.1]
    rintro ⟨e1, e2⟩
    exact h.rot k j hk hj' ⟨e1, hσ _ _ e2⟩
def Mv (n : Int) (t v : TV) : Prop := v.s = t.s ∧ v.f = t.f ∧ v.r = t.r ∧ v.Is (t.q1 * (oP t.f t.r n).1 - t.q2 * (oP t.f t.r n).2) (t.q1 * (oP t.f t.r n).2 + t.q2 * (oP t.f t.r n).1)
theorem MvT.mv {n : Int} {t v : TV} (h : MvT n t v 0) : Mv n t v := by
  rcases h with ⟨_, e⟩ | ⟨_, _, h⟩
  · cases e
  · exact h
theorem Mv.good {v : PV} {n : Int} {vs : List TV} (h : v.Good) (hl : vs.length = v.ts.length) (hv : ∀ j, j < v.ts.length → Mv n (vT v.ts j) (vT vs j)) : PV.Good ⟨v.s, v.n, v.xs, v.ys, vs⟩ :=
  h.map hl id (fun _ _ e => e) (fun _ _ e => e) (fun j hj => ⟨(hv j hj).1, (hv j hj).2.1, (hv j hj).2.2.1, _, _, (hv j hj).2.2.2⟩)
theorem pMoved_good (p : PL) (n : Int) (w : World) (hp : p.ok w) (hg : p.v.Good) (n0 : -1024 ≤ n) (n1 : n ≤ 1024) (hs : ∀ j, j < p.v.ts.length → ¬ mlong (vT p.v.ts j).q1 (vT p.v.ts j).q2 (oP (vT p.v.ts j).f (vT p.v.ts j).r n).1 (oP (vT p.v.ts j).f (vT p.v.ts j).r n).2) :
    Calls Tryz.prog 17 #[.agg p.cells, .int .i64 n] w fun e w' => ∃ (q : PL) (vs : List TV), e = .returned (.tuple #[.agg q.cells, .int .i64 0]) ∧ (vs.length = p.v.ts.length ∧ ∀ j, j < p.v.ts.length → Mv n (vT p.v.ts j) (vT vs j)) ∧ Made q ⟨p.s, p.n, p.xs, p.ys, vs⟩ w w' := by
  have hl : p.v.ts.length = p.ts.length := List.length_map ..
  refine Calls.mono (pMoved_any p n w hp) ?_
  rintro e w' ⟨q, c, rfl, h⟩
  rcases h with ⟨z, hz, hc, _⟩ | ⟨_, ⟨hn, _⟩ | ⟨_, ⟨i, hi, hm, _⟩ | ⟨rfl, vs, h1, h2, h3⟩⟩⟩
  · exact absurd (PCk.one0 hz hg) hc
  · exact absurd ⟨n0, n1⟩ hn
  · have q := hs i (by omega)
    rw [show vT p.v.ts i = (tT p.ts i).v from (tT_v p.ts i).symm] at q
    exact absurd hm q
  · refine ⟨q, vs, rfl, ⟨by omega, fun j hj => ?_⟩, h3⟩
    rw [show vT p.v.ts j = (tT p.ts j).v from (tT_v p.ts j).symm]
    exact (h2 j _ (vT_at (by omega))).mv
theorem pConj_good (p : PL) (w : World) (hp : p.ok w) (hg : p.v.Good) :
    Calls Tryz.prog 31 #[.agg p.cells] w fun e w' => ∃ (q : PL) (vs : List TV), e = .returned (.tuple #[.agg q.cells, .int .i64 0]) ∧ (vs.length = p.v.ts.length ∧ ∀ j, j < p.v.ts.length → CjT (vT p.v.ts j) (vT vs j) 0) ∧ Made q ⟨p.s, p.n, p.xs, p.ys, vs⟩ w w' := by
  have hl : p.v.ts.length = p.ts.length := List.length_map ..
  refine Calls.mono (pConj_any p w hp) ?_
  rintro e w' ⟨q, c, rfl, h⟩
  rcases h with ⟨z, hz, hc, _⟩ | ⟨_, rfl, vs, h1, h2, h3⟩
  · exact absurd (PCk.one0 hz hg) hc
  · refine ⟨q, vs, rfl, ⟨by omega, fun j hj => ?_⟩, h3⟩
    rw [show vT p.v.ts j = (tT p.ts j).v from (tT_v p.ts j).symm]
    exact h2 j _ (vT_at (by omega))
theorem Cj.good {v : PV} {vs : List TV} (h : v.Good) (hl : vs.length = v.ts.length) (hv : ∀ j, j < v.ts.length → CjT (vT v.ts j) (vT vs j) 0) : PV.Good ⟨v.s, v.n, v.xs, v.ys, vs⟩ :=
  h.map hl (fun r => -r) (fun _ _ e => by omega) (fun f r e => trok_neg e) (fun j hj => ⟨(hv j hj).2.1, (hv j hj).2.2.1, (hv j hj).2.2.2.1, _, _, (hv j hj).2.2.2.2⟩)
theorem vT_snoc_lt {vs : List TV} {t : TV} {j : Nat} (h : j < vs.length) : vT (vs ++ [t]) j = vT vs j := by
  unfold vT
  rw [List.getElem?_append_left h]
theorem vT_snoc_eq {vs : List TV} {t : TV} : vT (vs ++ [t]) vs.length = t := by
  unfold vT
  rw [List.getElem?_append_right (Nat.le_refl _), Nat.sub_self]; rfl
theorem pWith_told (p : PL) (t : TL) (w : World) (hp : p.ok w) (ht : t.ok w) (hg : p.v.Good) :
    Calls Tryz.prog 9 #[.agg p.cells, .agg t.cells] w fun e w' => ∃ (q : PL) (c : Int), e = .returned (.tuple #[.agg q.cells, .int .i64 c]) ∧ ((c ≠ 0 ∧ Made q PV.zero w w' ∧ (t.v.chk ≠ 0 ∨ p.v.ts.length = 24 ∨ ∃ j, j < p.v.ts.length ∧ ((vT p.v.ts j).s = t.s ∨ ((vT p.v.ts j).f = t.f ∧ (vT p.v.ts j).r = t.r)))) ∨ (c = 0 ∧ (p.v.more t.v).Good ∧ (∀ j, j < p.v.ts.length → (vT p.v.ts j).s ≠ t.s) ∧ Made q (p.v.more t.v) w w')) := by
  have hl : p.v.ts.length = p.ts.length := List.length_map ..
  have hT : ∀ j, vT p.v.ts j = (tT p.ts j).v := fun j => (tT_v p.ts j).symm
  have hcl : ∀ j, clB (tT p.ts j) t = true ↔ ((vT p.v.ts j).s = t.s ∨ ((vT p.v.ts j).f = t.f ∧ (vT p.v.ts j).r = t.r)) := fun j => by
    unfold clB
    rw [hT, Bool.or_eq_true, nmEq, Bool.and_eq_true, beq_iff_eq, beq_iff_eq]
    exact Iff.rfl
  refine Calls.mono (pWith_any p t w hp ht) ?_
  rintro e w' ⟨q, c, rfl, h, hm⟩
  refine ⟨q, c, rfl, ?_⟩
  rcases h with ⟨z, hz, hc⟩ | ⟨_, ⟨h0, rfl⟩ | ⟨h0, ⟨⟨j, hj, hh⟩, rfl⟩ | ⟨hh, ⟨h24, rfl⟩ | ⟨h24, rfl⟩⟩⟩⟩
  · exact absurd (PCk.one0 hz hg) hc
  · rw [if_neg h0] at hm
    exact .inl ⟨h0, hm, .inl h0⟩
  · exact .inl ⟨by decide, hm, .inr (.inr ⟨j, by omega, (hcl j).1 hh⟩)⟩
  · exact .inl ⟨by decide, hm, .inr (.inl (by omega))⟩
  · have hno : ∀ j, j < p.v.ts.length → ¬ ((vT p.v.ts j).s = t.s ∨ ((vT p.v.ts j).f = t.f ∧ (vT p.v.ts j).r = t.r)) := fun j hj hq => hh ⟨j, by omega, (hcl j).2 hq⟩
    have hl2 : (p.v.ts ++ [t.v]).length = p.v.ts.length + 1 := by simp
    have h24' := hg.len
    refine .inr ⟨rfl, ⟨hg.nm, hg.mean, by show (p.v.ts ++ [t.v]).length ≤ 24; omega, fun j hj => ?_, fun k j hk hj => ?_, fun k j hk hj => ?_⟩, fun j hj hq => hno j hj (.inl hq), hm⟩
    · show (vT (p.v.ts ++ [t.v]) j).chk = 0
      have hj' : j < (p.v.ts ++ [t.v]).length := hj
      rcases Nat.lt_or_ge j p.v.ts.length with g | g
      · rw [vT_snoc_lt g]; exact hg.chk j g
      · obtain rfl : j = p.v.ts.length := by omega
        rw [vT_snoc_eq]; exact h0
    · show (vT (p.v.ts ++ [t.v]) k).s ≠ (vT (p.v.ts ++ [t.v]) j).s
      have hj' : j < (p.v.ts ++ [t.v]).length := hj
      rcases Nat.lt_or_ge j p.v.ts.length with g | g
      · rw [vT_snoc_lt g, vT_snoc_lt (by omega)]; exact hg.nms k j hk g
      · obtain rfl : j = p.v.ts.length := by omega
        rw [vT_snoc_eq, vT_snoc_lt hk]
        exact fun e => hno k hk (.inl e)
    · show ¬ ((vT (p.v.ts ++ [t.v]) k).f = (vT (p.v.ts ++ [t.v]) j).f ∧ (vT (p.v.ts ++ [t.v]) k).r = (vT (p.v.ts ++ [t.v]) j).r)
      have hj' : j < (p.v.ts ++ [t.v]).length := hj
      rcases Nat.lt_or_ge j p.v.ts.length with g | g
      · rw [vT_snoc_lt g, vT_snoc_lt (by omega)]; exact hg.rot k j hk g
      · obtain rfl : j = p.v.ts.length := by omega
        rw [vT_snoc_eq, vT_snoc_lt hk]
        exact fun e => hno k hk (.inr e)
theorem pWithout_back (q : PL) (v : PV) (t : TV) (k : ByteArray) (w : World) (hq : q.ok w) (e : q.v = v.more t) (hg : (v.more t).Good) (hk : k = t.s) :
    Calls Tryz.prog 16 #[.agg q.cells, .string k] w fun e w' => ∃ r : PL, e = .returned (.tuple #[.agg r.cells, .int .i64 0]) ∧ Made r v w w' := by
  have hG : q.v.Good := by rw [e]; exact hg
  have hl : q.v.ts.length = q.ts.length := List.length_map ..
  have hts : q.v.ts = v.ts ++ [t] := by rw [e]; rfl
  have hl2 : q.ts.length = v.ts.length + 1 := by rw [← hl, hts]; simp
  have hnm : ∀ j, q.nmB k j = true ↔ (vT q.v.ts j).s = k := fun j => by
    unfold PL.nmB
    rw [nmEq, show vT q.v.ts j = (tT q.ts j).v from (tT_v q.ts j).symm]
    exact Iff.rfl
  have hlast : q.nmB k v.ts.length = true := by rw [hnm, hts, vT_snoc_eq, hk]
  refine Calls.mono (pWithout_any q k w hq) ?_
  rintro x w' ⟨r, c, rfl, h⟩
  rcases h with ⟨z, hz, hc, _⟩ | ⟨_, ⟨hf, _⟩ | ⟨i, hf, hi, rfl, hm⟩⟩
  · exact absurd (PCk.one0 hz hG) hc
  · rcases hf with ⟨i, _, hz, _⟩ | ⟨_, hb⟩
    · omega
    · have := hb v.ts.length (by omega)
      rw [hlast] at this
      cases this
  · have hiv : i = v.ts.length := by
      rcases hf with ⟨i', hi', hz, hq', _⟩ | ⟨hz, _⟩
      · obtain rfl : i = i' := by omega
        rcases Nat.lt_or_ge i v.ts.length with g | g
        · have h1 := (hnm i).1 hq'
          have h2 := hG.nms i v.ts.length g (by rw [hl]; omega)
          rw [h1, hts, vT_snoc_eq, hk] at h2
          exact absurd rfl h2
        · omega
      · omega
    refine ⟨r, rfl, ?_⟩
    have e2 : q.v.less i = v := by
      rw [e, hiv]
      show PV.mk v.s v.n v.xs v.ys ((v.ts ++ [t]).eraseIdx v.ts.length) = v
      rw [List.eraseIdx_append_of_length_le (Nat.le_refl _), Nat.sub_self]
      show PV.mk v.s v.n v.xs v.ys (v.ts ++ []) = v
      rw [List.append_nil]
    rw [← e2]
    exact hm
theorem psame_eq (p q : PL) (w : World) (hp : p.ok w) (hq : q.ok w) (hg : p.v.Good) (e : q.v = p.v) : Calls Tryz.prog 25 #[.agg q.cells, .agg p.cells] w fun x w' => x = .returned (.bool true) ∧ Below w.heap.size w w' := by
  have sh : ∀ r : PL, r.v = p.v → r.short := fun r hr => by
    have hf : r.v.few := by rw [hr]; exact (PL.good_iff.2 hg).few
    refine ⟨by have h : r.xs.length ≤ 1099511627776 := hf.1; omega, by have h : r.ys.length ≤ 1099511627776 := hf.2.1; omega, by have h : (r.ts.map TL.v).length ≤ 1000000 := hf.2.2.1; rw [List.length_map] at h; exact h, fun t ht => ?_⟩
    have h := hf.2.2.2 _ (List.mem_map.2 ⟨t, ht, rfl⟩)
    have h1 : t.xs.length ≤ 1099511627776 := h.1
    have h2 : t.ys.length ≤ 1099511627776 := h.2.1
    have h3 : t.us.length ≤ 1099511627776 := h.2.2.1
    have h4 : t.vs.length ≤ 1099511627776 := h.2.2.2
    exact ⟨by omega, by omega, by omega, by omega⟩
  have hsm : q.same p := by
    have e1 : q.s = p.s := congrArg PV.s e
    have e2 : q.n = p.n := congrArg PV.n e
    have e3 : q.xs = p.xs := congrArg PV.xs e
    have e4 : q.ys = p.ys := congrArg PV.ys e
    have e5 : q.ts.map TL.v = p.ts.map TL.v := congrArg PV.ts e
    have e6 := congrArg List.length e5
    rw [List.length_map, List.length_map] at e6
    refine ⟨e1, ⟨e2, e3, e4⟩, e6, fun j hj => ?_⟩
    have e7 : (tT q.ts j).v = (tT p.ts j).v := by rw [tT_v, tT_v, e5]
    unfold smB
    rw [show (tT q.ts j).s = (tT p.ts j).s from congrArg TV.s e7, show (tT q.ts j).f = (tT p.ts j).f from congrArg TV.f e7, show (tT q.ts j).r = (tT p.ts j).r from congrArg TV.r e7, show (tT q.ts j).n = (tT p.ts j).n from congrArg TV.n e7, show (tT q.ts j).xs = (tT p.ts j).xs from congrArg TV.xs e7, show (tT q.ts j).ys = (tT p.ts j).ys from congrArg TV.ys e7, show (tT q.ts j).m = (tT p.ts j).m from congrArg TV.m e7, show (tT q.ts j).us = (tT p.ts j).us from congrArg TV.us e7, show (tT q.ts j).vs = (tT p.ts j).vs from congrArg TV.vs e7]
    simp
  refine Calls.mono (pSame_any q p w hq hp (sh q e) (sh p rfl)) ?_
  rintro x w' ⟨⟨bo, rfl, hb⟩, hbl⟩
  rw [hb.2 hsm]
  exact ⟨rfl, hbl⟩
theorem mshort {q1 q2 P1 P2 : Rat} {K J : Nat} (h1 : Hgt q1 (2 ^ K)) (h2 : Hgt q2 (2 ^ K)) (g1 : Hgt P1 (2 ^ J)) (g2 : Hgt P2 (2 ^ J)) (hk : K + J + (K + J) + 1 < 65536) : ¬ mlong q1 q2 P1 P2 := by
  have mul : ∀ {a b : Rat}, Hgt a (2 ^ K) → Hgt b (2 ^ J) → Hgt (a * b) (2 ^ (K + J)) := fun ha hb => by rw [Nat.pow_add]; exact ha.mul hb
  have two : ∀ m : Nat, 2 * (2 ^ m * 2 ^ m) = 2 ^ (m + m + 1) := fun m => by rw [← Nat.pow_add, Nat.pow_succ, Nat.mul_comm]
  have a1 := mul h1 g1
  have a2 := mul h2 g2
  have a3 := mul h1 g2
  have a4 := mul h2 g1
  have s1 := a1.sub a2
  have s2 := a3.add a4
  rw [two] at s1 s2
  rintro (((h | h) | h) | ((h | h) | h))
  · exact a1.short (by omega) h
  · exact a2.short (by omega) h
  · exact s1.short (by omega) h
  · exact a3.short (by omega) h
  · exact a4.short (by omega) h
  · exact s2.short (by omega) h
theorem oP_hgt {f r : Int} (h : rOK f r) (n : Int) (K : Nat) (hk : n.natAbs ≤ K) : Hgt (oP f r n).1 (2 ^ (21 * K)) ∧ Hgt (oP f r n).2 (2 ^ (21 * K)) := by
  obtain ⟨a, b⟩ := oP_hg h n K hk
  unfold OHg o2 at a b
  exact ⟨⟨a.1, a.2⟩, ⟨b.1, b.2⟩⟩
end Go.Proofs.YtnfemheabikolaaGreatDoor

/- package port: Print, of every port. (tools/mkqcb.py) -/
namespace Go.Proofs.YtnfemheabikolaaGreatDoor
open Go.RowKit
set_option linter.unusedVariables false
set_option linter.unusedSimpArgs false

def TV.line (t : TV) : List UInt8 := ttext t.s.data.toList t.f t.r (gtext t.n t.xs t.ys t.m t.us t.vs) ++ [10]
def PV.head (p : PV) : List UInt8 := [112, 111, 114, 116, 32] ++ p.s.data.toList ++ [32] ++ rtext p.n p.xs p.ys ++ [10]
def PV.upto (p : PV) (i : Nat) : List UInt8 := p.head ++ (p.ts.take i).flatMap TV.line
def PV.text (p : PV) : List UInt8 := p.head ++ p.ts.flatMap TV.line
theorem PV.upto_zero (p : PV) : p.upto 0 = p.head := by unfold PV.upto; rw [List.take_zero, List.flatMap_nil, List.append_nil]
theorem PV.upto_all (p : PV) : p.upto p.ts.length = p.text := by unfold PV.upto PV.text; rw [List.take_length]
theorem PV.upto_next (p : PV) {i : Nat} {t : TV} (h : p.ts[i]? = some t) : p.upto (i + 1) = p.upto i ++ t.line := by
  unfold PV.upto
  rw [List.take_add_one, h]
  show p.head ++ List.flatMap TV.line (List.take i p.ts ++ [t]) = _
  rw [List.flatMap_append, ← List.append_assoc, List.flatMap_cons, List.flatMap_nil, List.append_nil]
theorem PV.upto_le (p : PV) (i : Nat) : (p.upto i).length ≤ p.text.length := by
  unfold PV.upto PV.text
  have h : p.ts = p.ts.take i ++ p.ts.drop i := (List.take_append_drop i p.ts).symm
  rw [List.length_append, List.length_append]
  conv => rhs; rw [h, List.flatMap_append, List.length_append]
  omega
def PpT (p : PL) (S : ByteArray) (c : Int) : Prop := (∃ z, PChk p.hd p.ts c z ∧ c ≠ 0 ∧ S = ⟨#[]⟩) ∨ (p.good ∧ ((65536 < p.v.text.length ∧ c = 3 ∧ S = ⟨#[]⟩) ∨ (p.v.text.length ≤ 65536 ∧ c = 0 ∧ S.data.toList = p.v.text)))
theorem pline_err {t : TL} (hk : t.chk = 0) : (tpErr (tchk t.s.data.toList t.f t.r (gchk t.n t.xs t.ys t.m t.us t.vs)) t.s.data.toList t.f t.r (gpErr t.n t.xs t.ys t.m t.us t.vs) (gtext t.n t.xs t.ys t.m t.us t.vs) = 0 ∧ t.v.line.length ≤ 65537) ∨ (tpErr (tchk t.s.data.toList t.f t.r (gchk t.n t.xs t.ys t.m t.us t.vs)) t.s.data.toList t.f t.r (gpErr t.n t.xs t.ys t.m t.us t.vs) (gtext t.n t.xs t.ys t.m t.us t.vs) = 3 ∧ 65537 < t.v.line.length) := by
  have hk' : tchk t.s.data.toList t.f t.r (gchk t.n t.xs t.ys t.m t.us t.vs) = 0 := hk
  have hl : t.v.line.length = (ttext t.s.data.toList t.f t.r (gtext t.n t.xs t.ys t.m t.us t.vs)).length + 1 := by
    show (ttext _ _ _ _ ++ [10]).length = _
    rw [List.length_append]; rfl
  have hg : gpErr t.n t.xs t.ys t.m t.us t.vs = if 65536 < (gtext t.n t.xs t.ys t.m t.us t.vs).length then 3 else 0 := by unfold gpErr; rw [(tchk_ok hk').2.2, fstE_zero]
  have hs : (gtext t.n t.xs t.ys t.m t.us t.vs).length ≤ (ttext t.s.data.toList t.f t.r (gtext t.n t.xs t.ys t.m t.us t.vs)).length := by
    unfold ttext
    simp only [List.length_append, List.length_cons]
    omega
  rw [hl]
  by_cases h1 : 65536 < (gtext t.n t.xs t.ys t.m t.us t.vs).length
  · rw [if_pos h1] at hg
    right
    refine ⟨by rw [tpErr_num hk' (by rw [hg]; decide), hg], by omega⟩
  · rw [if_neg h1] at hg
    by_cases h2 : 65536 < (ttext t.s.data.toList t.f t.r (gtext t.n t.xs t.ys t.m t.us t.vs)).length
    · exact .inr ⟨tpErr_long hk' hg h2, by omega⟩
    · exact .inl ⟨tpErr_ok hk' hg h2, by omega⟩
theorem pline_ok {t : TL} {S : ByteArray} (h : S.data.toList = ttext t.s.data.toList t.f t.r (gtext t.n t.xs t.ys t.m t.us t.vs)) : (S ++ (⟨#[10]⟩ : ByteArray)).data.toList = t.v.line := by
  rw [ByteArray.data_append, Array.toList_append, h]; rfl
theorem phead_ok {p : PL} {S : ByteArray} (h : S.data.toList = rtext p.n p.xs p.ys) : ((⟨#[112, 111, 114, 116, 32]⟩ : ByteArray) ++ p.s ++ (⟨#[32]⟩ : ByteArray) ++ S ++ (⟨#[10]⟩ : ByteArray)).data.toList = p.v.head := by
  simp only [ByteArray.data_append, Array.toList_append, h]
  show _ = [112, 111, 114, 116, 32] ++ p.s.data.toList ++ [32] ++ rtext p.n p.xs p.ys ++ [10]
  simp
set_option maxHeartbeats 3200000 in
set_option maxRecDepth 100000 in
theorem pPrint_any (p : PL) (w : World) (hp : p.ok w) (htab : Tab w) : Calls Tryz.prog 39 #[.agg p.cells] w fun e w' => ∃ (S : ByteArray) (c : Int), e = .returned (.tuple #[.string S, .int .i64 c]) ∧ PpT p S c ∧ Below w.heap.size w w' := by
  obtain ⟨Y, hY⟩ : ∃ Y, w.alloc (.cells #[.string p.s, .bool p.n, .slice p.a p.xs.length p.ca, .slice p.b p.ys.length p.cb, .slice p.t p.ts.length p.ct] 27) = Y := ⟨_, rfl⟩
  have HX : Hid (Box Y w.heap.size 27 #[.string p.s, .bool p.n, .slice p.a p.xs.length p.ca, .slice p.b p.ys.length p.cb, .slice p.t p.ts.length p.ct]) := by
    subst hY
    exact Box.made w _ _
  have HB : Hid (Below w.heap.size w Y) := by
    subst hY
    exact alloc_later _ _
  have HC1 := hid (plcheck_any p Y (hp.later HB.out))
  have HTS : Hid (∀ V, Below w.heap.size w V → RdT V p.t p.ts) := fun V hV => hp.ts.later hV
  have HRP : Hid (∀ V, Below Y.heap.size Y V → Calls Tryz.prog 96 #[.agg #[.bool p.n, .slice p.a p.xs.length p.ca, .slice p.b p.ys.length p.cb]] V (RPr p.n p.xs p.ys V)) := fun V hV => grPrint_any p.n p.a p.ca p.xs p.b p.cb p.ys V (hp.sx.later (bt HB.out hV)) (hp.sy.later (bt HB.out hV)) (htab.later (bt HB.out hV))
  have HTP : Hid (∀ j V, j < p.ts.length → Below w.heap.size w V → (tT p.ts j).chk = 0 → Calls Tryz.prog 97 #[.agg #[.string (tT p.ts j).s, .int .i32 (tT p.ts j).f, .int .i32 (tT p.ts j).r, .bool (tT p.ts j).n, .slice (tT p.ts j).a (tT p.ts j).xs.length (tT p.ts j).ca, .slice (tT p.ts j).b (tT p.ts j).ys.length (tT p.ts j).cb, .bool (tT p.ts j).m, .slice (tT p.ts j).c (tT p.ts j).us.length (tT p.ts j).cc, .slice (tT p.ts j).d (tT p.ts j).vs.length (tT p.ts j).cd]] V fun x w' => ∃ (S : ByteArray) (c : Int), x = .returned (.tuple #[.string S, .int .i64 c]) ∧ ((c = 0 ∧ (tT p.ts j).v.line.length ≤ 65537 ∧ (S ++ (⟨#[10]⟩ : ByteArray)).data.toList = (tT p.ts j).v.line) ∨ (c = 3 ∧ 65537 < (tT p.ts j).v.line.length)) ∧ Below V.heap.size V w') := fun j V hj hV hk => by
    have ht := (hp.ts.later hV).1 _ (tT_mem hj)
    refine Calls.mono (tPrint_any (tT p.ts j).s (tT p.ts j).f (tT p.ts j).r (tT p.ts j).n (tT p.ts j).a (tT p.ts j).ca (tT p.ts j).xs (tT p.ts j).b (tT p.ts j).cb (tT p.ts j).ys (tT p.ts j).m (tT p.ts j).c (tT p.ts j).cc (tT p.ts j).us (tT p.ts j).d (tT p.ts j).cd (tT p.ts j).vs V ht.size ht.rot ht.sx ht.sy ht.su ht.sv (htab.later hV)) ?_
    rintro x w' ⟨S, rfl, h1, h2, hb⟩
    refine ⟨S, _, rfl, ?_, hb⟩
    rcases pline_err hk with ⟨e, l⟩ | ⟨e, l⟩
    · exact .inl ⟨e, l, pline_ok (h1 e)⟩
    · exact .inr ⟨e, l⟩
  have HG : Hid (∀ z, PChk p.hd p.ts 0 z → p.good) := fun z h => h.good.1
  have HRS : Hid (p.good → (rtext p.n p.xs p.ys).length ≤ 40964) := fun h => rtext_short hp.sx.wd hp.sy.wd h.mean
  have k0 : Y.cell? ⟨w.heap.size, 0, none⟩ = some (.string p.s) := HX.out.cell 0
  have k1 : Y.cell? ⟨w.heap.size, 1, none⟩ = some (.bool p.n) := HX.out.cell 1
  have k2 : Y.cell? ⟨w.heap.size, 2, none⟩ = some (.slice p.a p.xs.length p.ca) := HX.out.cell 2
  have k3 : Y.cell? ⟨w.heap.size, 3, none⟩ = some (.slice p.b p.ys.length p.cb) := HX.out.cell 3
  have k4 : Y.cell? ⟨w.heap.size, 4, none⟩ = some (.slice p.t p.ts.length p.ct) := HX.out.cell 4
  unfold PL.cells
  clear hp htab
  go_enter Tryz.func39, Tryz.ntmps39
  go_wp2_with fail
  refine Calls.mono HC1.out ?_
  rintro e w1 ⟨c, z, rfl, hc, b1⟩
  have HX1 := hid (HX.out.later b1 HX.out.lt)
  obtain ⟨W2, hW2⟩ : ∃ W2, w1.alloc (.cells #[.int .i64 0, .int .i64 0] 40) = W2 := ⟨_, rfl⟩
  have HF : Hid (Box W2 w1.heap.size 40 #[.int .i64 0, .int .i64 0]) := by
    subst hW2
    exact Box.made w1 _ _
  have HB2 : Hid (Below w1.heap.size w1 W2) := by
    subst hW2
    exact alloc_later _ _
  have hs1 : Y.heap.size ≤ w1.heap.size := b1.size
  obtain ⟨A0, A1, q0, q1, ⟨r0, r1⟩, ⟨v0, v1⟩, HA⟩ := rchain2 HF.out (by decide) (.int .i64 c) (.int .i64 z)
  have HYA : Hid (Below Y.heap.size Y A1) := HA.out.2.2.2.1 _ _ hs1 (bt b1 HB2.out)
  have hlt := HX.out.lt
  have HXA := hid (HA.out.2.1 _ _ _ (show w.heap.size ≠ w1.heap.size by omega) (HX1.out.later HB2.out HX1.out.lt))
  have HBA := hid (bt HB.out HYA.out)
  have y0 : A1.cell? ⟨w1.heap.size, 0, none⟩ = some (.int .i64 c) := HA.out.1.cell 0
  have HCK := hid hc
  clear b1 HC1 k0 k1 k2 k3 k4 HX1 HF HB2 HX hc
  by_cases hc0 : c = 0
  · subst hc0
    have hG := HG.out _ HCK.out
    have HGG := hid hG
    have k0 : A1.cell? ⟨w.heap.size, 0, none⟩ = some (.string p.s) := HXA.out.cell 0
    have k1 : A1.cell? ⟨w.heap.size, 1, none⟩ = some (.bool p.n) := HXA.out.cell 1
    have k2 : A1.cell? ⟨w.heap.size, 2, none⟩ = some (.slice p.a p.xs.length p.ca) := HXA.out.cell 2
    have k3 : A1.cell? ⟨w.heap.size, 3, none⟩ = some (.slice p.b p.ys.length p.cb) := HXA.out.cell 3
    have k4 : A1.cell? ⟨w.heap.size, 4, none⟩ = some (.slice p.t p.ts.length p.ct) := HXA.out.cell 4
    go_wp2_with fail
    refine Calls.mono (HRP.out A1 HYA.out) ?_
    rintro e w3 ⟨S, rfl, hS, b3⟩
    rw [hG.mean]
    have HX3 := hid (HXA.out.later b3 HXA.out.lt)
    have HB3 := hid (bt HBA.out b3)
    have HSS := hid (hS hG.mean)
    have HHD := hid (phead_ok (p := p) HSS.out)
    have hSz : S.size ≤ 40964 := by
      have h1 := HRS.out hG
      rw [← HSS.out] at h1
      have h2 : S.data.toList.length = S.size := Array.length_toList
      omega
    have hNz : p.s.size ≤ 20 := by
      have h1 := (tname_ok hG.nm).2
      have h2 : p.s.data.toList.length = p.s.size := Array.length_toList
      omega
    clear b3 hS k0 k1 k2 k3 k4 HXA HYA HRP q0 q1 r0 r1 v0 v1 y0 HA HCK hW2 hs1 HRS
    have k0 : w3.cell? ⟨w.heap.size, 0, none⟩ = some (.string p.s) := HX3.out.cell 0
    have k1 : w3.cell? ⟨w.heap.size, 1, none⟩ = some (.bool p.n) := HX3.out.cell 1
    have k2 : w3.cell? ⟨w.heap.size, 2, none⟩ = some (.slice p.a p.xs.length p.ca) := HX3.out.cell 2
    have k3 : w3.cell? ⟨w.heap.size, 3, none⟩ = some (.slice p.b p.ys.length p.cb) := HX3.out.cell 3
    have k4 : w3.cell? ⟨w.heap.size, 4, none⟩ = some (.slice p.t p.ts.length p.ct) := HX3.out.cell 4
    go_wp2_with fail
    clear k0 k1 k2 k3 k4
    have HTZ : Hid (((⟨#[112, 111, 114, 116, 32]⟩ : ByteArray) ++ p.s ++ (⟨#[32]⟩ : ByteArray) ++ S ++ (⟨#[10]⟩ : ByteArray)).size ≤ 60000) := by
      show _ ≤ _
      simp only [ByteArray.size_append]
      have e1 : (⟨#[112, 111, 114, 116, 32]⟩ : ByteArray).size = 5 := rfl
      have e2 : (⟨#[32]⟩ : ByteArray).size = 1 := rfl
      have e3 : (⟨#[10]⟩ : ByteArray).size = 1 := rfl
      omega
    clear hSz hNz HSS
    obtain ⟨N, hN⟩ : ∃ N, p.ts.length = N := ⟨_, rfl⟩
    have HLN := hid hN
    have hN24 : N ≤ 24 := by rw [← hN]; exact hG.len
    rw [hN]
    clear hN
    go_loopw [7, 38] (fun v x wr => ∃ (i : Nat) (T : ByteArray), x = .int .i64 (i : Int) ∧ i ≤ N ∧ v = .string T ∧ Hid (T.data.toList = p.v.upto i) ∧ T.size ≤ 60000 + 65537 * i ∧ Hid (Below w.heap.size w wr)) (fun _ x _ => N - (intOf x).toNat)
    case atStart => exact ⟨0, _, rfl, by omega, rfl, hid (HHD.out.trans (PV.upto_zero _).symm), by have := HTZ.out; omega, HB3⟩
    case round =>
      obtain ⟨i, T, rfl, hi, rfl, HT, hTz, HBW⟩ := hrel
      by_cases hin : i < N
      · have hil : i < p.ts.length := by rw [HLN.out]; exact hin
        have HTW := hid (HTS.out wr HBW.out)
        rcases HTW.out.2 with e | ⟨bb, o, hpt, hbb, hc⟩
        · rw [e] at hil; exact absurd hil (by simp)
        have HCC : Hid (∀ V, Below w.heap.size w V → _) := fun V hV => HTP.out i V hil hV (HGG.out.at_ hil)
        have HNX : Hid (p.v.upto (i + 1) = p.v.upto i ++ (tT p.ts i).v.line) := PV.upto_next _ (by
          show (p.ts.map TL.v)[i]? = _
          rw [List.getElem?_map, tT_at hil]; rfl)
        have hci := hc i _ (tT_at hil)
        have e0 := hci 0 (by decide)
        have e1 := hci 1 (by decide)
        have e2 := hci 2 (by decide)
        have e3 := hci 3 (by decide)
        have e4 := hci 4 (by decide)
        have e5 := hci 5 (by decide)
        have e6 := hci 6 (by decide)
        have e7 := hci 7 (by decide)
        have e8 := hci 8 (by decide)
        clear hci hc
        rw [hpt]
        generalize tT p.ts i = tt at *
        have c0 : wr.cell? ⟨bb, o + i * 9, none⟩ = some (.string tt.s) := e0
        have c1 : wr.cell? ⟨bb, o + i * 9 + 1, none⟩ = some (.int .i32 tt.f) := e1
        have c2 : wr.cell? ⟨bb, o + i * 9 + 2, none⟩ = some (.int .i32 tt.r) := e2
        have c3 : wr.cell? ⟨bb, o + i * 9 + 3, none⟩ = some (.bool tt.n) := e3
        have c4 : wr.cell? ⟨bb, o + i * 9 + 4, none⟩ = some (.slice tt.a tt.xs.length tt.ca) := e4
        have c5 : wr.cell? ⟨bb, o + i * 9 + 5, none⟩ = some (.slice tt.b tt.ys.length tt.cb) := e5
        have c6 : wr.cell? ⟨bb, o + i * 9 + 6, none⟩ = some (.bool tt.m) := e6
        have c7 : wr.cell? ⟨bb, o + i * 9 + 7, none⟩ = some (.slice tt.c tt.us.length tt.cc) := e7
        have c8 : wr.cell? ⟨bb, o + i * 9 + 8, none⟩ = some (.slice tt.d tt.vs.length tt.cd) := e8
        clear e0 e1 e2 e3 e4 e5 e6 e7 e8
        obtain ⟨A0, A1, A2, A3, A4, A5, A6, A7, A8, q0, q1, q2, q3, q4, q5, q6, q7, q8, ⟨r0, r1, r2, r3, r4, r5, r6, r7, r8⟩, ⟨f0, f1, f2, f3, f4, f5, f6, f7, f8⟩, HA⟩ := tlbox wr tt
        have HBA' := hid (bt HBW.out HA.out.2)
        have m0 : A8.cell? ⟨wr.heap.size, 0, none⟩ = some (.string tt.s) := HA.out.1.cell 0
        have m1 : A8.cell? ⟨wr.heap.size, 1, none⟩ = some (.int .i32 tt.f) := HA.out.1.cell 1
        have m2 : A8.cell? ⟨wr.heap.size, 2, none⟩ = some (.int .i32 tt.r) := HA.out.1.cell 2
        have m3 : A8.cell? ⟨wr.heap.size, 3, none⟩ = some (.bool tt.n) := HA.out.1.cell 3
        have m4 : A8.cell? ⟨wr.heap.size, 4, none⟩ = some (.slice tt.a tt.xs.length tt.ca) := HA.out.1.cell 4
        have m5 : A8.cell? ⟨wr.heap.size, 5, none⟩ = some (.slice tt.b tt.ys.length tt.cb) := HA.out.1.cell 5
        have m6 : A8.cell? ⟨wr.heap.size, 6, none⟩ = some (.bool tt.m) := HA.out.1.cell 6
        have m7 : A8.cell? ⟨wr.heap.size, 7, none⟩ = some (.slice tt.c tt.us.length tt.cc) := HA.out.1.cell 7
        have m8 : A8.cell? ⟨wr.heap.size, 8, none⟩ = some (.slice tt.d tt.vs.length tt.cd) := HA.out.1.cell 8
        have hi0' : (0 : Int) ≤ (i : Int) := by omega
        have hi1 : (i : Int) < (N : Int) := by omega
        clear HA hbb
        go_wp2_with fail
        clear q0 q1 q2 q3 q4 q5 q6 q7 q8 r0 r1 r2 r3 r4 r5 r6 r7 r8 f0 f1 f2 f3 f4 f5 f6 f7 f8 c0 c1 c2 c3 c4 c5 c6 c7 c8
        refine Calls.mono (HCC.out _ HBA'.out) ?_
        rintro e w5 ⟨S2, cc, rfl, hcs, hb5⟩
        have HB5 := hid (bt HBA'.out hb5)
        have hTl : T.data.toList.length = T.size := Array.length_toList
        clear m0 m1 m2 m3 m4 m5 m6 m7 m8 HCC hb5
        rcases hcs with ⟨rfl, hl, hs⟩ | ⟨rfl, hl⟩
        · have HTN : Hid ((T ++ (S2 ++ (⟨#[10]⟩ : ByteArray))).data.toList = p.v.upto (i + 1)) := by
            show _ = _
            rw [ByteArray.data_append, Array.toList_append, hs, HT.out, HNX.out]
          have hS2 : S2.size + 1 ≤ 65537 := by
            have h1 : (S2 ++ (⟨#[10]⟩ : ByteArray)).data.toList.length = (S2 ++ (⟨#[10]⟩ : ByteArray)).size := Array.length_toList
            rw [hs, ByteArray.size_append] at h1
            have e3 : (⟨#[10]⟩ : ByteArray).size = 1 := rfl
            omega
          have HTS2 : Hid ((T ++ (S2 ++ (⟨#[10]⟩ : ByteArray))).size ≤ 60000 + 65537 * (i + 1)) := by
            show _ ≤ _
            rw [ByteArray.size_append, ByteArray.size_append]
            have e3 : (⟨#[10]⟩ : ByteArray).size = 1 := rfl
            omega
          clear hs hl HNX
          go_wp2_with fail
          go_roundw
          case rel => exact ⟨i + 1, _, by go_num, by omega, rfl, HTN, HTS2.out, HB5⟩
          case measure => simp [intOf]; omega
        · have HLG : Hid (65536 < p.v.text.length) := by
            have h1 := PV.upto_le p.v (i + 1)
            rw [HNX.out, List.length_append] at h1
            show _ < _
            omega
          go_wp2_with fail
          go_ret2
          exact ⟨⟨#[]⟩, 3, rfl, .inr ⟨HGG.out, .inl ⟨HLG.out, rfl, rfl⟩⟩, HB5.out⟩
      · obtain rfl : i = N := by omega
        have hi1 : ¬ (i : Int) < (i : Int) := by omega
        have hTl : T.data.toList.length = T.size := Array.length_toList
        have HTT : Hid (T.data.toList = p.v.text) := by
          have e : p.v.ts.length = i := by
            show (p.ts.map TL.v).length = i
            rw [List.length_map]; exact HLN.out
          show _ = _
          rw [HT.out, ← PV.upto_all, e]
        by_cases hlg : 65536 < T.size
        · have hlg' : (65536 : Int) < (T.size : Int) := by omega
          have HLG : Hid (65536 < p.v.text.length) := by
            show _ < _
            rw [← HTT.out, hTl]; exact hlg
          clear hTl hlg
          go_wp2_with fail
          go_ret2
          exact ⟨⟨#[]⟩, 3, rfl, .inr ⟨HGG.out, .inl ⟨HLG.out, rfl, rfl⟩⟩, HBW.out⟩
        · have hlg' : ¬ (65536 : Int) < (T.size : Int) := by omega
          have HLG : Hid (p.v.text.length ≤ 65536) := by
            show _ ≤ _
            rw [← HTT.out, hTl]; omega
          clear hTl hlg
          go_wp2_with fail
          go_ret2
          exact ⟨T, 0, rfl, .inr ⟨HGG.out, .inr ⟨HLG.out, rfl, HTT.out⟩⟩, HBW.out⟩
  · have h0' : (c == 0) = false := by simp [hc0]
    have h0'' : (c != 0) = true := by simp [hc0]
    clear HTP HRP HG HXA HYA
    go_wp2_with fail
    go_region_held3 (fun V : World => V.cell? ⟨w1.heap.size, 0, none⟩ = some (.int .i64 c)) (first | exact y0 | go_keep) (fail)
    all_goals
      have HCN := hid hc0
      clear hc0
      go_wp2_with fail
      go_ret2
      exact ⟨⟨#[]⟩, c, rfl, .inl ⟨z, HCK.out, HCN.out, rfl⟩, HBA.out.drew⟩
end Go.Proofs.YtnfemheabikolaaGreatDoor

/- Layer 14: the laws' hull, example and lives: what the document's examples say. (tools/mkqcd.py) -/
namespace Go.Proofs.YtnfemheabikolaaGreatDoor
open Go.RowKit
set_option linter.unusedVariables false
set_option linter.unusedSimpArgs false

def hullV : PV := ⟨⟨#[72, 117, 108, 108]⟩, false, [3], [2], []⟩
def exV : TV := ⟨⟨#[77, 50]⟩, 2, 1, false, [1], [2], false, [], [1]⟩
theorem exV_ok : exV.ok := ⟨by show (2 : Nat) ≤ maxLen; unfold maxLen; decide, by unfold in32 exV; decide, zw 1 (by decide) (by decide), zw 2 (by decide) (by decide), Wd.nil, zw 1 (by decide) (by decide)⟩
theorem exV_chk : exV.chk = 0 := by
  have h1 : rchk false [1] [2] = 0 := rchk_good (by simp) (by simp) rfl rfl (by simp) (.inl rfl) (by decide)
  have h2 : rchk false [] [1] = 0 := rchk_good (by simp) (by simp) rfl rfl (by simp) (.inl rfl) (by decide)
  have h3 : ochk 2 1 = 0 := by
    rcases ochk_or 2 1 with h | h
    · exact h.1
    · exact absurd (by unfold rOK; decide) h.2
  show tchk [77, 50] 2 1 (gchk false [1] [2] false [] [1]) = 0
  rw [tchk_rest _ _ _ zname, h3, fstE_zero]
  unfold gchk
  rw [h1, fstE_zero, h2]
theorem hullV_good : hullV.Good := ⟨by decide +kernel, zk32, by decide, fun j hj => absurd hj (by show ¬ j < 0; omega), fun k j hk hj => absurd hj (by show ¬ j < 0; omega), fun k j hk hj => absurd hj (by show ¬ j < 0; omega)⟩
set_option maxHeartbeats 1600000 in
set_option maxRecDepth 100000 in
theorem hull_any (w : World) : Calls Tryz.prog 10 #[] w fun e w' => ∃ p : PL, e = .returned (.agg #[.string p.s, .bool p.n, .slice p.a p.xs.length p.ca, .slice p.b p.ys.length p.cb, .slice p.t p.ts.length p.ct]) ∧ p.v = hullV ∧ p.ok w' ∧ Below w.heap.size w w' := by
  obtain ⟨X, hX⟩ : ∃ X, w.alloc (.cells #[.string ⟨#[]⟩, .bool false, .slice none 0 0, .slice none 0 0, .slice none 0 0] 27) = X := ⟨_, rfl⟩
  have HX : Hid (Box X w.heap.size 27 #[.string ⟨#[]⟩, .bool false, .slice none 0 0, .slice none 0 0, .slice none 0 0]) := by
    subst hX
    exact Box.made w _ _
  have HB : Hid (Below w.heap.size w X) := by
    subst hX
    exact alloc_later _ _
  obtain ⟨Y1, hY1⟩ : ∃ Y1, X.alloc (.cells #[.int .u32 3] 78) = Y1 := ⟨_, rfl⟩
  obtain ⟨Y2, hY2⟩ : ∃ Y2, Y1.alloc (.cells #[.int .u32 2] 78) = Y2 := ⟨_, rfl⟩
  have HO1 : Hid (Y1.ownsRow X.heap.size 78 1 (.slice (some ⟨X.heap.size, 0, none⟩) 1 1) 1 [.int .u32 3] ∧ Below X.heap.size X Y1) := by
    subst hY1
    exact ⟨World.ownsRow_lit X #[.int .u32 3] 1 (Nat.le_refl _) (by decide) rfl, alloc_later _ _⟩
  have HO2 : Hid (Y2.ownsRow X.heap.size 78 1 (.slice (some ⟨Y1.heap.size, 0, none⟩) 1 1) 1 [.int .u32 2] ∧ Below Y1.heap.size Y1 Y2) := by
    have hs := HO1.out.2.size
    subst hY2
    exact ⟨World.ownsRow_lit Y1 #[.int .u32 2] 1 hs (by decide) rfl, alloc_later _ _⟩
  have HR := hid (HX.out.later (bt HO1.out.2 HO2.out.2) HX.out.lt)
  obtain ⟨A0, A1, A2, A3, A4, q0, q1, q2, q3, q4, ⟨r0, r1, r2, r3, r4⟩, ⟨f0, f1, f2, f3, f4⟩, HA⟩ := pchain5 HR.out (.string ⟨#[72, 117, 108, 108]⟩) (.bool false) (.slice (some ⟨X.heap.size, 0, none⟩) 1 1) (.slice (some ⟨Y1.heap.size, 0, none⟩) 1 1) (.slice none 0 0)
  have HM : Hid (A4.ownsRow X.heap.size 78 1 (.slice (some ⟨X.heap.size, 0, none⟩) 1 1) 1 [.int .u32 3] ∧ A4.ownsRow X.heap.size 78 1 (.slice (some ⟨Y1.heap.size, 0, none⟩) 1 1) 1 [.int .u32 2] ∧ Below w.heap.size w A4) := ⟨HA.out.2.2.1 _ _ _ _ _ _ (by decide) (qown_later HO1.out.1 HO2.out.2), HA.out.2.2.1 _ _ _ _ _ _ (by decide) HO2.out.1, HA.out.2.2.2.1 _ _ (Nat.le_refl _) (bt HB.out (bt HO1.out.2 HO2.out.2))⟩
  have HE := hid HA.out.1
  clear HA HR HX
  go_enter Tryz.func10, Tryz.ntmps10
  go_wp2_with fail
  refine bodyPost_ret (results_cell_row (by rfl) _ _ w.heap.size 27 _ (0, 0) _ (by rfl) HE.out Tryz.underlying27 rfl (by kernel_rfl)) rfl ⟨⟨⟨#[72, 117, 108, 108]⟩, false, some ⟨X.heap.size, 0, none⟩, 1, [3], some ⟨Y1.heap.size, 0, none⟩, 1, [2], none, 0, []⟩, rfl, rfl, ⟨by show (4 : Nat) ≤ maxLen; unfold maxLen; decide, Sl.own HM.out.1 (zw 3 (by decide) (by decide)), Sl.own HM.out.2.1 (zw 2 (by decide) (by decide)), ⟨Nat.le_refl _, Nat.zero_le _, fun _ => ⟨rfl, rfl⟩⟩, ⟨fun t ht => absurd ht (by simp), .inl rfl⟩⟩, HM.out.2.2⟩
set_option maxHeartbeats 1600000 in
set_option maxRecDepth 100000 in
theorem pexample_any (w : World) : Calls Tryz.prog 11 #[] w fun e w' => ∃ t : TL, e = .returned (.agg #[.string t.s, .int .i32 t.f, .int .i32 t.r, .bool t.n, .slice t.a t.xs.length t.ca, .slice t.b t.ys.length t.cb, .bool t.m, .slice t.c t.us.length t.cc, .slice t.d t.vs.length t.cd]) ∧ t.v = exV ∧ t.ok w' ∧ Below w.heap.size w w' := by
  obtain ⟨X, hX⟩ : ∃ X, w.alloc (.cells #[.string ⟨#[]⟩, .int .i32 0, .int .i32 0, .bool false, .slice none 0 0, .slice none 0 0, .bool false, .slice none 0 0, .slice none 0 0] 37) = X := ⟨_, rfl⟩
  have HX : Hid (Box X w.heap.size 37 #[.string ⟨#[]⟩, .int .i32 0, .int .i32 0, .bool false, .slice none 0 0, .slice none 0 0, .bool false, .slice none 0 0, .slice none 0 0]) := by
    subst hX
    exact Box.made w _ _
  have HB : Hid (Below w.heap.size w X) := by
    subst hX
    exact alloc_later _ _
  obtain ⟨Y1, hY1⟩ : ∃ Y1, X.alloc (.cells #[.int .u32 1] 78) = Y1 := ⟨_, rfl⟩
  obtain ⟨Y2, hY2⟩ : ∃ Y2, Y1.alloc (.cells #[.int .u32 2] 78) = Y2 := ⟨_, rfl⟩
  obtain ⟨Y3, hY3⟩ : ∃ Y3, Y2.alloc (.cells #[.bool false, .slice (some ⟨X.heap.size, 0, none⟩) 1 1, .slice (some ⟨Y1.heap.size, 0, none⟩) 1 1] 24) = Y3 := ⟨_, rfl⟩
  obtain ⟨Y4, hY4⟩ : ∃ Y4, Y3.alloc (.cells #[.int .u32 1] 78) = Y4 := ⟨_, rfl⟩
  have HO1 : Hid (Y1.ownsRow X.heap.size 78 1 (.slice (some ⟨X.heap.size, 0, none⟩) 1 1) 1 [.int .u32 1] ∧ Below X.heap.size X Y1) := by
    subst hY1
    exact ⟨World.ownsRow_lit X #[.int .u32 1] 1 (Nat.le_refl _) (by decide) rfl, alloc_later _ _⟩
  have HO2 : Hid (Y2.ownsRow X.heap.size 78 1 (.slice (some ⟨Y1.heap.size, 0, none⟩) 1 1) 1 [.int .u32 2] ∧ Below Y1.heap.size Y1 Y2) := by
    have hs := HO1.out.2.size
    subst hY2
    exact ⟨World.ownsRow_lit Y1 #[.int .u32 2] 1 hs (by decide) rfl, alloc_later _ _⟩
  have HO3 : Hid (Box Y3 Y2.heap.size 24 #[.bool false, .slice (some ⟨X.heap.size, 0, none⟩) 1 1, .slice (some ⟨Y1.heap.size, 0, none⟩) 1 1] ∧ Below Y2.heap.size Y2 Y3) := by
    subst hY3
    exact ⟨Box.made Y2 _ _, alloc_later _ _⟩
  have hs3 : X.heap.size ≤ Y3.heap.size := (bt HO1.out.2 (bt HO2.out.2 HO3.out.2)).size
  have HO4 : Hid (Y4.ownsRow X.heap.size 78 1 (.slice (some ⟨Y3.heap.size, 0, none⟩) 1 1) 1 [.int .u32 1] ∧ Below Y3.heap.size Y3 Y4) := by
    subst hY4
    exact ⟨World.ownsRow_lit Y3 #[.int .u32 1] 1 hs3 (by decide) rfl, alloc_later _ _⟩
  have HXY := hid (bt HO1.out.2 (bt HO2.out.2 (bt HO3.out.2 HO4.out.2)))
  have HR := hid (HX.out.later HXY.out HX.out.lt)
  have hw0 : w.heap.size < X.heap.size := HX.out.lt
  have k0 : Y3.cell? ⟨Y2.heap.size, 0, none⟩ = some (.bool false) := HO3.out.1.cell 0
  have k1 : Y3.cell? ⟨Y2.heap.size, 1, none⟩ = some (.slice (some ⟨X.heap.size, 0, none⟩) 1 1) := HO3.out.1.cell 1
  have k2 : Y3.cell? ⟨Y2.heap.size, 2, none⟩ = some (.slice (some ⟨Y1.heap.size, 0, none⟩) 1 1) := HO3.out.1.cell 2
  obtain ⟨A0, A1, A2, A3, A4, A5, A6, A7, A8, q0, q1, q2, q3, q4, q5, q6, q7, q8, ⟨p0, p1, p2, p3, p4, p5, p6, p7, p8⟩, ⟨f0, f1, f2, f3, f4, f5, f6, f7, f8⟩⟩ := tchain9 HR.out (.string ⟨#[77, 50]⟩) (.int .i32 2) (.int .i32 1) (.bool false) (.slice (some ⟨X.heap.size, 0, none⟩) 1 1) (.slice (some ⟨Y1.heap.size, 0, none⟩) 1 1) (.bool false) (.slice none 0 0) (.slice (some ⟨Y3.heap.size, 0, none⟩) 1 1)
  have HOW : Hid (G6.Ow (TL.g ⟨⟨#[77, 50]⟩, 2, 1, false, some ⟨X.heap.size, 0, none⟩, 1, [1], some ⟨Y1.heap.size, 0, none⟩, 1, [2], false, none, 0, [], some ⟨Y3.heap.size, 0, none⟩, 1, [1]⟩) Y4 X.heap.size) := ⟨qown_later HO1.out.1 (bt HO2.out.2 (bt HO3.out.2 HO4.out.2)), qown_later HO2.out.1 (bt HO3.out.2 HO4.out.2), World.ownsRow_nil _ _ _ _, HO4.out.1⟩
  have HA := hid (tput9 (A8 := A8) (r := ⟨⟨#[77, 50]⟩, 2, 1, false, some ⟨X.heap.size, 0, none⟩, 1, [1], some ⟨Y1.heap.size, 0, none⟩, 1, [2], false, none, 0, [], some ⟨Y3.heap.size, 0, none⟩, 1, [1]⟩) HR.out (Nat.le_refl _) (bt HB.out HXY.out) HOW.out hw0 (by rw [← q8, ← q7, ← q6, ← q5, ← q4, ← q3, ← q2, ← q1, ← q0]; rfl))
  clear HR HX HO1 HO2 HO3 HO4 HOW HXY
  go_enter Tryz.func11, Tryz.ntmps11
  go_wp2_with fail
  refine bodyPost_ret (results_cell_row (by rfl) _ _ w.heap.size 37 _ (0, 0) _ (by rfl) HA.out.1 Tryz.underlying37 rfl (by kernel_rfl)) rfl ⟨_, rfl, rfl, TL.ok_of exV_ok HA.out.2.2.2, HA.out.2.1⟩
theorem hull_text : hullV.text = [112, 111, 114, 116, 32, 72, 117, 108, 108, 32, 51, 47, 50, 10] := by decide +kernel
theorem exV_short : ¬ mlong exV.q1 exV.q2 (oP exV.f exV.r 1).1 (oP exV.f exV.r 1).2 := by
  have h1 : rchk false [1] [2] = 0 := rchk_good (by simp) (by simp) rfl rfl (by simp) (.inl rfl) (by decide)
  have h2 : rchk false [] [1] = 0 := rchk_good (by simp) (by simp) rfl rfl (by simp) (.inl rfl) (by decide)
  have hp := oP_hgt (f := 2) (r := 1) (by unfold rOK; decide) 1 1 (by decide)
  exact mshort (K := 32 * 1) (J := 21 * 1) (hgt_words (zw 1 (by decide) (by decide)) (zw 2 (by decide) (by decide)) h1 (by decide) (by decide)) (hgt_words Wd.nil (zw 1 (by decide) (by decide)) h2 (by decide) (by decide)) hp.1 hp.2 (by decide)
theorem exV_moved : exV.q1 * (oP exV.f exV.r 1).1 - exV.q2 * (oP exV.f exV.r 1).2 = rq false [3] [10] := by decide +kernel
theorem z310 : rchk false [3] [10] = 0 := rchk_good (by simp) (by simp) rfl rfl (by simp) (.inl rfl) (by decide)
set_option maxHeartbeats 3200000 in
set_option maxRecDepth 100000 in
theorem plives_any (w : World) (htab : Tab w) : Calls Tryz.prog 20 #[] w fun e w' => e = .returned (.bool true) ∧ Below w.heap.size w w' := by
  have HH : Hid (∀ V, Calls Tryz.prog 10 #[] V fun e w' => ∃ p : PL, e = .returned (.agg #[.string p.s, .bool p.n, .slice p.a p.xs.length p.ca, .slice p.b p.ys.length p.cb, .slice p.t p.ts.length p.ct]) ∧ p.v = hullV ∧ p.ok w' ∧ Below V.heap.size V w') := fun V => hull_any V
  have HX : Hid (∀ V, Calls Tryz.prog 11 #[] V fun e w' => ∃ t : TL, e = .returned (.agg #[.string t.s, .int .i32 t.f, .int .i32 t.r, .bool t.n, .slice t.a t.xs.length t.ca, .slice t.b t.ys.length t.cb, .bool t.m, .slice t.c t.us.length t.cc, .slice t.d t.vs.length t.cd]) ∧ t.v = exV ∧ t.ok w' ∧ Below V.heap.size V w') := fun V => pexample_any V
  have HW : Hid (∀ (p : PL) (t : TL) (V : World), p.v = hullV → t.v = exV → p.ok V → t.ok V → Calls Tryz.prog 9 #[.agg #[.string p.s, .bool p.n, .slice p.a p.xs.length p.ca, .slice p.b p.ys.length p.cb, .slice p.t p.ts.length p.ct], .agg #[.string t.s, .int .i32 t.f, .int .i32 t.r, .bool t.n, .slice t.a t.xs.length t.ca, .slice t.b t.ys.length t.cb, .bool t.m, .slice t.c t.us.length t.cc, .slice t.d t.vs.length t.cd]] V fun e w' => ∃ q : PL, e = .returned (.tuple #[.agg #[.string q.s, .bool q.n, .slice q.a q.xs.length q.ca, .slice q.b q.ys.length q.cb, .slice q.t q.ts.length q.ct], .int .i64 0]) ∧ q.v = hullV.more exV ∧ (hullV.more exV).Good ∧ q.ok w' ∧ Below V.heap.size V w') := fun p t V hp ht op ot => by
    refine Calls.mono (pWith_told p t V op ot (by rw [hp]; exact hullV_good)) ?_
    rintro e w' ⟨q, c, rfl, h⟩
    rw [hp, ht] at h
    rcases h with ⟨_, _, h | h | ⟨j, hj, _⟩⟩ | ⟨rfl, hg, _, hm⟩
    · exact absurd exV_chk h
    · exact absurd h (by decide)
    · exact absurd hj (by show ¬ j < 0; omega)
    · have hv : (hullV.more exV).ok := by
        have h1 := op.v
        rw [hp] at h1
        refine ⟨h1.1, h1.2.1, h1.2.2.1, fun x hx => ?_⟩
        have hx' : x ∈ [exV] := hx
        rw [List.mem_singleton.1 hx']
        exact exV_ok
      exact ⟨q, rfl, hm.v, hg, PL.ok_of (by rw [hm.v]; exact hv) hm.ow, hm.bel⟩
  have HM : Hid (∀ (p : PL) (V : World), p.v = hullV.more exV → (hullV.more exV).Good → p.ok V → Calls Tryz.prog 17 #[.agg #[.string p.s, .bool p.n, .slice p.a p.xs.length p.ca, .slice p.b p.ys.length p.cb, .slice p.t p.ts.length p.ct], .int .i64 1] V fun e w' => ∃ (q : PL) (u : TL), e = .returned (.tuple #[.agg #[.string q.s, .bool q.n, .slice q.a q.xs.length q.ca, .slice q.b q.ys.length q.cb, .slice q.t 1 q.ct], .int .i64 0]) ∧ q.ts = [u] ∧ (u.n = false ∧ u.xs = [3] ∧ u.ys = [10]) ∧ RdT w' q.t [u] ∧ Below V.heap.size V w') := fun p V hp hg op => by
    have h0 : vT (hullV.more exV).ts 0 = exV := rfl
    refine Calls.mono (pMoved_good p 1 V op (by rw [hp]; exact hg) (by decide) (by decide) (fun j hj => ?_)) ?_
    · rw [hp] at hj ⊢
      have hj' : j < 1 := hj
      obtain rfl : j = 0 := by omega
      exact exV_short
    · rintro e w' ⟨q, vs, rfl, ⟨hl, hv⟩, hm⟩
      rw [hp] at hl hv
      have hl1 : vs.length = 1 := hl
      have hmv := hv 0 (by rw [← hl]; omega)
      rw [h0] at hmv
      have hqts : q.ts.map TL.v = vs := congrArg PV.ts hm.v
      have hql : q.ts.length = 1 := by rw [← hl1, ← hqts, List.length_map]
      obtain ⟨u, hu⟩ := List.length_eq_one_iff.1 hql
      have huv : u.v = vT vs 0 := by rw [← hqts, hu]; rfl
      rw [← huv] at hmv
      have hi := hmv.2.2.2
      rw [exV_moved] at hi
      have q1 := rq_inj hi.2.2.1 hi.2.2.2.1 (zw 3 (by decide) (by decide)) (zw 10 (by decide) (by decide)) hi.1.1 z310 hi.1.2
      have hrow := hm.ow.row
      have hel : ∀ t ∈ q.ts, t.ok w' := fun t ht => by
        rw [hu] at ht
        rw [List.mem_singleton.1 ht]
        refine TL.ok_of ?_ (hm.ow.els u (by rw [hu]; exact List.mem_singleton.2 rfl))
        have h2 : (2 : Nat) ≤ maxLen := by unfold maxLen; decide
        exact ⟨by rw [hmv.1]; exact h2, by rw [hmv.2.1, hmv.2.2.1]; exact exV_ok.2.1, hi.2.2⟩
      have hrd := rdT_own hrow hel
      refine ⟨q, u, ?_, hu, q1, ?_, hm.bel⟩
      · unfold PL.cells
        rw [hql]
      · rw [hu] at hrd
        exact hrd
  have HP : Hid (∀ (p : PL) (V : World), p.v = hullV → p.ok V → Below w.heap.size w V → Calls Tryz.prog 39 #[.agg #[.string p.s, .bool p.n, .slice p.a p.xs.length p.ca, .slice p.b p.ys.length p.cb, .slice p.t p.ts.length p.ct]] V fun e w' => e = .returned (.tuple #[.string ⟨#[112, 111, 114, 116, 32, 72, 117, 108, 108, 32, 51, 47, 50, 10]⟩, .int .i64 0]) ∧ Below V.heap.size V w') := fun p V hp op hV => by
    refine Calls.mono (pPrint_any p V op (htab.later hV)) ?_
    rintro e w' ⟨S, c, rfl, h, hb⟩
    have hg : p.v.Good := by rw [hp]; exact hullV_good
    rcases h with ⟨z, hz, hc, _⟩ | ⟨_, ⟨hl, _⟩ | ⟨_, rfl, hS⟩⟩
    · exact absurd (PCk.one0 hz hg) hc
    · rw [hp, hull_text] at hl
      exact absurd hl (by decide)
    · rw [hp, hull_text] at hS
      have e : S = ⟨#[112, 111, 114, 116, 32, 72, 117, 108, 108, 32, 51, 47, 50, 10]⟩ := ByteArray.ext (Array.toList_inj.1 hS)
      rw [e]
      exact ⟨rfl, hb⟩
  clear htab
  go_enter Tryz.func20, Tryz.ntmps20
  go_wp2_with fail
  refine Calls.mono (HH.out w) ?_
  rintro e w1 ⟨p, rfl, hp, op, b1⟩
  go_wp2_with fail
  refine Calls.mono (HX.out w1) ?_
  rintro e w2 ⟨t, rfl, ht, ot, b2⟩
  go_wp2_with fail
  refine Calls.mono (HW.out p t w2 hp ht (op.later b2) ot) ?_
  rintro e w3 ⟨q, rfl, hq, hgq, oq, b3⟩
  have HB3 := hid (bt b1 (bt b2 b3))
  obtain ⟨Q, hQ⟩ : ∃ Q, w3.alloc (.cells #[.string q.s, .bool q.n, .slice q.a q.xs.length q.ca, .slice q.b q.ys.length q.cb, .slice q.t q.ts.length q.ct] 27) = Q := ⟨_, rfl⟩
  have HQ : Hid (Box Q w3.heap.size 27 #[.string q.s, .bool q.n, .slice q.a q.xs.length q.ca, .slice q.b q.ys.length q.cb, .slice q.t q.ts.length q.ct]) := by
    subst hQ
    exact Box.made w3 _ _
  have HBQ : Hid (Below w3.heap.size w3 Q) := by
    subst hQ
    exact alloc_later _ _
  have k0 : Q.cell? ⟨w3.heap.size, 0, none⟩ = some (.string q.s) := HQ.out.cell 0
  have k1 : Q.cell? ⟨w3.heap.size, 1, none⟩ = some (.bool q.n) := HQ.out.cell 1
  have k2 : Q.cell? ⟨w3.heap.size, 2, none⟩ = some (.slice q.a q.xs.length q.ca) := HQ.out.cell 2
  have k3 : Q.cell? ⟨w3.heap.size, 3, none⟩ = some (.slice q.b q.ys.length q.cb) := HQ.out.cell 3
  have k4 : Q.cell? ⟨w3.heap.size, 4, none⟩ = some (.slice q.t q.ts.length q.ct) := HQ.out.cell 4
  have hmv := HM.out q Q hq hgq (oq.later HBQ.out)
  clear hp ht op ot b1 b2 b3 hq hgq oq HM HW HX
  go_wp2_with fail
  refine Calls.mono hmv ?_
  rintro e w4 ⟨m, u, rfl, hu, ⟨u1, u2, u3⟩, hrd, b4⟩
  have HB4 := hid (bt HB3.out (bt HBQ.out b4))
  clear k0 k1 k2 k3 k4 hmv
  obtain ⟨M, hM⟩ : ∃ M, w4.alloc (.cells #[.string m.s, .bool m.n, .slice m.a m.xs.length m.ca, .slice m.b m.ys.length m.cb, .slice m.t 1 m.ct] 27) = M := ⟨_, rfl⟩
  have HMB : Hid (Box M w4.heap.size 27 #[.string m.s, .bool m.n, .slice m.a m.xs.length m.ca, .slice m.b m.ys.length m.cb, .slice m.t 1 m.ct]) := by
    subst hM
    exact Box.made w4 _ _
  have HBM : Hid (Below w4.heap.size w4 M) := by
    subst hM
    exact alloc_later _ _
  have HRD := hid (hrd.later HBM.out)
  have HBW := hid (bt HB4.out HBM.out)
  clear hrd b4 hu
  go_wp2_with fail
  refine Calls.mono (HH.out M) ?_
  rintro e w5 ⟨p2, rfl, hp2, op2, b5⟩
  go_wp2_with fail
  refine Calls.mono (HP.out p2 w5 hp2 op2 (bt HBW.out b5)) ?_
  rintro e w6 ⟨rfl, b6⟩
  have HB6 := hid (bt HBW.out (bt b5 b6))
  have HR6 := hid (HRD.out.later (bt b5 b6))
  have HM6 := hid (HMB.out.later (bt b5 b6) HMB.out.lt)
  have j4 : w6.cell? ⟨w4.heap.size, 4, none⟩ = some (.slice m.t 1 m.ct) := HM6.out.cell 4
  clear hp2 op2 b5 b6 HH HP
  rcases HR6.out.2 with e | ⟨bb, o, hmt, hbb, hc⟩
  · cases e
  have hci := hc 0 u rfl
  have c3 : w6.cell? ⟨bb, o + 3, none⟩ = some (.bool u.n) := by have := hci 3 (by decide); rw [show o + 0 * 9 + 3 = o + 3 by omega] at this; exact this
  have c4 : w6.cell? ⟨bb, o + 4, none⟩ = some (.slice u.a u.xs.length u.ca) := by have := hci 4 (by decide); rw [show o + 0 * 9 + 4 = o + 4 by omega] at this; exact this
  have c5 : w6.cell? ⟨bb, o + 5, none⟩ = some (.slice u.b u.ys.length u.cb) := by have := hci 5 (by decide); rw [show o + 0 * 9 + 5 = o + 5 by omega] at this; exact this
  rw [u1] at c3
  rw [u2] at c4
  rw [u3] at c5
  rw [hmt] at j4
  have ouk := HR6.out.1 u (List.mem_singleton.2 rfl)
  have osx := ouk.sx
  have osy := ouk.sy
  rw [u2] at osx
  rw [u3] at osy
  obtain ⟨V1, hV1⟩ : ∃ V1, w6.alloc (.cells #[.int .u32 3] 78) = V1 := ⟨_, rfl⟩
  obtain ⟨V2, hV2⟩ : ∃ V2, V1.alloc (.cells #[.int .u32 10] 78) = V2 := ⟨_, rfl⟩
  have HV1 : Hid (Sl V1 (.slice (some ⟨w6.heap.size, 0, none⟩) 1 1) [3] ∧ Below w6.heap.size w6 V1) := by
    subst hV1
    exact ⟨Sl.lit w6 [3] (zw 3 (by decide) (by decide)) (by decide), alloc_later _ _⟩
  have HV2 : Hid (Sl V2 (.slice (some ⟨V1.heap.size, 0, none⟩) 1 1) [10] ∧ Below V1.heap.size V1 V2) := by
    subst hV2
    exact ⟨Sl.lit V1 [10] (zw 10 (by decide) (by decide)) (by decide), alloc_later _ _⟩
  have HSM := hid (gsameRatio_eq false (.slice u.a 1 u.ca) (.slice u.b 1 u.cb) (.slice (some ⟨w6.heap.size, 0, none⟩) 1 1) (.slice (some ⟨V1.heap.size, 0, none⟩) 1 1) [3] [10] V2 (osx.later (bt HV1.out.2 HV2.out.2)) (osy.later (bt HV1.out.2 HV2.out.2)) (HV1.out.1.later HV2.out.2) HV2.out.1 (by decide) (by decide))
  have HBV := hid (bt HB6.out (bt HV1.out.2 HV2.out.2))
  clear hci hc ouk osx osy HV1 HV2
  go_wp2_with fail
  refine Calls.mono HSM.out ?_
  rintro e w7 ⟨rfl, b7⟩
  go_wp2_with fail
  go_ret
  exact ⟨rfl, bt HBV.out b7⟩
end Go.Proofs.YtnfemheabikolaaGreatDoor

/- The kit's NumbersOf and PartsOf, of any constituents. -/
namespace Go.Proofs.YtnfemheabikolaaGreatDoor
open Go.RowKit
set_option linter.unusedVariables false
set_option linter.unusedSimpArgs false

theorem Tryz.infoGs : (Tryz.prog.info? 35).map (fun i => (i.zero, i.size, i.bytes)) = some (some (.agg #[.bool false, .slice none 0 0, .slice none 0 0, .bool false, .slice none 0 0, .slice none 0 0]), 6, 112) := by kernel_rfl
def F3.cells (f : F3) : List Value := [.bool f.n, .slice f.a f.xs.length f.ca, .slice f.b f.ys.length f.cb]
def flat3 (L : List F3) : List Value := L.flatMap F3.cells
theorem flat3_append (L M : List F3) : flat3 (L ++ M) = flat3 L ++ flat3 M := by unfold flat3; rw [List.flatMap_append]
theorem flat3_cons (f : F3) (L : List F3) : flat3 (f :: L) = f.cells ++ flat3 L := rfl
theorem flat3_len (L : List F3) : (flat3 L).length = L.length * 3 := by
  induction L with
  | nil => rfl
  | cons t L ih => rw [flat3_cons, List.length_append, ih, List.length_cons, show t.cells.length = 3 from rfl]; omega
theorem flat3_at {L : List F3} {j : Nat} {f : F3} (h : L[j]? = some f) {k : Nat} (hk : k < 3) : (flat3 L)[j * 3 + k]? = f.cells[k]? := by
  induction L generalizing j with
  | nil => simp at h
  | cons u L ih =>
    rw [flat3_cons]
    have hs : u.cells.length = 3 := rfl
    cases j with
    | zero =>
      injection h with h
      subst h
      rw [List.getElem?_append_left (by omega), Nat.zero_mul, Nat.zero_add]
    | succ j =>
      rw [List.getElem?_append_right (by omega), show (j + 1) * 3 + k - u.cells.length = j * 3 + k by omega]
      exact ih h
theorem flat3_one (L : List F3) : ∀ u ∈ flat3 L, u.oneCell' = true := by
  intro u hu
  obtain ⟨t, _, ht⟩ := List.mem_flatMap.1 hu
  simp only [F3.cells, List.mem_cons, List.not_mem_nil, or_false] at ht
  rcases ht with rfl | rfl | rfl <;> rfl
def TL.re (t : TL) : F3 := ⟨t.n, t.a, t.ca, t.xs, t.b, t.cb, t.ys⟩
def TL.im (t : TL) : F3 := ⟨t.m, t.c, t.cc, t.us, t.d, t.cd, t.vs⟩
def TL.six (t : TL) : List Value := [.bool t.n, .slice t.a t.xs.length t.ca, .slice t.b t.ys.length t.cb, .bool t.m, .slice t.c t.us.length t.cc, .slice t.d t.vs.length t.cd]
def partsT (ts : List TL) : List F3 := ts.flatMap fun t => [t.re, t.im]
theorem partsT_len (ts : List TL) : (partsT ts).length = 2 * ts.length := by
  induction ts with
  | nil => rfl
  | cons t L ih =>
    have e : (partsT (t :: L)).length = 2 + (partsT L).length := by
      rw [show partsT (t :: L) = [t.re, t.im] ++ partsT L from rfl, List.length_append]; rfl
    rw [e, ih, List.length_cons]
    omega
theorem flatP_snoc (ts : List TL) (t : TL) : flat3 (partsT (ts ++ [t])) = flat3 (partsT ts) ++ t.six := by
  unfold partsT
  rw [List.flatMap_append, flat3_append]
  rfl
theorem flatP_take {ts : List TL} {k : Nat} (h : k < ts.length) : flat3 (partsT (ts.take (k + 1))) = flat3 (partsT (ts.take k)) ++ (tT ts k).six := by
  rw [List.take_add_one, tT_at h]
  exact flatP_snoc _ _
theorem flatP_len (ts : List TL) : (flat3 (partsT ts)).length = ts.length * 6 := by rw [flat3_len, partsT_len]; omega
theorem flatP_at {ts : List TL} {j : Nat} (h : j < ts.length) {k : Nat} (hk : k < 6) : (flat3 (partsT ts))[j * 6 + k]? = (tT ts j).six[k]? := by
  have e : ts = ts.take (j + 1) ++ ts.drop (j + 1) := (List.take_append_drop _ _).symm
  have e2 : flat3 (partsT ts) = flat3 (partsT (ts.take j)) ++ (tT ts j).six ++ flat3 (partsT (ts.drop (j + 1))) := by
    rw [← flatP_take h, ← flat3_append]
    conv => lhs; rw [e]
    unfold partsT
    rw [List.flatMap_append]
  have hl : (flat3 (partsT (ts.take j))).length = j * 6 := by rw [flatP_len, List.length_take, Nat.min_eq_left (by omega)]
  rw [e2, List.append_assoc, List.getElem?_append_right (by omega), hl, show j * 6 + k - j * 6 = k by omega, List.getElem?_append_left (by show k < 6; exact hk)]
theorem TL.six_one (t : TL) : ∀ u ∈ t.six, u.oneCell' = true := by
  intro u hu
  simp only [TL.six, List.mem_cons, List.not_mem_nil, or_false] at hu
  rcases hu with rfl | rfl | rfl | rfl | rfl | rfl <;> rfl
set_option maxHeartbeats 1600000 in
set_option maxRecDepth 100000 in
theorem numbersOf_any (t : Option Addr) (n ct : Nat) (ts : List TL) (w : World) (hn : n ≤ 1000) (hl : ts.length = n) (h : RdT w t ts) :
    Calls Tryz.prog 74 #[.slice t n ct] w fun e w' => ∃ a c, e = .returned (.slice a n c) ∧ w'.ownsRow w.heap.size 35 6 (.slice a n c) n (flat3 (partsT ts)) ∧ Below w.heap.size w w' := by
  obtain ⟨i0, hi0, hz0, hz1, hz2⟩ := info_parts Tryz.infoGs
  have HT := hid h
  have HL := hid hl
  clear h hl
  go_enter Tryz.func74, Tryz.ntmps74
  go_wp2_with fail
  go_loopw [3, 4] (fun v x wr => ∃ (k : Nat) (q : Option Addr) (d : Nat), k ≤ n ∧ x = .int .i64 (k : Int) ∧ v = .slice q k d ∧ Hid (wr.ownsRow w.heap.size 35 6 (.slice q k d) k (flat3 (partsT (ts.take k)))) ∧ Hid (Below w.heap.size w wr)) (fun _ x _ => n - (intOf x).toNat)
  case atStart => exact ⟨0, none, 0, Nat.zero_le _, rfl, rfl, World.ownsRow_nil _ _ _ _, Below.refl _ _⟩
  case round =>
    obtain ⟨k, q, d, hk, rfl, rfl, HO, HB⟩ := hrel
    by_cases hlt : k < n
    · have hkl : k < ts.length := by rw [HL.out]; exact hlt
      have HTW := hid (HT.out.later HB.out)
      rcases HTW.out.2 with e | ⟨bb, o, rfl, hbb, hc⟩
      · rw [e] at hkl; exact absurd hkl (by simp)
      have hci := hc k _ (tT_at hkl)
      have HN := hid (flatP_take hkl)
      have e3 := hci 3 (by decide)
      have e4 := hci 4 (by decide)
      have e5 := hci 5 (by decide)
      have e6 := hci 6 (by decide)
      have e7 := hci 7 (by decide)
      have e8 := hci 8 (by decide)
      clear hci hc
      generalize tT ts k = tt at *
      have c3 : wr.cell? ⟨bb, o + k * 9 + 3, none⟩ = some (.bool tt.n) := e3
      have c4 : wr.cell? ⟨bb, o + k * 9 + 4, none⟩ = some (.slice tt.a tt.xs.length tt.ca) := e4
      have c5 : wr.cell? ⟨bb, o + k * 9 + 5, none⟩ = some (.slice tt.b tt.ys.length tt.cb) := e5
      have c6 : wr.cell? ⟨bb, o + k * 9 + 6, none⟩ = some (.bool tt.m) := e6
      have c7 : wr.cell? ⟨bb, o + k * 9 + 7, none⟩ = some (.slice tt.c tt.us.length tt.cc) := e7
      have c8 : wr.cell? ⟨bb, o + k * 9 + 8, none⟩ = some (.slice tt.d tt.vs.length tt.cd) := e8
      clear e3 e4 e5 e6 e7 e8
      have hk0 : (0 : Int) ≤ (k : Int) := by omega
      have hk1 : (k : Int) < (n : Int) := by omega
      obtain ⟨W3, hW3⟩ : ∃ W3, wr.alloc (.cells #[.bool tt.n, .slice tt.a tt.xs.length tt.ca, .slice tt.b tt.ys.length tt.cb, .bool tt.m, .slice tt.c tt.us.length tt.cc, .slice tt.d tt.vs.length tt.cd] 35) = W3 := ⟨_, rfl⟩
      have HBW : Hid (Below wr.heap.size wr W3) := by
        subst hW3
        exact alloc_later _ _
      have HNW : Hid (∀ j v, tt.six[j]? = some v → W3.cell? ((⟨wr.heap.size, 0, none⟩ : Addr).add j) = some v) := by
        subst hW3
        exact qcells_new wr _ _
      have HOW := hid (qown_later HO.out HBW.out)
      have HB3 := hid (bt HB.out HBW.out)
      clear HO HBW hbb
      go_wp2_with (first
        | (at_builtin; refine wpList_append_own_at _ rfl _ _ 111 rfl w.heap.size 35 i0 (.agg #[.bool false, .slice none 0 0, .slice none 0 0, .bool false, .slice none 0 0, .slice none 0 0]) 6 112 Tryz.underlying111 hi0 hz0 hz1 hz2 rfl (by decide) (.slice q k d) k (flat3 (partsT (ts.take k))) rfl HOW.out ⟨wr.heap.size, 0, none⟩ 1 1 tt.six rfl rfl HNW.out tt.six_one ?hm ?hb HB3.out.size ?_; rotate_right; intro v1 y1 o1 g1 _ at1))
      case hm => unfold maxLen; omega
      case hb => omega
      have HO1 : Hid (y1.ownsRow w.heap.size 35 6 v1 (k + 1) (flat3 (partsT (ts.take (k + 1))))) := by rw [HN.out]; exact o1
      have HB1 := hid (HB3.out.grown g1 HB3.out.size (fun g e => (HOW.out.lt g e).1))
      obtain ⟨q1, d1, hv1⟩ := qown_slice o1
      subst hv1
      clear o1 g1 HOW HNW HN c3 c4 c5 c6 c7 c8
      (try go_wp2_with fail)
      go_roundw
      case rel => exact ⟨k + 1, q1, d1, by omega, by go_num, rfl, HO1, HB1⟩
      case measure => simp [intOf]; omega
    · obtain rfl : k = n := by omega
      have hk1 : ¬ (k : Int) < (k : Int) := by omega
      have HF : Hid (wr.ownsRow w.heap.size 35 6 (.slice q k d) k (flat3 (partsT ts))) := by
        have e : ts.take k = ts := by rw [← HL.out]; exact List.take_length
        have := HO.out
        rw [e] at this
        exact this
      go_wp2_with fail
      go_ret
      exact ⟨q, d, rfl, HF.out, HB.out⟩
set_option maxHeartbeats 1600000 in
set_option maxRecDepth 100000 in
theorem partsOf_any (a : Option Addr) (N c base : Nat) (ts : List TL) (w : World) (hN : N ≤ 1000) (hl : ts.length = N) (h : w.ownsRow base 35 6 (.slice a N c) N (flat3 (partsT ts))) :
    Calls Tryz.prog 73 #[.slice a N c] w fun e w' => ∃ a2 c2, e = .returned (.slice a2 (2 * N) c2) ∧ w'.ownsRow w.heap.size 24 3 (.slice a2 (2 * N) c2) (2 * N) (flat3 (partsT ts)) ∧ (N = 0 → a2 = none ∧ c2 = 0) ∧ Below w.heap.size w w' := by
  obtain ⟨i0, hi, hz0, hz1, hz2⟩ := info_parts Tryz.infoKg
  have HT := hid h
  have HL := hid hl
  clear h hl
  go_enter Tryz.func73, Tryz.ntmps73
  go_wp2_with fail
  go_loopw [3, 4] (fun v x wr => ∃ (k : Nat) (q : Option Addr) (d : Nat), k ≤ N ∧ x = .int .i64 (k : Int) ∧ v = .slice q (2 * k) d ∧ Hid (wr.ownsRow w.heap.size 24 3 (.slice q (2 * k) d) (2 * k) (flat3 (partsT (ts.take k)))) ∧ (k = 0 → q = none ∧ d = 0) ∧ Hid (Below w.heap.size w wr)) (fun _ x _ => N - (intOf x).toNat)
  case atStart => exact ⟨0, none, 0, Nat.zero_le _, rfl, rfl, World.ownsRow_nil _ _ _ _, (fun _ => ⟨rfl, rfl⟩), Below.refl _ _⟩
  case round =>
    obtain ⟨k, q, d, hk, rfl, rfl, HO, hz, HB⟩ := hrel
    by_cases hlt : k < N
    · clear hz
      have hkl : k < ts.length := by rw [HL.out]; exact hlt
      obtain ⟨g, rfl⟩ : ∃ g, a = some ⟨g, 0, none⟩ := by
        rcases HT.out.2 with ⟨h1, h0⟩ | ⟨g, cap, cur, hv, _⟩
        · omega
        · injection hv with e1 _ _
          exact ⟨g, e1⟩
      have HN := hid (flatP_take hkl)
      have HK : Hid (∀ V, Below w.heap.size w V → V.cell? ⟨g, k * 6, none⟩ = some (.bool (tT ts k).n) ∧ V.cell? ⟨g, k * 6 + 1, none⟩ = some (.slice (tT ts k).a (tT ts k).xs.length (tT ts k).ca) ∧ V.cell? ⟨g, k * 6 + 2, none⟩ = some (.slice (tT ts k).b (tT ts k).ys.length (tT ts k).cb) ∧ V.cell? ⟨g, k * 6 + 3, none⟩ = some (.bool (tT ts k).m) ∧ V.cell? ⟨g, k * 6 + 4, none⟩ = some (.slice (tT ts k).c (tT ts k).us.length (tT ts k).cc) ∧ V.cell? ⟨g, k * 6 + 5, none⟩ = some (.slice (tT ts k).d (tT ts k).vs.length (tT ts k).cd)) := fun V hV => by
        have hr := qown_later HT.out hV
        have c : ∀ i, i < 6 → V.cell? ⟨g, k * 6 + i, none⟩ = (tT ts k).six[i]? := fun i hi => by rw [hr.cellAt (k * 6 + i) (by omega), flatP_at hkl hi]
        exact ⟨c 0 (by decide), c 1 (by decide), c 2 (by decide), c 3 (by decide), c 4 (by decide), c 5 (by decide)⟩
      have hk0 : (0 : Int) ≤ (k : Int) := by omega
      have hk1 : (k : Int) < (N : Int) := by omega
      generalize tT ts k = tt at *
      have hs0 := HK.out _ HB.out.drew
      have hbA : Below w.heap.size w (wr.alloc (.cells #[.bool tt.n, .slice tt.a tt.xs.length tt.ca, .slice tt.b tt.ys.length tt.cb, .bool tt.m, .slice tt.c tt.us.length tt.cc, .slice tt.d tt.vs.length tt.cd] 24)).drew := (bt HB.out (alloc_later wr _)).drew
      have HOA : Hid ((wr.alloc (.cells #[.bool tt.n, .slice tt.a tt.xs.length tt.ca, .slice tt.b tt.ys.length tt.cb, .bool tt.m, .slice tt.c tt.us.length tt.cc, .slice tt.d tt.vs.length tt.cd] 24)).drew.ownsRow w.heap.size 24 3 (.slice q (2 * k) d) (2 * k) (flat3 (partsT (ts.take k)))) := qown_later HO.out (bt (alloc_later wr _) (Below.drew (Below.refl _ _)))
      have hsA := HK.out _ hbA
      have hsz := HB.out.size
      obtain ⟨e0, e1, e2, e3, e4, e5⟩ := HK.out wr HB.out
      go_wp2_with fail
      go_region_held3 (fun V : World => V.cell? ⟨g, k * 6, none⟩ = some (.bool tt.n) ∧ V.cell? ⟨g, k * 6 + 1, none⟩ = some (.slice tt.a tt.xs.length tt.ca) ∧ V.cell? ⟨g, k * 6 + 2, none⟩ = some (.slice tt.b tt.ys.length tt.cb) ∧ V.cell? ⟨g, k * 6 + 3, none⟩ = some (.bool tt.m) ∧ V.cell? ⟨g, k * 6 + 4, none⟩ = some (.slice tt.c tt.us.length tt.cc) ∧ V.cell? ⟨g, k * 6 + 5, none⟩ = some (.slice tt.d tt.vs.length tt.cd)) (first | exact hs0 | exact hsA | exact hs1 | go_keep)
        (first | (refine step_append_own_at rfl (.tmp 11) (.tmp 22) 109 rfl w.heap.size 24 i0 (.agg #[.bool false, .slice none 0 0, .slice none 0 0]) 3 56 Tryz.underlying109 hi hz0 hz1 hz2 rfl (by decide) (.slice q (2 * k) d) (2 * k) (flat3 (partsT (ts.take k))) rfl HOA.out ⟨wr.heap.size, 0, none⟩ 2 2 tt.six rfl rfl (kg_six_cells wr _ _ _ _ _ _ _) tt.six_one (by unfold maxLen; omega) (by omega) hbA.size ?_; intro v1 w1 o1 gr1 at1; have hs1 := HK.out _ (hbA.grown gr1 hbA.size (fun k hk => (HOA.out.lt k hk).1))))
      have HB1 := hid (hbA.grown gr1 hbA.size (fun k hk => (HOA.out.lt k hk).1))
      obtain ⟨q1, d1, hv1⟩ := qown_slice o1
      subst hv1
      have HO1 : Hid (w1.ownsRow w.heap.size 24 3 (.slice q1 (2 * (k + 1)) d1) (2 * (k + 1)) (flat3 (partsT (ts.take (k + 1))))) := by
        rw [HN.out]
        exact o1
      clear o1 gr1 HOA hbA hsA hs0 hs1 e0 e1 e2 e3 e4 e5 hsz HO HB HK HN
      go_wp2_with fail
      go_roundw
      case rel => exact ⟨k + 1, q1, d1, by omega, by go_num, rfl, HO1, (fun h => by omega), HB1⟩
      case measure => simp [intOf]; omega
    · obtain rfl : k = N := by omega
      have hk1 : ¬ (k : Int) < (k : Int) := by omega
      have HF : Hid (wr.ownsRow w.heap.size 24 3 (.slice q (2 * k) d) (2 * k) (flat3 (partsT ts))) := by
        have e : ts.take k = ts := by rw [← HL.out]; exact List.take_length
        have := HO.out
        rw [e] at this
        exact this
      have HZ := hid hz
      clear hz
      go_wp2_with fail
      go_ret
      exact ⟨q, d, rfl, HF.out, HZ.out, HB.out⟩
end Go.Proofs.YtnfemheabikolaaGreatDoor

/- Layer 14: the laws' wide, large and narrow. (tools/mkqcf.py) -/
namespace Go.Proofs.YtnfemheabikolaaGreatDoor
open Go.RowKit
set_option linter.unusedVariables false
set_option linter.unusedSimpArgs false

def BoW (w : World) (e : Ending) (w' : World) : Prop := ∃ bo : Bool, e = .returned (.bool bo) ∧ Below w.heap.size w w'
theorem pwide_any (n : Bool) (a : Option Addr) (lx ca : Nat) (b : Option Addr) (ly cb : Nat) (w : World) :
    Calls Tryz.prog 29 #[.agg #[.bool n, .slice a lx ca, .slice b ly cb]] w (BoW w) := by
  obtain ⟨X, hX⟩ : ∃ X, w.alloc (.cells #[.bool n, .slice a lx ca, .slice b ly cb] 24) = X := ⟨_, rfl⟩
  have HX : Hid (Box X w.heap.size 24 #[.bool n, .slice a lx ca, .slice b ly cb]) := by
    subst hX
    exact Box.made w _ _
  have HB : Hid (Below w.heap.size w X) := by
    subst hX
    exact alloc_later _ _
  have k1 : X.cell? ⟨w.heap.size, 1, none⟩ = some (.slice a lx ca) := HX.out.cell 1
  have k2 : X.cell? ⟨w.heap.size, 2, none⟩ = some (.slice b ly cb) := HX.out.cell 2
  obtain ⟨M, hM⟩ : ∃ M : Nat, (∀ V ty, (Builtin.max_ #[3, 3] ty #[.int .i64 (lx : Int), .int .i64 (ly : Int)]).run Tryz.prog V = .ok (.int .i64 (M : Int)) V) := by
    by_cases h : lx < ly
    · have h' : (lx : Int) < (ly : Int) := by omega
      exact ⟨ly, fun V ty => by simp [Builtin.max_, Builtin.max2, h, h']⟩
    · have h' : ¬ (lx : Int) < (ly : Int) := by omega
      exact ⟨lx, fun V ty => by simp [Builtin.max_, Builtin.max2, h, h']⟩
  have HM := hid hM
  by_cases h1 : (M : Int) ≤ 12
  · have h1' : ¬ (12 : Int) < (M : Int) := by omega
    go_enter Tryz.func29, Tryz.ntmps29
    go_wp2_with fail
    go_ret
    exact ⟨_, rfl, HB.out⟩
  · have h1' : (12 : Int) < (M : Int) := by omega
    by_cases h2 : (M : Int) ≤ 2048
    · go_enter Tryz.func29, Tryz.ntmps29
      go_wp2_with fail
      go_ret
      exact ⟨_, rfl, HB.out⟩
    · go_enter Tryz.func29, Tryz.ntmps29
      go_wp2_with fail
      go_ret
      exact ⟨_, rfl, HB.out⟩
set_option maxHeartbeats 1600000 in
set_option maxRecDepth 100000 in
theorem plarge_any (p : PL) (w : World) (hp : p.ok w) : Calls Tryz.prog 21 #[.agg p.cells] w (BoW w) := by
  obtain ⟨X, hX⟩ : ∃ X, w.alloc (.cells #[.string p.s, .bool p.n, .slice p.a p.xs.length p.ca, .slice p.b p.ys.length p.cb, .slice p.t p.ts.length p.ct] 27) = X := ⟨_, rfl⟩
  have HX : Hid (Box X w.heap.size 27 #[.string p.s, .bool p.n, .slice p.a p.xs.length p.ca, .slice p.b p.ys.length p.cb, .slice p.t p.ts.length p.ct]) := by
    subst hX
    exact Box.made w _ _
  have HB : Hid (Below w.heap.size w X) := by
    subst hX
    exact alloc_later _ _
  have HTS : Hid (∀ V, Below w.heap.size w V → RdT V p.t p.ts) := fun V hV => hp.ts.later hV
  have HWD : Hid (∀ (f : F3) V, Calls Tryz.prog 29 #[.agg #[.bool f.n, .slice f.a f.xs.length f.ca, .slice f.b f.ys.length f.cb]] V (BoW V)) := fun f V => pwide_any f.n f.a f.xs.length f.ca f.b f.ys.length f.cb V
  have k1 : X.cell? ⟨w.heap.size, 1, none⟩ = some (.bool p.n) := HX.out.cell 1
  have k2 : X.cell? ⟨w.heap.size, 2, none⟩ = some (.slice p.a p.xs.length p.ca) := HX.out.cell 2
  have k3 : X.cell? ⟨w.heap.size, 3, none⟩ = some (.slice p.b p.ys.length p.cb) := HX.out.cell 3
  have k4 : X.cell? ⟨w.heap.size, 4, none⟩ = some (.slice p.t p.ts.length p.ct) := HX.out.cell 4
  unfold PL.cells
  clear hp
  obtain ⟨N, hN⟩ : ∃ N, p.ts.length = N := ⟨_, rfl⟩
  have HLN := hid hN
  rw [hN] at k4 ⊢
  rw [hN] at hX
  clear hN
  by_cases h30 : 30 < N
  · have h30' : (30 : Int) < (N : Int) := by omega
    go_enter Tryz.func21, Tryz.ntmps21
    go_wp2_with fail
    go_ret
    exact ⟨_, rfl, HB.out⟩
  · have h30' : ¬ (30 : Int) < (N : Int) := by omega
    go_enter Tryz.func21, Tryz.ntmps21
    go_wp2_with fail
    refine Calls.mono (HWD.out ⟨p.n, p.a, p.ca, p.xs, p.b, p.cb, p.ys⟩ X) ?_
    rintro e w1 ⟨bo, rfl, b1⟩
    have HX1 := hid (HX.out.later b1 HX.out.lt)
    have HB1 := hid (bt HB.out b1)
    clear b1 k1 k2 k3 k4
    cases bo with
    | true =>
      go_wp2_with fail
      go_ret
      exact ⟨_, rfl, HB1.out⟩
    | false =>
      have k4 : w1.cell? ⟨w.heap.size, 4, none⟩ = some (.slice p.t N p.ct) := by
        have q : w1.cell? ⟨w.heap.size, 4, none⟩ = some (.slice p.t p.ts.length p.ct) := HX1.out.cell 4
        rw [HLN.out] at q
        exact q
      go_wp2_with fail
      refine Calls.mono (numbersOf_any p.t N p.ct p.ts w1 (by omega) HLN.out (HTS.out w1 HB1.out)) ?_
      rintro e w2 ⟨a2, c2, rfl, o2, b2⟩
      go_wp2_with fail
      refine Calls.mono (partsOf_any a2 N c2 _ p.ts w2 (by omega) HLN.out o2) ?_
      rintro e w3 ⟨a3, c3, rfl, o3, _, b3⟩
      have HB3 := hid (bt HB1.out (bt b2 b3))
      have HO3 := hid o3
      have HPL : Hid ((partsT p.ts).length = 2 * N) := by rw [partsT_len, HLN.out]; exact rfl
      clear o2 b2 o3 b3 k4 HX1 HX
      go_wp2_with fail
      go_loopw [4] (fun x wr => ∃ k : Nat, k ≤ 2 * N ∧ x = .int .i64 (k : Int) ∧ Hid (Below w3.heap.size w3 wr)) (fun x _ => 2 * N - (intOf x).toNat)
      case atStart => exact ⟨0, Nat.zero_le _, rfl, Below.refl _ _⟩
      case round =>
        obtain ⟨k, hk, rfl, HBk⟩ := hrel
        by_cases hlt : k < 2 * N
        · obtain ⟨g, rfl⟩ : ∃ g, a3 = some ⟨g, 0, none⟩ := by
            rcases HO3.out.2 with ⟨h1, h0⟩ | ⟨g, cap, cur, hv, _⟩
            · omega
            · injection hv with e1 _ _
              exact ⟨g, e1⟩
          obtain ⟨f, hf⟩ : ∃ f, (partsT p.ts)[k]? = some f := ⟨_, List.getElem?_eq_getElem (by rw [HPL.out]; exact hlt)⟩
          have hr := qown_later HO3.out HBk.out
          have c : ∀ i, i < 3 → wr.cell? ⟨g, k * 3 + i, none⟩ = f.cells[i]? := fun i hi => by rw [hr.cellAt (k * 3 + i) (by omega), flat3_at hf hi]
          have e0 : wr.cell? ⟨g, k * 3, none⟩ = some (.bool f.n) := c 0 (by decide)
          have e1 : wr.cell? ⟨g, k * 3 + 1, none⟩ = some (.slice f.a f.xs.length f.ca) := c 1 (by decide)
          have e2 : wr.cell? ⟨g, k * 3 + 2, none⟩ = some (.slice f.b f.ys.length f.cb) := c 2 (by decide)
          have hk0 : (0 : Int) ≤ (k : Int) := by omega
          have hk1 : (k : Int) < 2 * (N : Int) := by omega
          clear c hr hf
          go_wp2_with fail
          refine Calls.mono (HWD.out f wr) ?_
          rintro e w5 ⟨bo, rfl, b5⟩
          have HB5 := hid (bt HBk.out b5)
          clear b5 e0 e1 e2
          cases bo with
          | true =>
            go_wp2_with fail
            go_ret
            exact ⟨_, rfl, bt HB3.out HB5.out⟩
          | false =>
            go_wp2_with fail
            go_roundw
            case rel => exact ⟨k + 1, by omega, by go_num, HB5⟩
            case measure => simp [intOf]; omega
        · obtain rfl : k = 2 * N := by omega
          have hk1 : ¬ (((2 * N : Nat) : Int)) < (((2 * N : Nat) : Int)) := by omega
          go_wp2_with fail
          go_ret
          exact ⟨_, rfl, bt HB3.out HBk.out⟩
end Go.Proofs.YtnfemheabikolaaGreatDoor

/- Layer 14: the laws' narrow. (tools/mkqcg.py) -/
namespace Go.Proofs.YtnfemheabikolaaGreatDoor
open Go.RowKit
set_option linter.unusedVariables false
set_option linter.unusedSimpArgs false

def TV.four (t : TV) : Prop := t.xs.length ≤ 4 ∧ t.ys.length ≤ 4 ∧ t.us.length ≤ 4 ∧ t.vs.length ≤ 4
def NaT (p : PL) (w : World) (e : Ending) (w' : World) : Prop := ∃ bo : Bool, e = .returned (.bool bo) ∧ (bo = false → ∀ t ∈ p.ts, t.v.four) ∧ Below w.heap.size w w'
def F3.four (f : F3) : Prop := f.xs.length ≤ 4 ∧ f.ys.length ≤ 4
theorem four_parts {ts : List TL} (h : ∀ f ∈ partsT ts, f.four) : ∀ t ∈ ts, t.v.four := by
  intro t ht
  have h1 := h t.re (List.mem_flatMap.2 ⟨t, ht, List.mem_cons_self ..⟩)
  have h2 := h t.im (List.mem_flatMap.2 ⟨t, ht, List.mem_cons_of_mem _ (List.mem_cons_self ..)⟩)
  exact ⟨h1.1, h1.2, h2.1, h2.2⟩
def NaC (p : PL) (N : Nat) (w : World) (s : Value) (wx : World) : Prop := ∃ a c, s = .slice a (1 + 2 * N) c ∧ wx.ownsRow w.heap.size 24 3 (.slice a (1 + 2 * N) c) (1 + 2 * N) (flat3 (⟨p.n, p.a, p.ca, p.xs, p.b, p.cb, p.ys⟩ :: partsT p.ts)) ∧ Below w.heap.size w wx
theorem qsome {w : World} {base e s n ct : Nat} {a : Option Addr} {xs : List Value} (h : w.ownsRow base e s (.slice a n ct) n xs) (hn : 0 < n) : ∃ g, a = some ⟨g, 0, none⟩ := by
  rcases h.2 with ⟨h1, h0⟩ | ⟨g, cap, cur, hv, _⟩
  · omega
  · injection hv with e1 _ _
    exact ⟨g, e1⟩
set_option maxHeartbeats 3200000 in
set_option maxRecDepth 100000 in
theorem pnarrow_any (p : PL) (w : World) (hp : p.ok w) (h30 : p.ts.length ≤ 30) : Calls Tryz.prog 43 #[.agg p.cells] w (NaT p w) := by
  obtain ⟨i0, hi, hz0, hz1, hz2⟩ := info_parts Tryz.infoKg
  obtain ⟨N, hN⟩ : ∃ N, p.ts.length = N := ⟨_, rfl⟩
  have HLN := hid hN
  unfold PL.cells
  rw [hN] at h30 ⊢
  clear hN
  obtain ⟨Y, hY⟩ : ∃ Y, w.alloc (.cells #[.string p.s, .bool p.n, .slice p.a p.xs.length p.ca, .slice p.b p.ys.length p.cb, .slice p.t N p.ct] 27) = Y := ⟨_, rfl⟩
  have HX : Hid (Box Y w.heap.size 27 #[.string p.s, .bool p.n, .slice p.a p.xs.length p.ca, .slice p.b p.ys.length p.cb, .slice p.t N p.ct]) := by
    subst hY
    exact Box.made w _ _
  have HB : Hid (Below w.heap.size w Y) := by
    subst hY
    exact alloc_later _ _
  have HS : Hid (∀ V, Box V w.heap.size 27 #[.string p.s, .bool p.n, .slice p.a p.xs.length p.ca, .slice p.b p.ys.length p.cb, .slice p.t N p.ct] → V.cell? ⟨w.heap.size, 1, none⟩ = some (.bool p.n) ∧ V.cell? ⟨w.heap.size, 2, none⟩ = some (.slice p.a p.xs.length p.ca) ∧ V.cell? ⟨w.heap.size, 3, none⟩ = some (.slice p.b p.ys.length p.cb) ∧ V.cell? ⟨w.heap.size, 4, none⟩ = some (.slice p.t N p.ct)) := fun V h => ⟨h.cell 1, h.cell 2, h.cell 3, h.cell 4⟩
  have HXL : Hid (∀ V, Below Y.heap.size Y V → Box V w.heap.size 27 #[.string p.s, .bool p.n, .slice p.a p.xs.length p.ca, .slice p.b p.ys.length p.cb, .slice p.t N p.ct]) := fun V hV => HX.out.later hV HX.out.lt
  have HNO : Hid (∀ V, Below Y.heap.size Y V → Calls Tryz.prog 74 #[.slice p.t N p.ct] V fun e w' => ∃ a c, e = .returned (.slice a N c) ∧ w'.ownsRow V.heap.size 35 6 (.slice a N c) N (flat3 (partsT p.ts)) ∧ Below V.heap.size V w') := fun V hV => numbersOf_any p.t N p.ct p.ts V (by omega) HLN.out (hp.ts.later (bt HB.out hV))
  have HPO : Hid (∀ V a c base, V.ownsRow base 35 6 (.slice a N c) N (flat3 (partsT p.ts)) → Calls Tryz.prog 73 #[.slice a N c] V fun e w' => ∃ a2 c2, e = .returned (.slice a2 (2 * N) c2) ∧ w'.ownsRow V.heap.size 24 3 (.slice a2 (2 * N) c2) (2 * N) (flat3 (partsT p.ts)) ∧ (N = 0 → a2 = none ∧ c2 = 0) ∧ Below V.heap.size V w') := fun V a c base h => partsOf_any a N c base p.ts V (by omega) HLN.out h
  have HPL : Hid ((partsT p.ts).length = 2 * N) := by rw [partsT_len, HLN.out]; exact rfl
  have hd0 := hid (Below.refl Y.heap.size Y)
  clear hp
  go_enter Tryz.func43, Tryz.ntmps43
  go_wp2_with fail
  go_cut [3] from 5 (fun s wx => Hid (NaC p N w s wx))
  case first =>
    by_cases hN0 : N = 0
    · subst hN0
      have HP0 : Hid (flat3 (partsT p.ts) = []) := by
        have h := HPL.out
        rw [List.eq_nil_of_length_eq_zero h]
        rfl
      have hs0 := HS.out _ (HXL.out _ hd0.out.drew)
      have hsa := HS.out _ (HXL.out _ (bel_al hd0.out (.cells #[.bool p.n, .slice p.a p.xs.length p.ca, .slice p.b p.ys.length p.cb] 24)).drew)
      go_region_held3 (fun V : World => V.cell? ⟨w.heap.size, 1, none⟩ = some (.bool p.n) ∧ V.cell? ⟨w.heap.size, 2, none⟩ = some (.slice p.a p.xs.length p.ca) ∧ V.cell? ⟨w.heap.size, 3, none⟩ = some (.slice p.b p.ys.length p.cb) ∧ V.cell? ⟨w.heap.size, 4, none⟩ = some (.slice p.t 0 p.ct)) (first | exact hs3 | exact hs2a | exact hs2 | exact hs1a | exact hs1 | exact hsa | exact hs0 | go_keep)
        (first
          | (go_at_call 74; (with_reducible refine Calls.mono (HNO.out _ (by first | exact hd0.out.drew | exact (bel_al hd0.out _).drew)) ?_); rintro e w1 ⟨a1, c1, rfl, o1, b1⟩; (first | (have hb1 := hid (bt hd0.out.drew b1)) | (have hb1 := hid (bt (bel_al hd0.out _).drew b1))); have HO1 := hid o1; have hs1 := HS.out _ (HXL.out _ hb1.out); have hs1a := HS.out _ (HXL.out _ (bel_al hb1.out (.cells #[.bool p.n, .slice p.a p.xs.length p.ca, .slice p.b p.ys.length p.cb] 24))); (first | (have HM1 := hid (qown_later (World.ownsRow.drew (World.ownsRow_lit (e := 24) (size := 3) (base := w.heap.size) Y #[.bool p.n, .slice p.a p.xs.length p.ca, .slice p.b p.ys.length p.cb] 1 HB.out.size (by decide) rfl)) b1)) | skip))
          | (go_at_call 73; (with_reducible refine Calls.mono (HPO.out _ a1 c1 _ (by first | exact HO1.out | exact qown_later HO1.out (alloc_later _ _))) ?_); rintro e w2 ⟨a2, c2, rfl, o2, z2, b2⟩; (first | (have hb2 := hid (bt hb1.out b2)) | (have hb2 := hid (bt (bel_al hb1.out _) b2))); have HO2 := hid o2; have HZ2 := hid z2; have hs2 := HS.out _ (HXL.out _ hb2.out); have hs2a := HS.out _ (HXL.out _ (bel_al hb2.out (.cells #[.bool p.n, .slice p.a p.xs.length p.ca, .slice p.b p.ys.length p.cb] 24))); (first | (have HM2 := hid (qown_later HM1.out b2); have HO3 := hid o2; have HBS := hid (bt HB.out hb2.out); have HXW := hid (HXL.out _ hb2.out)) | (have HM2 := hid (qown_later (World.ownsRow_lit (e := 24) (size := 3) (base := w.heap.size) w1 #[.bool p.n, .slice p.a p.xs.length p.ca, .slice p.b p.ys.length p.cb] 1 (bt HB.out hb1.out).size (by decide) rfl) b2); have HO3 := hid o2; have HBS := hid (bt HB.out hb2.out); have HXW := hid (HXL.out _ hb2.out)) | (have HM2 := hid (World.ownsRow_lit (e := 24) (size := 3) (base := w.heap.size) w2 #[.bool p.n, .slice p.a p.xs.length p.ca, .slice p.b p.ys.length p.cb] 1 (bt HB.out hb2.out).size (by decide) rfl); have HO3 := hid (qown_later o2 (alloc_later w2 (.cells #[.bool p.n, .slice p.a p.xs.length p.ca, .slice p.b p.ys.length p.cb] 24))); have HBS := hid (bt HB.out (bel_al hb2.out (.cells #[.bool p.n, .slice p.a p.xs.length p.ca, .slice p.b p.ys.length p.cb] 24))); have HXW := hid (HXL.out _ (bel_al hb2.out (.cells #[.bool p.n, .slice p.a p.xs.length p.ca, .slice p.b p.ys.length p.cb] 24))))); obtain ⟨rfl, rfl⟩ := z2 (by trivial); have HRN := hid (run_append_owned_none _ w.heap.size 109 109 24 i0 3 Tryz.underlying109 hi _ 1 _ HM2.out))
          | (refine step_append_run rfl (.tmp 7) (.tmp 11) 109 rfl _ (.slice none 0 0) _ _ rfl rfl HRN.out ?_))
      all_goals
        clear hs0 hsa hs1 hs1a hs2 hs2a HNO HPO HS
        go_wp2_with fail
        go_meet
        exact ⟨some ⟨_, 0, none⟩, 1, rfl, by rw [flat3_cons, HP0.out]; exact HM2.out, HBS.out⟩
    · have hNp : 0 < 2 * N := by omega
      have HLM := hid (show 1 + 2 * N ≤ maxLen by unfold maxLen; omega)
      have HLB := hid (show (1 + 2 * N) * 56 ≤ 140737488355328 by omega)
      have HFL := hid (show (flat3 (partsT p.ts)).length = 2 * N * 3 by rw [flat3_len, HPL.out])
      have hs0 := HS.out _ (HXL.out _ hd0.out.drew)
      have hsa := HS.out _ (HXL.out _ (bel_al hd0.out (.cells #[.bool p.n, .slice p.a p.xs.length p.ca, .slice p.b p.ys.length p.cb] 24)).drew)
      go_region_held3 (fun V : World => V.cell? ⟨w.heap.size, 1, none⟩ = some (.bool p.n) ∧ V.cell? ⟨w.heap.size, 2, none⟩ = some (.slice p.a p.xs.length p.ca) ∧ V.cell? ⟨w.heap.size, 3, none⟩ = some (.slice p.b p.ys.length p.cb) ∧ V.cell? ⟨w.heap.size, 4, none⟩ = some (.slice p.t N p.ct)) (first | exact hs3 | exact hs2a | exact hs2 | exact hs1a | exact hs1 | exact hsa | exact hs0 | go_keep)
        (first
          | (go_at_call 74; (with_reducible refine Calls.mono (HNO.out _ (by first | exact hd0.out.drew | exact (bel_al hd0.out _).drew)) ?_); rintro e w1 ⟨a1, c1, rfl, o1, b1⟩; (first | (have hb1 := hid (bt hd0.out.drew b1)) | (have hb1 := hid (bt (bel_al hd0.out _).drew b1))); have HO1 := hid o1; have hs1 := HS.out _ (HXL.out _ hb1.out); have hs1a := HS.out _ (HXL.out _ (bel_al hb1.out (.cells #[.bool p.n, .slice p.a p.xs.length p.ca, .slice p.b p.ys.length p.cb] 24))); (first | (have HM1 := hid (qown_later (World.ownsRow.drew (World.ownsRow_lit (e := 24) (size := 3) (base := w.heap.size) Y #[.bool p.n, .slice p.a p.xs.length p.ca, .slice p.b p.ys.length p.cb] 1 HB.out.size (by decide) rfl)) b1)) | skip))
          | (go_at_call 73; (with_reducible refine Calls.mono (HPO.out _ a1 c1 _ (by first | exact HO1.out | exact qown_later HO1.out (alloc_later _ _))) ?_); rintro e w2 ⟨a2, c2, rfl, o2, z2, b2⟩; (first | (have hb2 := hid (bt hb1.out b2)) | (have hb2 := hid (bt (bel_al hb1.out _) b2))); have HO2 := hid o2; have HZ2 := hid z2; have hs2 := HS.out _ (HXL.out _ hb2.out); have hs2a := HS.out _ (HXL.out _ (bel_al hb2.out (.cells #[.bool p.n, .slice p.a p.xs.length p.ca, .slice p.b p.ys.length p.cb] 24))); (first | (have HM2 := hid (qown_later HM1.out b2); have HO3 := hid o2; have HBS := hid (bt HB.out hb2.out); have HXW := hid (HXL.out _ hb2.out)) | (have HM2 := hid (qown_later (World.ownsRow_lit (e := 24) (size := 3) (base := w.heap.size) w1 #[.bool p.n, .slice p.a p.xs.length p.ca, .slice p.b p.ys.length p.cb] 1 (bt HB.out hb1.out).size (by decide) rfl) b2); have HO3 := hid o2; have HBS := hid (bt HB.out hb2.out); have HXW := hid (HXL.out _ hb2.out)) | (have HM2 := hid (World.ownsRow_lit (e := 24) (size := 3) (base := w.heap.size) w2 #[.bool p.n, .slice p.a p.xs.length p.ca, .slice p.b p.ys.length p.cb] 1 (bt HB.out hb2.out).size (by decide) rfl); have HO3 := hid (qown_later o2 (alloc_later w2 (.cells #[.bool p.n, .slice p.a p.xs.length p.ca, .slice p.b p.ys.length p.cb] 24))); have HBS := hid (bt HB.out (bel_al hb2.out (.cells #[.bool p.n, .slice p.a p.xs.length p.ca, .slice p.b p.ys.length p.cb] 24))); have HXW := hid (HXL.out _ (bel_al hb2.out (.cells #[.bool p.n, .slice p.a p.xs.length p.ca, .slice p.b p.ys.length p.cb] 24))))); obtain ⟨g2, rfl⟩ := qsome o2 hNp; have HCL := hid (World.ownsRow.cells HO3.out (g := g2) rfl))
          | (refine step_append_own_at rfl (.tmp 7) (.tmp 11) 109 rfl w.heap.size 24 i0 (.agg #[.bool false, .slice none 0 0, .slice none 0 0]) 3 56 Tryz.underlying109 hi hz0 hz1 hz2 rfl (by decide) _ 1 _ rfl HM2.out ⟨g2, 0, none⟩ (2 * N) c2 (flat3 (partsT p.ts)) rfl HFL.out HCL.out (flat3_one _) HLM.out HLB.out HBS.out.size ?_; intro v1 y1 o1 gr1 at1; have hs3 := HS.out y1 (qbox_gby HXW.out gr1 (fun e => qown_box HM2.out HXW.out (by decide) _ e rfl))))
      all_goals
        have HBN := hid (HBS.out.grown gr1 HBS.out.size (fun g e => (HM2.out.lt g e).1))
        obtain ⟨q1, d1, hv1⟩ := qown_slice o1
        subst hv1
        have HON := hid o1
        clear o1 gr1 hs0 hsa hs1 hs1a hs2 hs2a HNO HPO HS
        go_wp2_with fail
        go_meet
        exact ⟨q1, d1, rfl, HON.out, HBN.out⟩
  case rest =>
    obtain ⟨a, c, rfl, HO, HBW⟩ := hcut.out
    have HOW := hid HO
    have HBB := hid HBW
    clear HO HBW hcut HX HS HXL HNO HPO hd0 HB
    go_wp2_with fail
    go_loopw [4] (fun x wr => ∃ k : Nat, k ≤ 1 + 2 * N ∧ x = .int .i64 (k : Int) ∧ Hid (∀ j f, j < k → ((⟨p.n, p.a, p.ca, p.xs, p.b, p.cb, p.ys⟩ : F3) :: partsT p.ts)[j]? = some f → f.four) ∧ wr = wc) (fun x _ => 1 + 2 * N - (intOf x).toNat)
    case atStart => exact ⟨0, Nat.zero_le _, rfl, (fun j f h => by omega : ∀ j f, j < 0 → _ → F3.four f), rfl⟩
    case round =>
      obtain ⟨k, hk, rfl, HF, hwr⟩ := hrel
      rw [hwr]
      clear hwr
      by_cases hlt : k < 1 + 2 * N
      · obtain ⟨g, rfl⟩ := qsome HOW.out (by omega)
        obtain ⟨f, hf⟩ : ∃ f, ((⟨p.n, p.a, p.ca, p.xs, p.b, p.cb, p.ys⟩ : F3) :: partsT p.ts)[k]? = some f := ⟨_, List.getElem?_eq_getElem (by rw [List.length_cons, HPL.out]; omega)⟩
        have cc : ∀ i, i < 3 → wc.cell? ⟨g, k * 3 + i, none⟩ = f.cells[i]? := fun i hi => by rw [HOW.out.cellAt (k * 3 + i) (by omega), flat3_at hf hi]
        have e1 : wc.cell? ⟨g, k * 3 + 1, none⟩ = some (.slice f.a f.xs.length f.ca) := cc 1 (by decide)
        have e2 : wc.cell? ⟨g, k * 3 + 2, none⟩ = some (.slice f.b f.ys.length f.cb) := cc 2 (by decide)
        have hk0 : (0 : Int) ≤ (k : Int) := by omega
        have hk1 : (k : Int) < 1 + 2 * (N : Int) := by omega
        have HFN : Hid (f.four → ∀ j f', j < k + 1 → ((⟨p.n, p.a, p.ca, p.xs, p.b, p.cb, p.ys⟩ : F3) :: partsT p.ts)[j]? = some f' → f'.four) := fun h j f' hj hf' => by
          rcases Nat.lt_or_ge j k with g1 | g1
          · exact HF.out j f' g1 hf'
          · obtain rfl : j = k := by omega
            rw [hf] at hf'
            rw [← Option.some.inj hf']
            exact h
        clear cc hf
        by_cases hx : 4 < f.xs.length
        · have hx' : (4 : Int) < (f.xs.length : Int) := by omega
          go_wp2_with fail
          go_ret
          exact ⟨true, rfl, (fun h => by cases h), HBB.out⟩
        · have hx' : ¬ (4 : Int) < (f.xs.length : Int) := by omega
          by_cases hy : 4 < f.ys.length
          · have hy' : (4 : Int) < (f.ys.length : Int) := by omega
            go_wp2_with fail
            go_ret
            exact ⟨true, rfl, (fun h => by cases h), HBB.out⟩
          · have hy' : ¬ (4 : Int) < (f.ys.length : Int) := by omega
            have HF2 := hid (HFN.out ⟨by omega, by omega⟩)
            clear hx hy
            go_wp2_with fail
            go_roundw
            case rel => exact ⟨k + 1, by omega, by go_num, HF2, trivial⟩
            case measure => simp [intOf]; omega
      · obtain rfl : k = 1 + 2 * N := by omega
        have hk1 : ¬ (((1 + 2 * N : Nat) : Int)) < (((1 + 2 * N : Nat) : Int)) := by omega
        have HALL : Hid (∀ t ∈ p.ts, t.v.four) := four_parts fun f hf => by
          obtain ⟨j, hj⟩ := List.mem_iff_getElem?.1 hf
          have hjl := (List.getElem?_eq_some_iff.1 hj).1
          rw [HPL.out] at hjl
          exact HF.out (j + 1) f (by omega) (by rw [List.getElem?_cons_succ]; exact hj)
        go_wp2_with fail
        go_ret
        exact ⟨false, rfl, (fun _ => HALL.out), HBB.out⟩
end Go.Proofs.YtnfemheabikolaaGreatDoor

/- Layer 14: the laws' at: a constituent's number at a tick. (tools/mkqch.py) -/
namespace Go.Proofs.YtnfemheabikolaaGreatDoor
open Go.RowKit
set_option linter.unusedVariables false
set_option linter.unusedSimpArgs false

theorem pgres_run {fn : Func} {W : World} {b q u : Nat} {cs : Array Value} (hr : fn.results = #[.cell q 35, .tmp u]) (hb : Box W b 35 cs) (tmps : Array Value) (h4 : tmps.getD q undef = .pointer (some ⟨b, 0, none⟩)) (hi : (Tryz.prog.info? 35).map (·.size) = some cs.size := by kernel_rfl) : (results fn tmps).run Tryz.prog W = .ok (.tuple #[.agg cs, tmps.getD u undef]) W := by
  have h := run_loadVar_row (P := Tryz.prog) W b 35 35 cs (0, 0) _ hb Tryz.underlying35 rfl hi
  rw [results_cell_tmp hr, h4]
  simp [asAddr, h]
set_option maxHeartbeats 3200000 in
set_option maxRecDepth 100000 in
theorem pat_any (t : TL) (n : Int) (w : World) (ht : t.ok w) (hk : t.chk = 0) (n0 : -1024 ≤ n) (n1 : n ≤ 1024) (hs : ¬ mlong t.v.q1 t.v.q2 (oP t.f t.r n).1 (oP t.f t.r n).2) : Calls Tryz.prog 44 #[.agg t.cells, .int .i64 n] w fun e w' => ∃ g : G6, e = .returned (.tuple #[.agg #[.bool g.n, .slice g.a g.xs.length g.ca, .slice g.b g.ys.length g.cb, .bool g.m, .slice g.c g.us.length g.cc, .slice g.d g.vs.length g.cd], .bool true]) ∧ g.Sl4 w' ∧ g.Is (t.v.q1 * (oP t.f t.r n).1 - t.v.q2 * (oP t.f t.r n).2) (t.v.q1 * (oP t.f t.r n).2 + t.v.q2 * (oP t.f t.r n).1) ∧ Below w.heap.size w w' := by
  obtain ⟨X, hX⟩ : ∃ X, w.alloc (.cells #[.string t.s, .int .i32 t.f, .int .i32 t.r, .bool t.n, .slice t.a t.xs.length t.ca, .slice t.b t.ys.length t.cb, .bool t.m, .slice t.c t.us.length t.cc, .slice t.d t.vs.length t.cd] 37) = X := ⟨_, rfl⟩
  obtain ⟨Y, hY⟩ : ∃ Y, X.alloc (.cells #[.bool false, .slice none 0 0, .slice none 0 0, .bool false, .slice none 0 0, .slice none 0 0] 35) = Y := ⟨_, rfl⟩
  have hXs : X.heap.size = w.heap.size + 1 := by subst hX; simp
  have HX : Hid (Box Y w.heap.size 37 #[.string t.s, .int .i32 t.f, .int .i32 t.r, .bool t.n, .slice t.a t.xs.length t.ca, .slice t.b t.ys.length t.cb, .bool t.m, .slice t.c t.us.length t.cc, .slice t.d t.vs.length t.cd]) := by
    subst hY hX
    exact (Box.made w _ _).later (alloc_later _ _) (Box.made w 37 _).lt
  have HR : Hid (Box Y (w.heap.size + 1) 35 #[.bool false, .slice none 0 0, .slice none 0 0, .bool false, .slice none 0 0, .slice none 0 0]) := by
    rw [← hXs]
    subst hY
    exact Box.made X _ _
  have HB : Hid (Below w.heap.size w Y) := by
    subst hY hX
    exact bt (alloc_later _ _) (alloc_later _ _)
  have HYs : Hid (w.heap.size + 1 < Y.heap.size) := HR.out.lt
  have hro := (tchk_ok hk).2.1
  have hgc := (tchk_ok hk).2.2
  have HP := hid (oPower_any t.f t.r n Y (trok hro) n0 n1)
  have HM : Hid (∀ (g : G6) (V : World), Below Y.heap.size Y V → g.Ow V Y.heap.size → g.Is (oP t.f t.r n).1 (oP t.f t.r n).2 → Calls Tryz.prog 105 #[.agg #[.bool t.n, .slice t.a t.xs.length t.ca, .slice t.b t.ys.length t.cb, .bool t.m, .slice t.c t.us.length t.cc, .slice t.d t.vs.length t.cd], .agg #[.bool g.n, .slice g.a g.xs.length g.ca, .slice g.b g.ys.length g.cb, .bool g.m, .slice g.c g.us.length g.cc, .slice g.d g.vs.length g.cd]] V (KGq V 0 (mlong t.v.q1 t.v.q2 (oP t.f t.r n).1 (oP t.f t.r n).2) (t.v.q1 * (oP t.f t.r n).1 - t.v.q2 * (oP t.f t.r n).2) (t.v.q1 * (oP t.f t.r n).2 + t.v.q2 * (oP t.f t.r n).1))) := fun g V hV hg hi => by
    have hs := hg.sl hi
    have hv := bt HB.out hV
    have q := gMul_cut t.n t.a t.ca t.xs t.b t.cb t.ys t.m t.c t.cc t.us t.d t.cd t.vs g.n g.a g.ca g.xs g.b g.cb g.ys g.m g.c g.cc g.us g.d g.cd g.vs V (ht.sx.later hv) (ht.sy.later hv) (ht.su.later hv) (ht.sv.later hv) hs.1 hs.2.1 hs.2.2.1 hs.2.2.2
    rw [hgc, hi.chk, fstE_zero, hi.1.2, hi.2.1.2] at q
    exact Calls.mono q (fun x w' h => kgq_of h)
  have HNL : Hid (¬ mlong t.v.q1 t.v.q2 (oP t.f t.r n).1 (oP t.f t.r n).2) := hs
  unfold TL.cells
  clear ht hk hro hgc n0 n1 hs
  generalize (oP t.f t.r n).1 = P1 at *
  generalize (oP t.f t.r n).2 = P2 at *
  generalize mlong t.v.q1 t.v.q2 P1 P2 = ML at *
  generalize t.v.q1 * P1 - t.v.q2 * P2 = Z1 at *
  generalize t.v.q1 * P2 + t.v.q2 * P1 = Z2 at *
  have k1 : Y.cell? ⟨w.heap.size, 1, none⟩ = some (.int .i32 t.f) := HX.out.cell 1
  have k2 : Y.cell? ⟨w.heap.size, 2, none⟩ = some (.int .i32 t.r) := HX.out.cell 2
  go_enter Tryz.func44, Tryz.ntmps44
  go_wp2_with fail
  refine Calls.mono HP.out ?_
  rintro e w1 ⟨g, rfl, ho, hi, hb, _⟩
  obtain ⟨Q, hQ⟩ : ∃ Q, w1.alloc (.cells #[.bool g.n, .slice g.a g.xs.length g.ca, .slice g.b g.ys.length g.cb, .bool g.m, .slice g.c g.us.length g.cc, .slice g.d g.vs.length g.cd] 35) = Q := ⟨_, rfl⟩
  have HG : Hid (Box Q w1.heap.size 35 #[.bool g.n, .slice g.a g.xs.length g.ca, .slice g.b g.ys.length g.cb, .bool g.m, .slice g.c g.us.length g.cc, .slice g.d g.vs.length g.cd]) := by
    subst hQ
    exact Box.made w1 _ _
  have HBQ : Hid (Below w1.heap.size w1 Q) := by
    subst hQ
    exact alloc_later _ _
  have HYQ := hid (bt hb.out HBQ.out)
  have HXQ := hid (HX.out.later HYQ.out HX.out.lt)
  have HRQ := hid (HR.out.later HYQ.out HR.out.lt)
  have HMQ := hid (HM.out g Q HYQ.out (ho.out.later HBQ.out) hi.out)
  have HWQ := hid (bt HB.out HYQ.out)
  have hw1 : Y.heap.size ≤ w1.heap.size := hb.out.size
  clear HM HP ho hi hb HBQ k1 k2 HX HR
  have k3 : Q.cell? ⟨w.heap.size, 3, none⟩ = some (.bool t.n) := HXQ.out.cell 3
  have k4 : Q.cell? ⟨w.heap.size, 4, none⟩ = some (.slice t.a t.xs.length t.ca) := HXQ.out.cell 4
  have k5 : Q.cell? ⟨w.heap.size, 5, none⟩ = some (.slice t.b t.ys.length t.cb) := HXQ.out.cell 5
  have k6 : Q.cell? ⟨w.heap.size, 6, none⟩ = some (.bool t.m) := HXQ.out.cell 6
  have k7 : Q.cell? ⟨w.heap.size, 7, none⟩ = some (.slice t.c t.us.length t.cc) := HXQ.out.cell 7
  have k8 : Q.cell? ⟨w.heap.size, 8, none⟩ = some (.slice t.d t.vs.length t.cd) := HXQ.out.cell 8
  have g0 : Q.cell? ⟨w1.heap.size, 0, none⟩ = some (.bool g.n) := HG.out.cell 0
  have g1 : Q.cell? ⟨w1.heap.size, 1, none⟩ = some (.slice g.a g.xs.length g.ca) := HG.out.cell 1
  have g2 : Q.cell? ⟨w1.heap.size, 2, none⟩ = some (.slice g.b g.ys.length g.cb) := HG.out.cell 2
  have g3 : Q.cell? ⟨w1.heap.size, 3, none⟩ = some (.bool g.m) := HG.out.cell 3
  have g4 : Q.cell? ⟨w1.heap.size, 4, none⟩ = some (.slice g.c g.us.length g.cc) := HG.out.cell 4
  have g5 : Q.cell? ⟨w1.heap.size, 5, none⟩ = some (.slice g.d g.vs.length g.cd) := HG.out.cell 5
  go_wp2_with fail
  refine Calls.mono HMQ.out ?_
  rintro e w2 ⟨r, code, rfl, ho2, ht2, hin2, hb2⟩
  obtain ⟨Q2, hQ2⟩ : ∃ Q2, w2.alloc (.cells #[.bool r.n, .slice r.a r.xs.length r.ca, .slice r.b r.ys.length r.cb, .bool r.m, .slice r.c r.us.length r.cc, .slice r.d r.vs.length r.cd] 35) = Q2 := ⟨_, rfl⟩
  have HG2 : Hid (Box Q2 w2.heap.size 35 #[.bool r.n, .slice r.a r.xs.length r.ca, .slice r.b r.ys.length r.cb, .bool r.m, .slice r.c r.us.length r.cc, .slice r.d r.vs.length r.cd]) := by
    subst hQ2
    exact Box.made w2 _ _
  have HBQ2 : Hid (Below w2.heap.size w2 Q2) := by
    subst hQ2
    exact alloc_later _ _
  have HQQ := hid (bt hb2 HBQ2.out)
  have HX2 := hid (HXQ.out.later HQQ.out HXQ.out.lt)
  have HR2 := hid (HRQ.out.later HQQ.out HRQ.out.lt)
  have HW2 := hid (bt HWQ.out HQQ.out)
  have HO2 : Hid (r.Ow Q2 Q.heap.size) := ho2.out.later HBQ2.out
  have hsz : w.heap.size + 1 < Q.heap.size := by have h1 := HYs.out; have h2 := HYQ.out.size; omega
  have HI2 : Hid (r.In Q.heap.size w2.heap.size) := hin2.out
  have hw2 : w2.heap.size ≤ Q2.heap.size := HBQ2.out.size
  clear HMQ k3 k4 k5 k6 k7 k8 g0 g1 g2 g3 g4 g5 HG HXQ HRQ HWQ ho2 hin2 hb2
  have hL : ¬ ML := HNL.out
  obtain ⟨hc, h1, h2⟩ := ht2.out.good rfl hL
  subst hc
  have HE : Hid (r.Is Z1 Z2) := ⟨h1, h2, ht2.out.wd⟩
  clear hL HNL ht2 h1 h2
  have g0 : Q2.cell? ⟨w2.heap.size, 0, none⟩ = some (.bool r.n) := HG2.out.cell 0
  have g1 : Q2.cell? ⟨w2.heap.size, 1, none⟩ = some (.slice r.a r.xs.length r.ca) := HG2.out.cell 1
  have g2 : Q2.cell? ⟨w2.heap.size, 2, none⟩ = some (.slice r.b r.ys.length r.cb) := HG2.out.cell 2
  have g3 : Q2.cell? ⟨w2.heap.size, 3, none⟩ = some (.bool r.m) := HG2.out.cell 3
  have g4 : Q2.cell? ⟨w2.heap.size, 4, none⟩ = some (.slice r.c r.us.length r.cc) := HG2.out.cell 4
  have g5 : Q2.cell? ⟨w2.heap.size, 5, none⟩ = some (.slice r.d r.vs.length r.cd) := HG2.out.cell 5
  obtain ⟨A0, A1, A2, A3, A4, A5, q0, q1, q2, q3, q4, q5, ⟨p0, p1, p2, p3, p4, p5⟩, ⟨f0, f1, f2, f3, f4, f5⟩, HA⟩ := rchain6 HR2.out (by decide) (.bool r.n) (.slice r.a r.xs.length r.ca) (.slice r.b r.ys.length r.cb) (.bool r.m) (.slice r.c r.us.length r.cc) (.slice r.d r.vs.length r.cd)
  have HOA : Hid (r.Sl4 A5) := G6.Ow.sl (base := Q.heap.size) ⟨HA.out.2.2.1 _ _ _ _ HO2.out.1, HA.out.2.2.1 _ _ _ _ HO2.out.2.1, HA.out.2.2.1 _ _ _ _ HO2.out.2.2.1, HA.out.2.2.1 _ _ _ _ HO2.out.2.2.2⟩ HE.out
  have HBA := hid (HA.out.2.2.2.1 _ _ (Nat.le_succ _) HW2.out)
  have HBX := hid HA.out.1
  clear HX2 HR2 HW2 HO2 HG2 HA
  go_wp2_with fail
  exact bodyPost_ret (pgres_run (by rfl) HBX.out _ rfl) rfl ⟨r, rfl, HOA.out, HE.out, HBA.out⟩
end Go.Proofs.YtnfemheabikolaaGreatDoor

/- Moved, and moved on; there and back; conjugated twice: what it comes to. -/
namespace Go.Proofs.YtnfemheabikolaaGreatDoor
open Go.RowKit
set_option linter.unusedVariables false
set_option linter.unusedSimpArgs false

def TV.q (t : TV) : Rat × Rat := (t.q1, t.q2)
theorem Mv.q {n : Int} {t v : TV} (h : Mv n t v) : v.q = qmul t.q (oP t.f t.r n) := by
  have e := h.2.2.2
  exact Prod.ext e.1.2 e.2.1.2
theorem Mv.isq {n : Int} {t v : TV} (h : Mv n t v) : v.Is (qmul t.q (oP t.f t.r n)).1 (qmul t.q (oP t.f t.r n)).2 := h.2.2.2
theorem Mv.on {a b : Int} {t u v : TV} (h : Mv a t u) (g : Mv b u v) (hr : rOK t.f t.r) : Mv (a + b) t v := by
  have hq := h.q
  have gi := g.isq
  obtain ⟨h1, h2, h3, _⟩ := h
  obtain ⟨g1, g2, g3, _⟩ := g
  rw [hq, h2, h3, qmul_assoc, ← oP_add hr] at gi
  exact ⟨g1.trans h1, g2.trans h2, g3.trans h3, gi⟩
theorem Mv.same {a : Int} {t u v : TV} (h : Mv a t u) (g : Mv a t v) : u = v := h.2.2.2.one g.2.2.2 (h.1.trans g.1.symm) (h.2.1.trans g.2.1.symm) (h.2.2.1.trans g.2.2.1.symm)
theorem Mv.back {a : Int} {t u v : TV} (h : Mv a t u) (g : Mv (-a) u v) (hr : rOK t.f t.r) (ht : t.Is t.q1 t.q2) : v = t := by
  have k := h.on g hr
  rw [show a + -a = 0 by omega] at k
  have ki := k.isq
  rw [(oP_one hr 0).2 rfl, qmul_one] at ki
  exact ki.one ht k.1 k.2.1 k.2.2.1
theorem Cj.back {t u v : TV} (h : CjT t u 0) (g : CjT u v 0) (ht : t.Is t.q1 t.q2) : v = t := by
  obtain ⟨_, h1, h2, h3, h4⟩ := h
  obtain ⟨_, g1, g2, g3, g4⟩ := g
  have e1 : u.q1 = t.q1 := h4.1.2
  have e2 : u.q2 = -t.q2 := h4.2.1.2
  rw [e1, e2, Rat.neg_neg] at g4
  exact g4.one ht (g1.trans h1) (g2.trans h2) (by rw [g3, h3]; omega)
theorem tchk_rok {t : TV} (h : t.chk = 0) : rOK t.f t.r := trok (tchk_ok h).2.1
theorem four_hgt {t : TV} (h : t.four) (ht : t.Is t.q1 t.q2) : Hgt t.q1 (2 ^ 128) ∧ Hgt t.q2 (2 ^ 128) :=
  ⟨hgt_words (k := 4) ht.2.2.1 ht.2.2.2.1 ht.1.1 h.1 h.2.1, hgt_words (k := 4) ht.2.2.2.2.1 ht.2.2.2.2.2 ht.2.1.1 h.2.2.1 h.2.2.2⟩
theorem four_short {t : TV} (h : t.four) (ht : t.Is t.q1 t.q2) (hr : rOK t.f t.r) (n : Int) (hn : n.natAbs ≤ 60) : ¬ mlong t.q1 t.q2 (oP t.f t.r n).1 (oP t.f t.r n).2 := by
  obtain ⟨a, b⟩ := four_hgt h ht
  obtain ⟨c, d⟩ := oP_hgt hr n 60 hn
  exact mshort a b c d (by decide)
theorem hmv {x y p q : Rat} {K J : Nat} (hx : Hgt x (2 ^ K)) (hy : Hgt y (2 ^ K)) (hp : Hgt p (2 ^ J)) (hq : Hgt q (2 ^ J)) : Hgt (x * p - y * q) (2 ^ (K + J + (K + J) + 1)) ∧ Hgt (x * q + y * p) (2 ^ (K + J + (K + J) + 1)) := by
  have mul : ∀ {a b : Rat}, Hgt a (2 ^ K) → Hgt b (2 ^ J) → Hgt (a * b) (2 ^ (K + J)) := fun ha hb => by rw [Nat.pow_add]; exact ha.mul hb
  have two : ∀ m : Nat, 2 * (2 ^ m * 2 ^ m) = 2 ^ (m + m + 1) := fun m => by rw [← Nat.pow_add, Nat.pow_succ, Nat.mul_comm]
  have s1 := (mul hx hp).sub (mul hy hq)
  have s2 := (mul hx hq).add (mul hy hp)
  rw [two] at s1 s2
  exact ⟨s1, s2⟩
theorem moved_short {t u : TV} (h : t.four) (ht : t.Is t.q1 t.q2) (hr : rOK t.f t.r) {a : Int} (ha : a.natAbs ≤ 60) (hm : Mv a t u) (n : Int) (hn : n.natAbs ≤ 60) : ¬ mlong u.q1 u.q2 (oP u.f u.r n).1 (oP u.f u.r n).2 := by
  have hr' : rOK u.f u.r := by rw [hm.2.1, hm.2.2.1]; exact hr
  obtain ⟨K, hK⟩ : ∃ K : Nat, K = 128 := ⟨_, rfl⟩
  obtain ⟨J, hJ⟩ : ∃ J : Nat, J = 21 * 60 := ⟨_, rfl⟩
  have h1 := four_hgt h ht
  have h2 := oP_hgt hr a 60 ha
  have h3 := oP_hgt hr' n 60 hn
  rw [← hK] at h1
  rw [← hJ] at h2 h3
  obtain ⟨s1, s2⟩ := hmv h1.1 h1.2 h2.1 h2.2
  have hq := hm.q
  have e1 : u.q1 = t.q1 * (oP t.f t.r a).1 - t.q2 * (oP t.f t.r a).2 := congrArg Prod.fst hq
  have e2 : u.q2 = t.q1 * (oP t.f t.r a).2 + t.q2 * (oP t.f t.r a).1 := congrArg Prod.snd hq
  rw [← e1] at s1
  rw [← e2] at s2
  exact mshort s1 s2 h3.1 h3.2 (by omega)
theorem PV.Good.is_ {v : PV} (h : v.Good) (ho : v.ok) {j : Nat} (hj : j < v.ts.length) : (vT v.ts j).Is (vT v.ts j).q1 (vT v.ts j).q2 := by
  have hm : vT v.ts j ∈ v.ts := List.mem_of_getElem? (vT_at hj)
  have hw := ho.2.2.2 _ hm
  exact TV.chk_is (h.chk j hj) hw.2.2.1 hw.2.2.2.1 hw.2.2.2.2.1 hw.2.2.2.2.2
theorem made_ok {q : PL} {v : PV} {w w' : World} (hm : Made q v w w') (hv : v.ok) : q.ok w' := PL.ok_of (by rw [hm.v]; exact hv) hm.ow
theorem mv_ok {v : PV} {n : Int} {vs : List TV} (ho : v.ok) (hl : vs.length = v.ts.length) (hv : ∀ j, j < v.ts.length → Mv n (vT v.ts j) (vT vs j)) : PV.ok ⟨v.s, v.n, v.xs, v.ys, vs⟩ := by
  refine ⟨ho.1, ho.2.1, ho.2.2.1, fun t ht => ?_⟩
  obtain ⟨j, hj⟩ := List.mem_iff_getElem?.1 ht
  have hjl : j < vs.length := (List.getElem?_eq_some_iff.1 hj).1
  have e := vT_of hj
  have hm := hv j (by omega)
  have hw := ho.2.2.2 _ (List.mem_of_getElem? (vT_at (by omega : j < v.ts.length)))
  rw [e] at hm
  exact ⟨by rw [hm.1]; exact hw.1, by rw [hm.2.1, hm.2.2.1]; exact hw.2.1, hm.2.2.2.2.2⟩
theorem cj_ok {v : PV} {vs : List TV} (hg : v.Good) (ho : v.ok) (hl : vs.length = v.ts.length) (hv : ∀ j, j < v.ts.length → CjT (vT v.ts j) (vT vs j) 0) : PV.ok ⟨v.s, v.n, v.xs, v.ys, vs⟩ := by
  refine ⟨ho.1, ho.2.1, ho.2.2.1, fun t ht => ?_⟩
  obtain ⟨j, hj⟩ := List.mem_iff_getElem?.1 ht
  have hjl : j < vs.length := (List.getElem?_eq_some_iff.1 hj).1
  have e := vT_of hj
  have hm := hv j (by omega)
  have hw := ho.2.2.2 _ (List.mem_of_getElem? (vT_at (by omega : j < v.ts.length)))
  rw [e] at hm
  have hb := trok_in (tchk_rok (hg.chk j (by omega)))
  exact ⟨by rw [hm.2.1]; exact hw.1, by rw [hm.2.2.1, hm.2.2.2.1]; exact ⟨by omega, by omega⟩, hm.2.2.2.2.2.2⟩
theorem moved_back {v : PV} {s : Int} {vs us : List TV} (hg : v.Good) (ho : v.ok) (hl : vs.length = v.ts.length) (hv : ∀ j, j < v.ts.length → Mv s (vT v.ts j) (vT vs j)) (hl2 : us.length = vs.length) (hu : ∀ j, j < vs.length → Mv (-s) (vT vs j) (vT us j)) : (⟨v.s, v.n, v.xs, v.ys, us⟩ : PV) = v := by
  have e : us = v.ts := vT_ext (by omega) fun j hj => (hv j hj).back (hu j (by omega)) (tchk_rok (hg.chk j hj)) (hg.is_ ho hj)
  rw [e]
theorem conj_back {v : PV} {vs us : List TV} (hg : v.Good) (ho : v.ok) (hl : vs.length = v.ts.length) (hv : ∀ j, j < v.ts.length → CjT (vT v.ts j) (vT vs j) 0) (hl2 : us.length = vs.length) (hu : ∀ j, j < vs.length → CjT (vT vs j) (vT us j) 0) : (⟨v.s, v.n, v.xs, v.ys, us⟩ : PV) = v := by
  have e : us = v.ts := vT_ext (by omega) fun j hj => Cj.back (hv j hj) (hu j (by omega)) (hg.is_ ho hj)
  rw [e]
theorem moved_on {v : PV} {s t : Int} {vs us xs : List TV} (hg : v.Good) (hl : vs.length = v.ts.length) (hv : ∀ j, j < v.ts.length → Mv s (vT v.ts j) (vT vs j)) (hl2 : us.length = vs.length) (hu : ∀ j, j < vs.length → Mv t (vT vs j) (vT us j)) (hl3 : xs.length = v.ts.length) (hx : ∀ j, j < v.ts.length → Mv (s + t) (vT v.ts j) (vT xs j)) : us = xs :=
  vT_ext (by omega) fun j hj => ((hv j (by omega)).on (hu j (by omega)) (tchk_rok (hg.chk j (by omega)))).same (hx j (by omega))
end Go.Proofs.YtnfemheabikolaaGreatDoor

/- Layer 14: the law PortMoves. (tools/mkpmoves.py) -/
namespace Go.Proofs.YtnfemheabikolaaGreatDoor
open Go.RowKit
set_option linter.unusedVariables false
set_option linter.unusedSimpArgs false

theorem g6same (x y : G6) (w : World) (sx : x.Sl4 w) (sy : y.Sl4 w) {z1 z2 : Rat} (ix : x.Is z1 z2) (iy : y.Is z1 z2) : Calls Tryz.prog 45 #[.agg #[.bool x.n, .slice x.a x.xs.length x.ca, .slice x.b x.ys.length x.cb, .bool x.m, .slice x.c x.us.length x.cc, .slice x.d x.vs.length x.cd], .agg #[.bool y.n, .slice y.a y.xs.length y.ca, .slice y.b y.ys.length y.cb, .bool y.m, .slice y.c y.us.length y.cc, .slice y.d y.vs.length y.cd]] w fun e w' => e = .returned (.bool true) ∧ Below w.heap.size w w' := by
  have l1 := ix.len
  have l2 := iy.len
  obtain ⟨a1, a2, a3⟩ := rq_inj ix.2.2.1 ix.2.2.2.1 iy.2.2.1 iy.2.2.2.1 ix.1.1 iy.1.1 (ix.1.2.trans iy.1.2.symm)
  obtain ⟨b1, b2, b3⟩ := rq_inj ix.2.2.2.2.1 ix.2.2.2.2.2 iy.2.2.2.2.1 iy.2.2.2.2.2 ix.2.1.1 iy.2.1.1 (ix.2.1.2.trans iy.2.1.2.symm)
  refine Calls.mono (gSame_any x.n x.a x.ca x.xs x.b x.cb x.ys x.m x.c x.cc x.us x.d x.cd x.vs y.n y.a y.ca y.xs y.b y.cb y.ys y.m y.c y.cc y.us y.d y.cd y.vs w sx.1 sx.2.1 sx.2.2.1 sx.2.2.2 sy.1 sy.2.1 sy.2.2.1 sy.2.2.2 (by omega) (by omega) (by omega) (by omega) (by omega) (by omega) (by omega) (by omega)) ?_
  rintro e w' ⟨rfl, hb⟩
  rw [decide_eq_true (⟨a1, a2, a3⟩ : x.n = y.n ∧ x.xs = y.xs ∧ x.ys = y.ys), decide_eq_true (⟨b1, b2, b3⟩ : x.m = y.m ∧ x.us = y.us ∧ x.vs = y.vs), ix.chk]
  exact ⟨rfl, hb⟩
set_option maxHeartbeats 12800000 in
set_option maxRecDepth 100000 in
theorem portMoves_in (p : PL) (c : TL) (s t : Int) (w : World) (hp : p.ok w) (hc : c.ok w) (htab : Tab w) : Calls Tryz.prog 7 #[.agg #[.string p.s, .bool p.n, .slice p.a p.xs.length p.ca, .slice p.b p.ys.length p.cb, .slice p.t p.ts.length p.ct], .agg #[.string c.s, .int .i32 c.f, .int .i32 c.r, .bool c.n, .slice c.a c.xs.length c.ca, .slice c.b c.ys.length c.cb, .bool c.m, .slice c.c c.us.length c.cc, .slice c.d c.vs.length c.cd], .int .i64 s, .int .i64 t] w fun e w' => e = .returned (.bool true) ∧ Below w.heap.size w w' := by
  obtain ⟨X, hX⟩ : ∃ X, w.alloc (.cells #[.string p.s, .bool p.n, .slice p.a p.xs.length p.ca, .slice p.b p.ys.length p.cb, .slice p.t p.ts.length p.ct] 27) = X := ⟨_, rfl⟩
  obtain ⟨Y, hY⟩ : ∃ Y, X.alloc (.cells #[.string c.s, .int .i32 c.f, .int .i32 c.r, .bool c.n, .slice c.a c.xs.length c.ca, .slice c.b c.ys.length c.cb, .bool c.m, .slice c.c c.us.length c.cc, .slice c.d c.vs.length c.cd] 37) = Y := ⟨_, rfl⟩
  have hXs : X.heap.size = w.heap.size + 1 := by subst hX; simp
  have HPb : Hid (Box Y w.heap.size 27 #[.string p.s, .bool p.n, .slice p.a p.xs.length p.ca, .slice p.b p.ys.length p.cb, .slice p.t p.ts.length p.ct]) := by
    subst hY hX
    exact (Box.made w _ _).later (alloc_later _ _) (Box.made w 27 _).lt
  have HCb : Hid (Box Y (w.heap.size + 1) 37 #[.string c.s, .int .i32 c.f, .int .i32 c.r, .bool c.n, .slice c.a c.xs.length c.ca, .slice c.b c.ys.length c.cb, .bool c.m, .slice c.c c.us.length c.cc, .slice c.d c.vs.length c.cd]) := by
    rw [← hXs]
    subst hY
    exact Box.made X _ _
  have HB : Hid (Below w.heap.size w Y) := by
    subst hY hX
    exact bt (alloc_later _ _) (alloc_later _ _)
  have KP := hid (hp.later HB.out)
  have KC := hid (hc.later HB.out)
  have KCV := hid hc.v
  have HTB := hid (htab.later HB.out)
  clear hp hc htab
  go_enter Tryz.func7, Tryz.ntmps7
  go_wp2_with fail
  refine Calls.mono (plives_any Y HTB.out) ?_
  rintro e w1 ⟨rfl, b1⟩
  have HW1 := hid (bt HB.out b1)
  have Hp1 := hid (HPb.out.later b1 HPb.out.lt)
  have Hc1 := hid (HCb.out.later b1 HCb.out.lt)
  have Kp1 := hid (KP.out.later b1)
  have Kc1 := hid (KC.out.later b1)
  clear HB HPb HCb KP KC
  clear b1 HTB
  have cp0 : w1.cell? ⟨w.heap.size, 0, none⟩ = some (.string p.s) := Hp1.out.cell 0
  have cp1 : w1.cell? ⟨w.heap.size, 1, none⟩ = some (.bool p.n) := Hp1.out.cell 1
  have cp2 : w1.cell? ⟨w.heap.size, 2, none⟩ = some (.slice p.a p.xs.length p.ca) := Hp1.out.cell 2
  have cp3 : w1.cell? ⟨w.heap.size, 3, none⟩ = some (.slice p.b p.ys.length p.cb) := Hp1.out.cell 3
  have cp4 : w1.cell? ⟨w.heap.size, 4, none⟩ = some (.slice p.t p.ts.length p.ct) := Hp1.out.cell 4
  go_wp2_with fail
  refine Calls.mono (plarge_any p w1 Kp1.out) ?_
  rintro e w2 ⟨bo, rfl, b2⟩
  clear cp0 cp1 cp2 cp3 cp4
  have HW2 := hid (bt HW1.out b2)
  have Hp2 := hid (Hp1.out.later b2 Hp1.out.lt)
  have Hc2 := hid (Hc1.out.later b2 Hc1.out.lt)
  have Kp2 := hid (Kp1.out.later b2)
  have Kc2 := hid (Kc1.out.later b2)
  clear HW1 Hp1 Hc1 Kp1 Kc1
  clear b2
  by_cases hbt : bo = true
  · subst hbt
    go_wp2_with fail
    go_ret
    exact ⟨rfl, HW2.out⟩
  obtain rfl : bo = false := by simpa using hbt
  clear hbt
  by_cases hN : 4 < p.ts.length
  · have hN4 : (4 : Int) < (p.ts.length : Int) := by omega
    have cp4 : w2.cell? ⟨w.heap.size, 4, none⟩ = some (.slice p.t p.ts.length p.ct) := Hp2.out.cell 4
    go_wp2_with fail
    go_ret
    exact ⟨rfl, HW2.out⟩
  have hN4 : ¬ (4 : Int) < (p.ts.length : Int) := by omega
  have cp0 : w2.cell? ⟨w.heap.size, 0, none⟩ = some (.string p.s) := Hp2.out.cell 0
  have cp1 : w2.cell? ⟨w.heap.size, 1, none⟩ = some (.bool p.n) := Hp2.out.cell 1
  have cp2 : w2.cell? ⟨w.heap.size, 2, none⟩ = some (.slice p.a p.xs.length p.ca) := Hp2.out.cell 2
  have cp3 : w2.cell? ⟨w.heap.size, 3, none⟩ = some (.slice p.b p.ys.length p.cb) := Hp2.out.cell 3
  have cp4 : w2.cell? ⟨w.heap.size, 4, none⟩ = some (.slice p.t p.ts.length p.ct) := Hp2.out.cell 4
  go_wp2_with fail
  refine Calls.mono (plcheck_any p w2 Kp2.out) ?_
  rintro e w3 ⟨cc, z, rfl, hck, b3⟩
  clear cp0 cp1 cp2 cp3 cp4
  have HW3 := hid (bt HW2.out b3)
  have Hp3 := hid (Hp2.out.later b3 Hp2.out.lt)
  have Hc3 := hid (Hc2.out.later b3 Hc2.out.lt)
  have Kp3 := hid (Kp2.out.later b3)
  have Kc3 := hid (Kc2.out.later b3)
  clear HW2 Hp2 Hc2 Kp2 Kc2
  clear b3
  by_cases hcc : ¬ cc = 0
  · have h0' : (cc == 0) = false := by simp [hcc]
    have h0'' : (cc != 0) = true := by simp [hcc]
    have cp4 : w3.cell? ⟨w.heap.size, 4, none⟩ = some (.slice p.t p.ts.length p.ct) := Hp3.out.cell 4
    clear hck
    go_wp2_with fail
    go_ret
    exact ⟨rfl, HW3.out⟩
  obtain rfl : cc = 0 := Classical.not_not.1 hcc
  obtain ⟨hgood, hz⟩ := hck.good
  subst hz
  clear hck hcc
  have HG : Hid p.v.Good := PL.good_iff.1 hgood
  clear hgood
  by_cases hs0 : s < 0
  · skip
    have cp4 : w3.cell? ⟨w.heap.size, 4, none⟩ = some (.slice p.t p.ts.length p.ct) := Hp3.out.cell 4
    go_wp2_with fail
    go_ret
    exact ⟨rfl, HW3.out⟩
  skip
  by_cases ht0 : t < 0
  · skip
    have cp4 : w3.cell? ⟨w.heap.size, 4, none⟩ = some (.slice p.t p.ts.length p.ct) := Hp3.out.cell 4
    go_wp2_with fail
    go_ret
    exact ⟨rfl, HW3.out⟩
  skip
  by_cases hs3 : 30 < s
  · skip
    have cp4 : w3.cell? ⟨w.heap.size, 4, none⟩ = some (.slice p.t p.ts.length p.ct) := Hp3.out.cell 4
    go_wp2_with fail
    go_ret
    exact ⟨rfl, HW3.out⟩
  skip
  by_cases ht3 : 30 < t
  · skip
    have cp4 : w3.cell? ⟨w.heap.size, 4, none⟩ = some (.slice p.t p.ts.length p.ct) := Hp3.out.cell 4
    go_wp2_with fail
    go_ret
    exact ⟨rfl, HW3.out⟩
  skip
  have cp0 : w3.cell? ⟨w.heap.size, 0, none⟩ = some (.string p.s) := Hp3.out.cell 0
  have cp1 : w3.cell? ⟨w.heap.size, 1, none⟩ = some (.bool p.n) := Hp3.out.cell 1
  have cp2 : w3.cell? ⟨w.heap.size, 2, none⟩ = some (.slice p.a p.xs.length p.ca) := Hp3.out.cell 2
  have cp3 : w3.cell? ⟨w.heap.size, 3, none⟩ = some (.slice p.b p.ys.length p.cb) := Hp3.out.cell 3
  have cp4 : w3.cell? ⟨w.heap.size, 4, none⟩ = some (.slice p.t p.ts.length p.ct) := Hp3.out.cell 4
  go_wp2_with fail
  refine Calls.mono (pnarrow_any p w3 Kp3.out (by omega)) ?_
  rintro e w4 ⟨bo, rfl, hbo, b4⟩
  clear cp0 cp1 cp2 cp3 cp4
  have HW4 := hid (bt HW3.out b4)
  have Hp4 := hid (Hp3.out.later b4 Hp3.out.lt)
  have Hc4 := hid (Hc3.out.later b4 Hc3.out.lt)
  have Kp4 := hid (Kp3.out.later b4)
  have Kc4 := hid (Kc3.out.later b4)
  clear HW3 Hp3 Hc3 Kp3 Kc3
  clear b4
  by_cases hbt : bo = true
  · subst hbt
    clear hbo
    go_wp2_with fail
    go_ret
    exact ⟨rfl, HW4.out⟩
  obtain rfl : bo = false := by simpa using hbt
  clear hbt
  have hfo := hbo rfl
  clear hbo
  have HOK : Hid p.v.ok := Kp4.out.v
  have HL : Hid (p.v.ts.length = p.ts.length) := List.length_map ..
  have HIS : Hid (∀ j, j < p.v.ts.length → (vT p.v.ts j).Is (vT p.v.ts j).q1 (vT p.v.ts j).q2 ∧ rOK (vT p.v.ts j).f (vT p.v.ts j).r ∧ (vT p.v.ts j).four) := fun j hj => by
    have e : vT p.v.ts j = (tT p.ts j).v := (tT_v p.ts j).symm
    refine ⟨HG.out.is_ HOK.out hj, tchk_rok (HG.out.chk j hj), ?_⟩
    rw [e]
    exact hfo _ (tT_mem (by have := HL.out; omega))
  clear hfo
  have HSM : Hid (∀ n : Int, n.natAbs ≤ 60 → ∀ j, j < p.v.ts.length → ¬ mlong (vT p.v.ts j).q1 (vT p.v.ts j).q2 (oP (vT p.v.ts j).f (vT p.v.ts j).r n).1 (oP (vT p.v.ts j).f (vT p.v.ts j).r n).2) := fun n hn j hj => four_short (HIS.out j hj).2.2 (HIS.out j hj).1 (HIS.out j hj).2.1 n hn
  have hws : IntKind.i64.wrap (s + t) = s + t := by rw [IntKind.wrap_i64]; omega
  have hwn : IntKind.i64.wrap (-s) = -s := by rw [IntKind.wrap_i64]; omega
  have cp0 : w4.cell? ⟨w.heap.size, 0, none⟩ = some (.string p.s) := Hp4.out.cell 0
  have cp1 : w4.cell? ⟨w.heap.size, 1, none⟩ = some (.bool p.n) := Hp4.out.cell 1
  have cp2 : w4.cell? ⟨w.heap.size, 2, none⟩ = some (.slice p.a p.xs.length p.ca) := Hp4.out.cell 2
  have cp3 : w4.cell? ⟨w.heap.size, 3, none⟩ = some (.slice p.b p.ys.length p.cb) := Hp4.out.cell 3
  have cp4 : w4.cell? ⟨w.heap.size, 4, none⟩ = some (.slice p.t p.ts.length p.ct) := Hp4.out.cell 4
  go_wp2_with fail
  refine Calls.mono (pMoved_good p s w4 Kp4.out HG.out (by omega) (by omega) (HSM.out s (by omega))) ?_
  rintro e w5 ⟨m, vs, h_e, ⟨hl, hv⟩, hm⟩
  clear cp0 cp1 cp2 cp3 cp4
  have he : e = .returned (.tuple #[.agg #[.string m.s, .bool m.n, .slice m.a m.xs.length m.ca, .slice m.b m.ys.length m.cb, .slice m.t m.ts.length m.ct], .int .i64 0]) := h_e
  subst he
  clear h_e
  have HW5 := hid (bt HW4.out hm.bel)
  have Hp5 := hid (Hp4.out.later hm.bel Hp4.out.lt)
  have Hc5 := hid (Hc4.out.later hm.bel Hc4.out.lt)
  have Kp5 := hid (Kp4.out.later hm.bel)
  have Kc5 := hid (Kc4.out.later hm.bel)
  clear HW4 Hp4 Hc4 Kp4 Kc4
  have HVS := hid (And.intro hl hv)
  have HMG : Hid m.v.Good := by
    show m.v.Good
    rw [hm.v]
    exact Mv.good HG.out hl hv
  have HMO : Hid m.v.ok := by
    show m.v.ok
    rw [hm.v]
    exact mv_ok HOK.out hl hv
  have HMT : Hid (m.v.ts = vs) := congrArg PV.ts hm.v
  have HMH : Hid (m.s = p.s ∧ m.n = p.n ∧ m.xs = p.xs ∧ m.ys = p.ys) := ⟨congrArg PV.s hm.v, congrArg PV.n hm.v, congrArg PV.xs hm.v, congrArg PV.ys hm.v⟩
  have KM := hid (made_ok hm (mv_ok HOK.out hl hv))
  have HML : Hid (m.ts.length = p.ts.length) := by
    have e := congrArg List.length HMT.out
    rw [show m.v.ts = m.ts.map TL.v from rfl, List.length_map] at e
    have := HL.out
    show _ = _
    omega
  have HMS : Hid (∀ n : Int, n.natAbs ≤ 60 → ∀ j, j < m.v.ts.length → ¬ mlong (vT m.v.ts j).q1 (vT m.v.ts j).q2 (oP (vT m.v.ts j).f (vT m.v.ts j).r n).1 (oP (vT m.v.ts j).f (vT m.v.ts j).r n).2) := fun n hn j hj => by
    rw [HMT.out] at hj ⊢
    have hj' : j < p.v.ts.length := by omega
    exact moved_short (HIS.out j hj').2.2 (HIS.out j hj').1 (HIS.out j hj').2.1 (a := s) (by omega) (hv j hj') n hn
  clear hl hv hm
  obtain ⟨Ym, hYm⟩ : ∃ Ym, w5.alloc (.cells #[.string m.s, .bool m.n, .slice m.a m.xs.length m.ca, .slice m.b m.ys.length m.cb, .slice m.t m.ts.length m.ct] 27) = Ym := ⟨_, rfl⟩
  have Gm : Hid (Box Ym w5.heap.size 27 #[.string m.s, .bool m.n, .slice m.a m.xs.length m.ca, .slice m.b m.ys.length m.cb, .slice m.t m.ts.length m.ct]) := by
    subst hYm
    exact Box.made w5 _ _
  have Lm : Hid (Below w5.heap.size w5 Ym) := by
    subst hYm
    exact alloc_later _ _
  have HW6 := hid (bt HW5.out Lm.out)
  have Hp6 := hid (Hp5.out.later Lm.out Hp5.out.lt)
  have Hc6 := hid (Hc5.out.later Lm.out Hc5.out.lt)
  have Kp6 := hid (Kp5.out.later Lm.out)
  have Kc6 := hid (Kc5.out.later Lm.out)
  have Km6 := hid (KM.out.later Lm.out)
  clear HW5 Hp5 Hc5 Kp5 Kc5 KM
  have cp4 : Ym.cell? ⟨w.heap.size, 4, none⟩ = some (.slice p.t p.ts.length p.ct) := Hp6.out.cell 4
  have cm4 : Ym.cell? ⟨w5.heap.size, 4, none⟩ = some (.slice m.t m.ts.length m.ct) := Gm.out.cell 4
  have hml : (m.ts.length : Int) = (p.ts.length : Int) := by have := HML.out; omega
  go_wp2_with fail
  clear hml
  clear cp4 cm4
  have HNN := hid (show p.ts.length ≤ 4 by omega)
  go_loopw [11] (fun x wr => ∃ i : Nat, x = .int .i64 (i : Int) ∧ i ≤ p.ts.length ∧ Hid (Below Ym.heap.size Ym wr)) (fun x _ => p.ts.length - (intOf x).toNat)
  case atStart => exact ⟨0, rfl, Nat.zero_le _, Below.refl _ _⟩
  case round =>
    obtain ⟨i, rfl, hi, HBk⟩ := hrel
    have HW7 := hid (bt HW6.out HBk.out)
    have Hp7 := hid (Hp6.out.later HBk.out Hp6.out.lt)
    have Hc7 := hid (Hc6.out.later HBk.out Hc6.out.lt)
    have Hm7 := hid (Gm.out.later HBk.out Gm.out.lt)
    have Kp7 := hid (Kp6.out.later HBk.out)
    have Kc7 := hid (Kc6.out.later HBk.out)
    have Km7 := hid (Km6.out.later HBk.out)
    clear HW6 Hp6 Hc6 Gm Kp6 Kc6 Km6
    by_cases hin : i < p.ts.length
    · have hpj : i < p.v.ts.length := by have := HL.out; omega
      have hmj : i < m.v.ts.length := by have h1 := HMT.out; have h2 := HVS.out.1; rw [h1, h2]; exact hpj
      have hmi : i < m.ts.length := by have := HML.out; omega
      have hpe : (tT p.ts i).v = vT p.v.ts i := tT_v p.ts i
      have hme : (tT m.ts i).v = vT m.v.ts i := tT_v m.ts i
      have HAM : Hid (∀ V, Below wr.heap.size wr V → Calls Tryz.prog 44 #[.agg #[.string (tT m.ts i).s, .int .i32 (tT m.ts i).f, .int .i32 (tT m.ts i).r, .bool (tT m.ts i).n, .slice (tT m.ts i).a (tT m.ts i).xs.length (tT m.ts i).ca, .slice (tT m.ts i).b (tT m.ts i).ys.length (tT m.ts i).cb, .bool (tT m.ts i).m, .slice (tT m.ts i).c (tT m.ts i).us.length (tT m.ts i).cc, .slice (tT m.ts i).d (tT m.ts i).vs.length (tT m.ts i).cd], .int .i64 t] V fun e w' => ∃ g : G6, e = .returned (.tuple #[.agg #[.bool g.n, .slice g.a g.xs.length g.ca, .slice g.b g.ys.length g.cb, .bool g.m, .slice g.c g.us.length g.cc, .slice g.d g.vs.length g.cd], .bool true]) ∧ g.Sl4 w' ∧ g.Is (qmul (vT m.v.ts i).q (oP (vT m.v.ts i).f (vT m.v.ts i).r t)).1 (qmul (vT m.v.ts i).q (oP (vT m.v.ts i).f (vT m.v.ts i).r t)).2 ∧ Below V.heap.size V w') := fun V hV => by
        have hs1 := HMS.out t (by omega) i hmj
        rw [← hme] at hs1 ⊢
        exact pat_any (tT m.ts i) t V ((Km7.out.ts.later hV).1 _ (tT_mem hmi)) (by have h := HMG.out.chk i hmj; rw [← hme] at h; exact h) (by omega) (by omega) hs1
      have HAP : Hid (∀ V, Below wr.heap.size wr V → Calls Tryz.prog 44 #[.agg #[.string (tT p.ts i).s, .int .i32 (tT p.ts i).f, .int .i32 (tT p.ts i).r, .bool (tT p.ts i).n, .slice (tT p.ts i).a (tT p.ts i).xs.length (tT p.ts i).ca, .slice (tT p.ts i).b (tT p.ts i).ys.length (tT p.ts i).cb, .bool (tT p.ts i).m, .slice (tT p.ts i).c (tT p.ts i).us.length (tT p.ts i).cc, .slice (tT p.ts i).d (tT p.ts i).vs.length (tT p.ts i).cd], .int .i64 (s + t)] V fun e w' => ∃ g : G6, e = .returned (.tuple #[.agg #[.bool g.n, .slice g.a g.xs.length g.ca, .slice g.b g.ys.length g.cb, .bool g.m, .slice g.c g.us.length g.cc, .slice g.d g.vs.length g.cd], .bool true]) ∧ g.Sl4 w' ∧ g.Is (qmul (vT p.v.ts i).q (oP (vT p.v.ts i).f (vT p.v.ts i).r (s + t))).1 (qmul (vT p.v.ts i).q (oP (vT p.v.ts i).f (vT p.v.ts i).r (s + t))).2 ∧ Below V.heap.size V w') := fun V hV => by
        have hs1 := HSM.out (s + t) (by omega) i hpj
        rw [← hpe] at hs1 ⊢
        exact pat_any (tT p.ts i) (s + t) V ((Kp7.out.ts.later hV).1 _ (tT_mem hin)) (by have h := HG.out.chk i hpj; rw [← hpe] at h; exact h) (by omega) (by omega) hs1
      have HEQ : Hid (qmul (vT m.v.ts i).q (oP (vT m.v.ts i).f (vT m.v.ts i).r t) = qmul (vT p.v.ts i).q (oP (vT p.v.ts i).f (vT p.v.ts i).r (s + t))) := by
        have h := HVS.out.2 i hpj
        show _ = _
        rw [HMT.out, h.q, h.2.1, h.2.2.1, qmul_assoc, ← oP_add (HIS.out i hpj).2.1]
      rw [HEQ.out] at HAM
      generalize (qmul (vT p.v.ts i).q (oP (vT p.v.ts i).f (vT p.v.ts i).r (s + t))).1 = z1 at *
      generalize (qmul (vT p.v.ts i).q (oP (vT p.v.ts i).f (vT p.v.ts i).r (s + t))).2 = z2 at *
      clear HEQ hpe hme hpj hmj
      rcases Km7.out.ts.2 with e | ⟨bm, om, hmt, hbm, hcm⟩
      · rw [e] at hmi; exact absurd hmi (by simp)
      rcases Kp7.out.ts.2 with e | ⟨bp, op, hpt, hbp, hcp⟩
      · rw [e] at hin; exact absurd hin (by simp)
      have HPT := hid hpt
      have HMTT := hid hmt
      clear hpt hmt
      have hcm' := hcm i _ (tT_at hmi)
      have hcp' := hcp i _ (tT_at hin)
      have HMC : Hid (∀ V, Below wr.heap.size wr V → ∀ k, k < 9 → V.cell? ⟨bm, om + i * 9 + k, none⟩ = (tT m.ts i).cells[k]?) := fun V hV k hk => (hV.cell (p := ⟨bm, om + i * 9 + k, none⟩) hbm).trans (hcm' k hk)
      have HPC : Hid (∀ V, Below wr.heap.size wr V → ∀ k, k < 9 → V.cell? ⟨bp, op + i * 9 + k, none⟩ = (tT p.ts i).cells[k]?) := fun V hV k hk => (hV.cell (p := ⟨bp, op + i * 9 + k, none⟩) hbp).trans (hcp' k hk)
      clear hcm hcp hcm' hcp' hbm hbp
      generalize tT m.ts i = tm at *
      generalize tT p.ts i = tp at *
      have hi0 : (0 : Int) ≤ (i : Int) := by omega
      have hi1 : (i : Int) < (p.ts.length : Int) := by omega
      have hi2 : (i : Int) < (m.ts.length : Int) := by omega
      have HRR := hid (Below.refl wr.heap.size wr)
      have cp4 : wr.cell? ⟨w.heap.size, 4, none⟩ = some (.slice (some ⟨bp, op, none⟩) p.ts.length p.ct) := by
        have q : wr.cell? ⟨w.heap.size, 4, none⟩ = some (.slice p.t p.ts.length p.ct) := Hp7.out.cell 4
        rw [HPT.out] at q
        exact q
      have cm4 : wr.cell? ⟨w5.heap.size, 4, none⟩ = some (.slice (some ⟨bm, om, none⟩) m.ts.length m.ct) := by
        have q : wr.cell? ⟨w5.heap.size, 4, none⟩ = some (.slice m.t m.ts.length m.ct) := Hm7.out.cell 4
        rw [HMTT.out] at q
        exact q
      have em0 : wr.cell? ⟨bm, om + i * 9, none⟩ = some (.string tm.s) := HMC.out wr HRR.out 0 (by decide)
      have em1 : wr.cell? ⟨bm, om + i * 9 + 1, none⟩ = some (.int .i32 tm.f) := HMC.out wr HRR.out 1 (by decide)
      have em2 : wr.cell? ⟨bm, om + i * 9 + 2, none⟩ = some (.int .i32 tm.r) := HMC.out wr HRR.out 2 (by decide)
      have em3 : wr.cell? ⟨bm, om + i * 9 + 3, none⟩ = some (.bool tm.n) := HMC.out wr HRR.out 3 (by decide)
      have em4 : wr.cell? ⟨bm, om + i * 9 + 4, none⟩ = some (.slice tm.a tm.xs.length tm.ca) := HMC.out wr HRR.out 4 (by decide)
      have em5 : wr.cell? ⟨bm, om + i * 9 + 5, none⟩ = some (.slice tm.b tm.ys.length tm.cb) := HMC.out wr HRR.out 5 (by decide)
      have em6 : wr.cell? ⟨bm, om + i * 9 + 6, none⟩ = some (.bool tm.m) := HMC.out wr HRR.out 6 (by decide)
      have em7 : wr.cell? ⟨bm, om + i * 9 + 7, none⟩ = some (.slice tm.c tm.us.length tm.cc) := HMC.out wr HRR.out 7 (by decide)
      have em8 : wr.cell? ⟨bm, om + i * 9 + 8, none⟩ = some (.slice tm.d tm.vs.length tm.cd) := HMC.out wr HRR.out 8 (by decide)
      go_wp2_with fail
      refine Calls.mono (HAM.out wr HRR.out) ?_
      rintro e w6 ⟨x, rfl, sx, ix, b6⟩
      clear cp4 cm4 em0 em1 em2 em3 em4 em5 em6 em7 em8
      have HXI := hid ix
      have KX := hid sx
      have HRX := hid b6
      clear HAM
      have HW8 := hid (bt HW7.out HRX.out)
      have Hp8 := hid (Hp7.out.later HRX.out Hp7.out.lt)
      have Hc8 := hid (Hc7.out.later HRX.out Hc7.out.lt)
      have Hm8 := hid (Hm7.out.later HRX.out Hm7.out.lt)
      have Kp8 := hid (Kp7.out.later HRX.out)
      have Kc8 := hid (Kc7.out.later HRX.out)
      have Km8 := hid (Km7.out.later HRX.out)
      clear HW7 Hp7 Hc7 Hm7 Kp7 Kc7 Km7
      obtain ⟨Yx, hYx⟩ : ∃ Yx, w6.alloc (.cells #[.bool x.n, .slice x.a x.xs.length x.ca, .slice x.b x.ys.length x.cb, .bool x.m, .slice x.c x.us.length x.cc, .slice x.d x.vs.length x.cd] 35) = Yx := ⟨_, rfl⟩
      have Gx : Hid (Box Yx w6.heap.size 35 #[.bool x.n, .slice x.a x.xs.length x.ca, .slice x.b x.ys.length x.cb, .bool x.m, .slice x.c x.us.length x.cc, .slice x.d x.vs.length x.cd]) := by
        subst hYx
        exact Box.made w6 _ _
      have Lx : Hid (Below w6.heap.size w6 Yx) := by
        subst hYx
        exact alloc_later _ _
      have HW9 := hid (bt HW8.out Lx.out)
      have Hp9 := hid (Hp8.out.later Lx.out Hp8.out.lt)
      have Hc9 := hid (Hc8.out.later Lx.out Hc8.out.lt)
      have Hm9 := hid (Hm8.out.later Lx.out Hm8.out.lt)
      have Kp9 := hid (Kp8.out.later Lx.out)
      have Kc9 := hid (Kc8.out.later Lx.out)
      have Km9 := hid (Km8.out.later Lx.out)
      have Kx9 := hid (KX.out.later Lx.out)
      clear HW8 Hp8 Hc8 Hm8 Kp8 Kc8 Km8 KX
      have HRY := hid (bt HRX.out Lx.out)
      have cp4 : Yx.cell? ⟨w.heap.size, 4, none⟩ = some (.slice (some ⟨bp, op, none⟩) p.ts.length p.ct) := by
        have q : Yx.cell? ⟨w.heap.size, 4, none⟩ = some (.slice p.t p.ts.length p.ct) := Hp9.out.cell 4
        rw [HPT.out] at q
        exact q
      have ep0 : Yx.cell? ⟨bp, op + i * 9, none⟩ = some (.string tp.s) := HPC.out Yx HRY.out 0 (by decide)
      have ep1 : Yx.cell? ⟨bp, op + i * 9 + 1, none⟩ = some (.int .i32 tp.f) := HPC.out Yx HRY.out 1 (by decide)
      have ep2 : Yx.cell? ⟨bp, op + i * 9 + 2, none⟩ = some (.int .i32 tp.r) := HPC.out Yx HRY.out 2 (by decide)
      have ep3 : Yx.cell? ⟨bp, op + i * 9 + 3, none⟩ = some (.bool tp.n) := HPC.out Yx HRY.out 3 (by decide)
      have ep4 : Yx.cell? ⟨bp, op + i * 9 + 4, none⟩ = some (.slice tp.a tp.xs.length tp.ca) := HPC.out Yx HRY.out 4 (by decide)
      have ep5 : Yx.cell? ⟨bp, op + i * 9 + 5, none⟩ = some (.slice tp.b tp.ys.length tp.cb) := HPC.out Yx HRY.out 5 (by decide)
      have ep6 : Yx.cell? ⟨bp, op + i * 9 + 6, none⟩ = some (.bool tp.m) := HPC.out Yx HRY.out 6 (by decide)
      have ep7 : Yx.cell? ⟨bp, op + i * 9 + 7, none⟩ = some (.slice tp.c tp.us.length tp.cc) := HPC.out Yx HRY.out 7 (by decide)
      have ep8 : Yx.cell? ⟨bp, op + i * 9 + 8, none⟩ = some (.slice tp.d tp.vs.length tp.cd) := HPC.out Yx HRY.out 8 (by decide)
      go_wp2_with fail
      refine Calls.mono (HAP.out Yx HRY.out) ?_
      rintro e w7 ⟨y, rfl, sy, iy, b7⟩
      clear cp4 ep0 ep1 ep2 ep3 ep4 ep5 ep6 ep7 ep8
      have HYI := hid iy
      have KY := hid sy
      have HRZ := hid b7
      clear HAP HPC HMC
      have HW10 := hid (bt HW9.out HRZ.out)
      have Hp10 := hid (Hp9.out.later HRZ.out Hp9.out.lt)
      have Hc10 := hid (Hc9.out.later HRZ.out Hc9.out.lt)
      have Hm10 := hid (Hm9.out.later HRZ.out Hm9.out.lt)
      have Hx10 := hid (Gx.out.later HRZ.out Gx.out.lt)
      have Kp10 := hid (Kp9.out.later HRZ.out)
      have Kc10 := hid (Kc9.out.later HRZ.out)
      have Km10 := hid (Km9.out.later HRZ.out)
      have Kx10 := hid (Kx9.out.later HRZ.out)
      clear HW9 Hp9 Hc9 Hm9 Gx Kp9 Kc9 Km9 Kx9
      obtain ⟨Yy, hYy⟩ : ∃ Yy, w7.alloc (.cells #[.bool y.n, .slice y.a y.xs.length y.ca, .slice y.b y.ys.length y.cb, .bool y.m, .slice y.c y.us.length y.cc, .slice y.d y.vs.length y.cd] 35) = Yy := ⟨_, rfl⟩
      have Gy : Hid (Box Yy w7.heap.size 35 #[.bool y.n, .slice y.a y.xs.length y.ca, .slice y.b y.ys.length y.cb, .bool y.m, .slice y.c y.us.length y.cc, .slice y.d y.vs.length y.cd]) := by
        subst hYy
        exact Box.made w7 _ _
      have Ly : Hid (Below w7.heap.size w7 Yy) := by
        subst hYy
        exact alloc_later _ _
      have HW11 := hid (bt HW10.out Ly.out)
      have Hp11 := hid (Hp10.out.later Ly.out Hp10.out.lt)
      have Hc11 := hid (Hc10.out.later Ly.out Hc10.out.lt)
      have Hm11 := hid (Hm10.out.later Ly.out Hm10.out.lt)
      have Hx11 := hid (Hx10.out.later Ly.out Hx10.out.lt)
      have Kp11 := hid (Kp10.out.later Ly.out)
      have Kc11 := hid (Kc10.out.later Ly.out)
      have Km11 := hid (Km10.out.later Ly.out)
      have Kx11 := hid (Kx10.out.later Ly.out)
      have Ky11 := hid (KY.out.later Ly.out)
      clear HW10 Hp10 Hc10 Hm10 Hx10 Kp10 Kc10 Km10 Kx10 KY
      have cx0 : Yy.cell? ⟨w6.heap.size, 0, none⟩ = some (.bool x.n) := Hx11.out.cell 0
      have cx1 : Yy.cell? ⟨w6.heap.size, 1, none⟩ = some (.slice x.a x.xs.length x.ca) := Hx11.out.cell 1
      have cx2 : Yy.cell? ⟨w6.heap.size, 2, none⟩ = some (.slice x.b x.ys.length x.cb) := Hx11.out.cell 2
      have cx3 : Yy.cell? ⟨w6.heap.size, 3, none⟩ = some (.bool x.m) := Hx11.out.cell 3
      have cx4 : Yy.cell? ⟨w6.heap.size, 4, none⟩ = some (.slice x.c x.us.length x.cc) := Hx11.out.cell 4
      have cx5 : Yy.cell? ⟨w6.heap.size, 5, none⟩ = some (.slice x.d x.vs.length x.cd) := Hx11.out.cell 5
      have cy0 : Yy.cell? ⟨w7.heap.size, 0, none⟩ = some (.bool y.n) := Gy.out.cell 0
      have cy1 : Yy.cell? ⟨w7.heap.size, 1, none⟩ = some (.slice y.a y.xs.length y.ca) := Gy.out.cell 1
      have cy2 : Yy.cell? ⟨w7.heap.size, 2, none⟩ = some (.slice y.b y.ys.length y.cb) := Gy.out.cell 2
      have cy3 : Yy.cell? ⟨w7.heap.size, 3, none⟩ = some (.bool y.m) := Gy.out.cell 3
      have cy4 : Yy.cell? ⟨w7.heap.size, 4, none⟩ = some (.slice y.c y.us.length y.cc) := Gy.out.cell 4
      have cy5 : Yy.cell? ⟨w7.heap.size, 5, none⟩ = some (.slice y.d y.vs.length y.cd) := Gy.out.cell 5
      have HSS := hid (g6same x y Yy Kx11.out Ky11.out HXI.out HYI.out)
      go_wp2_with fail
      refine Calls.mono HSS.out ?_
      rintro e w8 ⟨rfl, b8⟩
      clear cx0 cx1 cx2 cx3 cx4 cx5 cy0 cy1 cy2 cy3 cy4 cy5
      have HBN := hid (bt HBk.out (bt HRY.out (bt HRZ.out (bt Ly.out b8))))
      clear b8
      go_wp2_with fail
      go_roundw
      case rel => exact ⟨i + 1, by go_num, by omega, HBN⟩
      case measure => simp [intOf]; omega
    have hie : i = p.ts.length := by omega
    subst hie
    have hi1 : ¬ (p.ts.length : Int) < (p.ts.length : Int) := by omega
    have cp4 : wr.cell? ⟨w.heap.size, 4, none⟩ = some (.slice p.t p.ts.length p.ct) := Hp7.out.cell 4
    have cm0 : wr.cell? ⟨w5.heap.size, 0, none⟩ = some (.string m.s) := Hm7.out.cell 0
    have cm1 : wr.cell? ⟨w5.heap.size, 1, none⟩ = some (.bool m.n) := Hm7.out.cell 1
    have cm2 : wr.cell? ⟨w5.heap.size, 2, none⟩ = some (.slice m.a m.xs.length m.ca) := Hm7.out.cell 2
    have cm3 : wr.cell? ⟨w5.heap.size, 3, none⟩ = some (.slice m.b m.ys.length m.cb) := Hm7.out.cell 3
    have cm4 : wr.cell? ⟨w5.heap.size, 4, none⟩ = some (.slice m.t m.ts.length m.ct) := Hm7.out.cell 4
    clear HBk
    go_wp2_with fail
    refine Calls.mono (pMoved_good m (-s) wr Km7.out HMG.out (by omega) (by omega) (HMS.out (-s) (by omega))) ?_
    rintro e w6 ⟨b, us, h_e, ⟨hl, hv⟩, hm⟩
    clear cp4 cm0 cm1 cm2 cm3 cm4
    have he : e = .returned (.tuple #[.agg #[.string b.s, .bool b.n, .slice b.a b.xs.length b.ca, .slice b.b b.ys.length b.cb, .slice b.t b.ts.length b.ct], .int .i64 0]) := h_e
    subst he
    clear h_e
    have HBV : Hid (b.v = p.v) := by
      show b.v = p.v
      rw [HMT.out] at hl hv
      rw [hm.v, HMH.out.1, HMH.out.2.1, HMH.out.2.2.1, HMH.out.2.2.2]
      exact moved_back HG.out HOK.out HVS.out.1 HVS.out.2 hl hv
    have KB := hid (PL.ok_of (by rw [HBV.out]; exact HOK.out) hm.ow)
    clear hl hv
    have HW12 := hid (bt HW7.out hm.bel)
    have Hp12 := hid (Hp7.out.later hm.bel Hp7.out.lt)
    have Hc12 := hid (Hc7.out.later hm.bel Hc7.out.lt)
    have Hm12 := hid (Hm7.out.later hm.bel Hm7.out.lt)
    have Kp12 := hid (Kp7.out.later hm.bel)
    have Kc12 := hid (Kc7.out.later hm.bel)
    have Km12 := hid (Km7.out.later hm.bel)
    clear HW7 Hp7 Hc7 Hm7 Kp7 Kc7 Km7
    clear hm
    obtain ⟨Yb, hYb⟩ : ∃ Yb, w6.alloc (.cells #[.string b.s, .bool b.n, .slice b.a b.xs.length b.ca, .slice b.b b.ys.length b.cb, .slice b.t b.ts.length b.ct] 27) = Yb := ⟨_, rfl⟩
    have Gb : Hid (Box Yb w6.heap.size 27 #[.string b.s, .bool b.n, .slice b.a b.xs.length b.ca, .slice b.b b.ys.length b.cb, .slice b.t b.ts.length b.ct]) := by
      subst hYb
      exact Box.made w6 _ _
    have Lb : Hid (Below w6.heap.size w6 Yb) := by
      subst hYb
      exact alloc_later _ _
    have HW13 := hid (bt HW12.out Lb.out)
    have Hp13 := hid (Hp12.out.later Lb.out Hp12.out.lt)
    have Hc13 := hid (Hc12.out.later Lb.out Hc12.out.lt)
    have Hm13 := hid (Hm12.out.later Lb.out Hm12.out.lt)
    have Kp13 := hid (Kp12.out.later Lb.out)
    have Kc13 := hid (Kc12.out.later Lb.out)
    have Km13 := hid (Km12.out.later Lb.out)
    have Kb13 := hid (KB.out.later Lb.out)
    clear HW12 Hp12 Hc12 Hm12 Kp12 Kc12 Km12 KB
    have cp0 : Yb.cell? ⟨w.heap.size, 0, none⟩ = some (.string p.s) := Hp13.out.cell 0
    have cp1 : Yb.cell? ⟨w.heap.size, 1, none⟩ = some (.bool p.n) := Hp13.out.cell 1
    have cp2 : Yb.cell? ⟨w.heap.size, 2, none⟩ = some (.slice p.a p.xs.length p.ca) := Hp13.out.cell 2
    have cp3 : Yb.cell? ⟨w.heap.size, 3, none⟩ = some (.slice p.b p.ys.length p.cb) := Hp13.out.cell 3
    have cp4 : Yb.cell? ⟨w.heap.size, 4, none⟩ = some (.slice p.t p.ts.length p.ct) := Hp13.out.cell 4
    go_wp2_with fail
    refine Calls.mono (pConj_good p Yb Kp13.out HG.out) ?_
    rintro e w7 ⟨d, ds, h_e, ⟨hl, hv⟩, hm⟩
    clear cp0 cp1 cp2 cp3 cp4
    have he : e = .returned (.tuple #[.agg #[.string d.s, .bool d.n, .slice d.a d.xs.length d.ca, .slice d.b d.ys.length d.cb, .slice d.t d.ts.length d.ct], .int .i64 0]) := h_e
    subst he
    clear h_e
    have HDS := hid (And.intro hl hv)
    have HDG : Hid d.v.Good := by
      show d.v.Good
      rw [hm.v]
      exact Cj.good HG.out hl hv
    have HDT : Hid (d.v.ts = ds) := congrArg PV.ts hm.v
    have HDH : Hid (d.s = p.s ∧ d.n = p.n ∧ d.xs = p.xs ∧ d.ys = p.ys) := ⟨congrArg PV.s hm.v, congrArg PV.n hm.v, congrArg PV.xs hm.v, congrArg PV.ys hm.v⟩
    have KD := hid (made_ok hm (cj_ok HG.out HOK.out hl hv))
    clear hl hv
    have HW14 := hid (bt HW13.out hm.bel)
    have Hp14 := hid (Hp13.out.later hm.bel Hp13.out.lt)
    have Hc14 := hid (Hc13.out.later hm.bel Hc13.out.lt)
    have Hm14 := hid (Hm13.out.later hm.bel Hm13.out.lt)
    have Hb14 := hid (Gb.out.later hm.bel Gb.out.lt)
    have Kp14 := hid (Kp13.out.later hm.bel)
    have Kc14 := hid (Kc13.out.later hm.bel)
    have Km14 := hid (Km13.out.later hm.bel)
    have Kb14 := hid (Kb13.out.later hm.bel)
    clear HW13 Hp13 Hc13 Hm13 Gb Kp13 Kc13 Km13 Kb13
    clear hm
    obtain ⟨Yd, hYd⟩ : ∃ Yd, w7.alloc (.cells #[.string d.s, .bool d.n, .slice d.a d.xs.length d.ca, .slice d.b d.ys.length d.cb, .slice d.t d.ts.length d.ct] 27) = Yd := ⟨_, rfl⟩
    have Gd : Hid (Box Yd w7.heap.size 27 #[.string d.s, .bool d.n, .slice d.a d.xs.length d.ca, .slice d.b d.ys.length d.cb, .slice d.t d.ts.length d.ct]) := by
      subst hYd
      exact Box.made w7 _ _
    have Ld : Hid (Below w7.heap.size w7 Yd) := by
      subst hYd
      exact alloc_later _ _
    have HW15 := hid (bt HW14.out Ld.out)
    have Hp15 := hid (Hp14.out.later Ld.out Hp14.out.lt)
    have Hc15 := hid (Hc14.out.later Ld.out Hc14.out.lt)
    have Hm15 := hid (Hm14.out.later Ld.out Hm14.out.lt)
    have Hb15 := hid (Hb14.out.later Ld.out Hb14.out.lt)
    have Kp15 := hid (Kp14.out.later Ld.out)
    have Kc15 := hid (Kc14.out.later Ld.out)
    have Km15 := hid (Km14.out.later Ld.out)
    have Kb15 := hid (Kb14.out.later Ld.out)
    have Kd15 := hid (KD.out.later Ld.out)
    clear HW14 Hp14 Hc14 Hm14 Hb14 Kp14 Kc14 Km14 Kb14 KD
    have cd0 : Yd.cell? ⟨w7.heap.size, 0, none⟩ = some (.string d.s) := Gd.out.cell 0
    have cd1 : Yd.cell? ⟨w7.heap.size, 1, none⟩ = some (.bool d.n) := Gd.out.cell 1
    have cd2 : Yd.cell? ⟨w7.heap.size, 2, none⟩ = some (.slice d.a d.xs.length d.ca) := Gd.out.cell 2
    have cd3 : Yd.cell? ⟨w7.heap.size, 3, none⟩ = some (.slice d.b d.ys.length d.cb) := Gd.out.cell 3
    have cd4 : Yd.cell? ⟨w7.heap.size, 4, none⟩ = some (.slice d.t d.ts.length d.ct) := Gd.out.cell 4
    go_wp2_with fail
    refine Calls.mono (pConj_good d Yd Kd15.out HDG.out) ?_
    rintro e w8 ⟨k, ks, h_e, ⟨hl, hv⟩, hm⟩
    clear cd0 cd1 cd2 cd3 cd4
    have he : e = .returned (.tuple #[.agg #[.string k.s, .bool k.n, .slice k.a k.xs.length k.ca, .slice k.b k.ys.length k.cb, .slice k.t k.ts.length k.ct], .int .i64 0]) := h_e
    subst he
    clear h_e
    have HKV : Hid (k.v = p.v) := by
      show k.v = p.v
      rw [HDT.out] at hl hv
      rw [hm.v, HDH.out.1, HDH.out.2.1, HDH.out.2.2.1, HDH.out.2.2.2]
      exact conj_back HG.out HOK.out HDS.out.1 HDS.out.2 hl hv
    have KK := hid (PL.ok_of (by rw [HKV.out]; exact HOK.out) hm.ow)
    clear hl hv
    have HW16 := hid (bt HW15.out hm.bel)
    have Hp16 := hid (Hp15.out.later hm.bel Hp15.out.lt)
    have Hc16 := hid (Hc15.out.later hm.bel Hc15.out.lt)
    have Hm16 := hid (Hm15.out.later hm.bel Hm15.out.lt)
    have Hb16 := hid (Hb15.out.later hm.bel Hb15.out.lt)
    have Hd16 := hid (Gd.out.later hm.bel Gd.out.lt)
    have Kp16 := hid (Kp15.out.later hm.bel)
    have Kc16 := hid (Kc15.out.later hm.bel)
    have Km16 := hid (Km15.out.later hm.bel)
    have Kb16 := hid (Kb15.out.later hm.bel)
    have Kd16 := hid (Kd15.out.later hm.bel)
    clear HW15 Hp15 Hc15 Hm15 Hb15 Gd Kp15 Kc15 Km15 Kb15 Kd15
    clear hm
    obtain ⟨Yk, hYk⟩ : ∃ Yk, w8.alloc (.cells #[.string k.s, .bool k.n, .slice k.a k.xs.length k.ca, .slice k.b k.ys.length k.cb, .slice k.t k.ts.length k.ct] 27) = Yk := ⟨_, rfl⟩
    have Gk : Hid (Box Yk w8.heap.size 27 #[.string k.s, .bool k.n, .slice k.a k.xs.length k.ca, .slice k.b k.ys.length k.cb, .slice k.t k.ts.length k.ct]) := by
      subst hYk
      exact Box.made w8 _ _
    have Lk : Hid (Below w8.heap.size w8 Yk) := by
      subst hYk
      exact alloc_later _ _
    have HW17 := hid (bt HW16.out Lk.out)
    have Hp17 := hid (Hp16.out.later Lk.out Hp16.out.lt)
    have Hc17 := hid (Hc16.out.later Lk.out Hc16.out.lt)
    have Hm17 := hid (Hm16.out.later Lk.out Hm16.out.lt)
    have Hb17 := hid (Hb16.out.later Lk.out Hb16.out.lt)
    have Hd17 := hid (Hd16.out.later Lk.out Hd16.out.lt)
    have Kp17 := hid (Kp16.out.later Lk.out)
    have Kc17 := hid (Kc16.out.later Lk.out)
    have Km17 := hid (Km16.out.later Lk.out)
    have Kb17 := hid (Kb16.out.later Lk.out)
    have Kd17 := hid (Kd16.out.later Lk.out)
    have Kk17 := hid (KK.out.later Lk.out)
    clear HW16 Hp16 Hc16 Hm16 Hb16 Hd16 Kp16 Kc16 Km16 Kb16 Kd16 KK
    clear Hd17 Kd17 HDS HDG HDT HDH
    have cb0 : Yk.cell? ⟨w6.heap.size, 0, none⟩ = some (.string b.s) := Hb17.out.cell 0
    have cb1 : Yk.cell? ⟨w6.heap.size, 1, none⟩ = some (.bool b.n) := Hb17.out.cell 1
    have cb2 : Yk.cell? ⟨w6.heap.size, 2, none⟩ = some (.slice b.a b.xs.length b.ca) := Hb17.out.cell 2
    have cb3 : Yk.cell? ⟨w6.heap.size, 3, none⟩ = some (.slice b.b b.ys.length b.cb) := Hb17.out.cell 3
    have cb4 : Yk.cell? ⟨w6.heap.size, 4, none⟩ = some (.slice b.t b.ts.length b.ct) := Hb17.out.cell 4
    have cp0 : Yk.cell? ⟨w.heap.size, 0, none⟩ = some (.string p.s) := Hp17.out.cell 0
    have cp1 : Yk.cell? ⟨w.heap.size, 1, none⟩ = some (.bool p.n) := Hp17.out.cell 1
    have cp2 : Yk.cell? ⟨w.heap.size, 2, none⟩ = some (.slice p.a p.xs.length p.ca) := Hp17.out.cell 2
    have cp3 : Yk.cell? ⟨w.heap.size, 3, none⟩ = some (.slice p.b p.ys.length p.cb) := Hp17.out.cell 3
    have cp4 : Yk.cell? ⟨w.heap.size, 4, none⟩ = some (.slice p.t p.ts.length p.ct) := Hp17.out.cell 4
    go_wp2_with fail
    refine Calls.mono (psame_eq p b Yk Kp17.out Kb17.out HG.out HBV.out) ?_
    rintro e w9 ⟨rfl, b9⟩
    clear cb0 cb1 cb2 cb3 cb4 cp0 cp1 cp2 cp3 cp4
    have HW18 := hid (bt HW17.out b9)
    have Hp18 := hid (Hp17.out.later b9 Hp17.out.lt)
    have Hc18 := hid (Hc17.out.later b9 Hc17.out.lt)
    have Hm18 := hid (Hm17.out.later b9 Hm17.out.lt)
    have Hb18 := hid (Hb17.out.later b9 Hb17.out.lt)
    have Hk18 := hid (Gk.out.later b9 Gk.out.lt)
    have Kp18 := hid (Kp17.out.later b9)
    have Kc18 := hid (Kc17.out.later b9)
    have Km18 := hid (Km17.out.later b9)
    have Kb18 := hid (Kb17.out.later b9)
    have Kk18 := hid (Kk17.out.later b9)
    clear HW17 Hp17 Hc17 Hm17 Hb17 Gk Kp17 Kc17 Km17 Kb17 Kk17
    clear b9
    have ck0 : w9.cell? ⟨w8.heap.size, 0, none⟩ = some (.string k.s) := Hk18.out.cell 0
    have ck1 : w9.cell? ⟨w8.heap.size, 1, none⟩ = some (.bool k.n) := Hk18.out.cell 1
    have ck2 : w9.cell? ⟨w8.heap.size, 2, none⟩ = some (.slice k.a k.xs.length k.ca) := Hk18.out.cell 2
    have ck3 : w9.cell? ⟨w8.heap.size, 3, none⟩ = some (.slice k.b k.ys.length k.cb) := Hk18.out.cell 3
    have ck4 : w9.cell? ⟨w8.heap.size, 4, none⟩ = some (.slice k.t k.ts.length k.ct) := Hk18.out.cell 4
    have cp0 : w9.cell? ⟨w.heap.size, 0, none⟩ = some (.string p.s) := Hp18.out.cell 0
    have cp1 : w9.cell? ⟨w.heap.size, 1, none⟩ = some (.bool p.n) := Hp18.out.cell 1
    have cp2 : w9.cell? ⟨w.heap.size, 2, none⟩ = some (.slice p.a p.xs.length p.ca) := Hp18.out.cell 2
    have cp3 : w9.cell? ⟨w.heap.size, 3, none⟩ = some (.slice p.b p.ys.length p.cb) := Hp18.out.cell 3
    have cp4 : w9.cell? ⟨w.heap.size, 4, none⟩ = some (.slice p.t p.ts.length p.ct) := Hp18.out.cell 4
    go_wp2_with fail
    refine Calls.mono (psame_eq p k w9 Kp18.out Kk18.out HG.out HKV.out) ?_
    rintro e w10 ⟨rfl, b10⟩
    clear ck0 ck1 ck2 ck3 ck4 cp0 cp1 cp2 cp3 cp4
    have HW19 := hid (bt HW18.out b10)
    have Hp19 := hid (Hp18.out.later b10 Hp18.out.lt)
    have Hc19 := hid (Hc18.out.later b10 Hc18.out.lt)
    have Hm19 := hid (Hm18.out.later b10 Hm18.out.lt)
    have Hb19 := hid (Hb18.out.later b10 Hb18.out.lt)
    have Hk19 := hid (Hk18.out.later b10 Hk18.out.lt)
    have Kp19 := hid (Kp18.out.later b10)
    have Kc19 := hid (Kc18.out.later b10)
    have Km19 := hid (Km18.out.later b10)
    have Kb19 := hid (Kb18.out.later b10)
    have Kk19 := hid (Kk18.out.later b10)
    clear HW18 Hp18 Hc18 Hm18 Hb18 Hk18 Kp18 Kc18 Km18 Kb18 Kk18
    clear b10
    clear Hb19 Kb19
    clear Hk19 Kk19
    clear HBV HKV
    have cm0 : w10.cell? ⟨w5.heap.size, 0, none⟩ = some (.string m.s) := Hm19.out.cell 0
    have cm1 : w10.cell? ⟨w5.heap.size, 1, none⟩ = some (.bool m.n) := Hm19.out.cell 1
    have cm2 : w10.cell? ⟨w5.heap.size, 2, none⟩ = some (.slice m.a m.xs.length m.ca) := Hm19.out.cell 2
    have cm3 : w10.cell? ⟨w5.heap.size, 3, none⟩ = some (.slice m.b m.ys.length m.cb) := Hm19.out.cell 3
    have cm4 : w10.cell? ⟨w5.heap.size, 4, none⟩ = some (.slice m.t m.ts.length m.ct) := Hm19.out.cell 4
    go_wp2_with fail
    refine Calls.mono (pMoved_good m t w10 Km19.out HMG.out (by omega) (by omega) (HMS.out t (by omega))) ?_
    rintro e w11 ⟨nn, ns, h_e, ⟨hl, hv⟩, hm⟩
    clear cm0 cm1 cm2 cm3 cm4
    have he : e = .returned (.tuple #[.agg #[.string nn.s, .bool nn.n, .slice nn.a nn.xs.length nn.ca, .slice nn.b nn.ys.length nn.cb, .slice nn.t nn.ts.length nn.ct], .int .i64 0]) := h_e
    subst he
    clear h_e
    rw [HMT.out] at hl hv
    have HNS := hid (And.intro hl hv)
    have HNV : Hid (nn.v = ⟨p.s, p.n, p.xs, p.ys, ns⟩) := by
      show nn.v = _
      rw [hm.v, HMH.out.1, HMH.out.2.1, HMH.out.2.2.1, HMH.out.2.2.2]
    have HNO : Hid (PV.ok ⟨p.s, p.n, p.xs, p.ys, ns⟩) := by
      have h := mv_ok HMO.out (vs := ns) (by rw [HMT.out]; exact hl) (by rw [HMT.out]; exact hv)
      exact ⟨HOK.out.1, HOK.out.2.1, HOK.out.2.2.1, h.2.2.2⟩
    have KN := hid (PL.ok_of (by rw [HNV.out]; exact HNO.out) hm.ow)
    clear hl hv
    have HW20 := hid (bt HW19.out hm.bel)
    have Hp20 := hid (Hp19.out.later hm.bel Hp19.out.lt)
    have Hc20 := hid (Hc19.out.later hm.bel Hc19.out.lt)
    have Hm20 := hid (Hm19.out.later hm.bel Hm19.out.lt)
    have Kp20 := hid (Kp19.out.later hm.bel)
    have Kc20 := hid (Kc19.out.later hm.bel)
    have Km20 := hid (Km19.out.later hm.bel)
    clear HW19 Hp19 Hc19 Hm19 Kp19 Kc19 Km19
    clear hm
    obtain ⟨Ynn, hYnn⟩ : ∃ Ynn, w11.alloc (.cells #[.string nn.s, .bool nn.n, .slice nn.a nn.xs.length nn.ca, .slice nn.b nn.ys.length nn.cb, .slice nn.t nn.ts.length nn.ct] 27) = Ynn := ⟨_, rfl⟩
    have Gnn : Hid (Box Ynn w11.heap.size 27 #[.string nn.s, .bool nn.n, .slice nn.a nn.xs.length nn.ca, .slice nn.b nn.ys.length nn.cb, .slice nn.t nn.ts.length nn.ct]) := by
      subst hYnn
      exact Box.made w11 _ _
    have Lnn : Hid (Below w11.heap.size w11 Ynn) := by
      subst hYnn
      exact alloc_later _ _
    have HW21 := hid (bt HW20.out Lnn.out)
    have Hp21 := hid (Hp20.out.later Lnn.out Hp20.out.lt)
    have Hc21 := hid (Hc20.out.later Lnn.out Hc20.out.lt)
    have Hm21 := hid (Hm20.out.later Lnn.out Hm20.out.lt)
    have Kp21 := hid (Kp20.out.later Lnn.out)
    have Kc21 := hid (Kc20.out.later Lnn.out)
    have Km21 := hid (Km20.out.later Lnn.out)
    have Knn21 := hid (KN.out.later Lnn.out)
    clear HW20 Hp20 Hc20 Hm20 Kp20 Kc20 Km20 KN
    have cp0 : Ynn.cell? ⟨w.heap.size, 0, none⟩ = some (.string p.s) := Hp21.out.cell 0
    have cp1 : Ynn.cell? ⟨w.heap.size, 1, none⟩ = some (.bool p.n) := Hp21.out.cell 1
    have cp2 : Ynn.cell? ⟨w.heap.size, 2, none⟩ = some (.slice p.a p.xs.length p.ca) := Hp21.out.cell 2
    have cp3 : Ynn.cell? ⟨w.heap.size, 3, none⟩ = some (.slice p.b p.ys.length p.cb) := Hp21.out.cell 3
    have cp4 : Ynn.cell? ⟨w.heap.size, 4, none⟩ = some (.slice p.t p.ts.length p.ct) := Hp21.out.cell 4
    go_wp2_with fail
    refine Calls.mono (pMoved_good p (s + t) Ynn Kp21.out HG.out (by omega) (by omega) (HSM.out (s + t) (by omega))) ?_
    rintro e w12 ⟨o, os, h_e, ⟨hl, hv⟩, hm⟩
    clear cp0 cp1 cp2 cp3 cp4
    have he : e = .returned (.tuple #[.agg #[.string o.s, .bool o.n, .slice o.a o.xs.length o.ca, .slice o.b o.ys.length o.cb, .slice o.t o.ts.length o.ct], .int .i64 0]) := h_e
    subst he
    clear h_e
    have HOG : Hid o.v.Good := by
      show o.v.Good
      rw [hm.v]
      exact Mv.good HG.out hl hv
    have HNQ : Hid (nn.v = o.v) := by
      show nn.v = o.v
      rw [HNV.out, hm.v, moved_on HG.out HVS.out.1 HVS.out.2 HNS.out.1 HNS.out.2 hl hv]
    have KO := hid (made_ok hm (mv_ok HOK.out hl hv))
    clear hl hv
    have HW22 := hid (bt HW21.out hm.bel)
    have Hp22 := hid (Hp21.out.later hm.bel Hp21.out.lt)
    have Hc22 := hid (Hc21.out.later hm.bel Hc21.out.lt)
    have Hm22 := hid (Hm21.out.later hm.bel Hm21.out.lt)
    have Hnn22 := hid (Gnn.out.later hm.bel Gnn.out.lt)
    have Kp22 := hid (Kp21.out.later hm.bel)
    have Kc22 := hid (Kc21.out.later hm.bel)
    have Km22 := hid (Km21.out.later hm.bel)
    have Knn22 := hid (Knn21.out.later hm.bel)
    clear HW21 Hp21 Hc21 Hm21 Gnn Kp21 Kc21 Km21 Knn21
    clear hm
    obtain ⟨Yo, hYo⟩ : ∃ Yo, w12.alloc (.cells #[.string o.s, .bool o.n, .slice o.a o.xs.length o.ca, .slice o.b o.ys.length o.cb, .slice o.t o.ts.length o.ct] 27) = Yo := ⟨_, rfl⟩
    have Go : Hid (Box Yo w12.heap.size 27 #[.string o.s, .bool o.n, .slice o.a o.xs.length o.ca, .slice o.b o.ys.length o.cb, .slice o.t o.ts.length o.ct]) := by
      subst hYo
      exact Box.made w12 _ _
    have Lo : Hid (Below w12.heap.size w12 Yo) := by
      subst hYo
      exact alloc_later _ _
    have HW23 := hid (bt HW22.out Lo.out)
    have Hp23 := hid (Hp22.out.later Lo.out Hp22.out.lt)
    have Hc23 := hid (Hc22.out.later Lo.out Hc22.out.lt)
    have Hm23 := hid (Hm22.out.later Lo.out Hm22.out.lt)
    have Hnn23 := hid (Hnn22.out.later Lo.out Hnn22.out.lt)
    have Kp23 := hid (Kp22.out.later Lo.out)
    have Kc23 := hid (Kc22.out.later Lo.out)
    have Km23 := hid (Km22.out.later Lo.out)
    have Knn23 := hid (Knn22.out.later Lo.out)
    have Ko23 := hid (KO.out.later Lo.out)
    clear HW22 Hp22 Hc22 Hm22 Hnn22 Kp22 Kc22 Km22 Knn22 KO
    have cnn0 : Yo.cell? ⟨w11.heap.size, 0, none⟩ = some (.string nn.s) := Hnn23.out.cell 0
    have cnn1 : Yo.cell? ⟨w11.heap.size, 1, none⟩ = some (.bool nn.n) := Hnn23.out.cell 1
    have cnn2 : Yo.cell? ⟨w11.heap.size, 2, none⟩ = some (.slice nn.a nn.xs.length nn.ca) := Hnn23.out.cell 2
    have cnn3 : Yo.cell? ⟨w11.heap.size, 3, none⟩ = some (.slice nn.b nn.ys.length nn.cb) := Hnn23.out.cell 3
    have cnn4 : Yo.cell? ⟨w11.heap.size, 4, none⟩ = some (.slice nn.t nn.ts.length nn.ct) := Hnn23.out.cell 4
    have co0 : Yo.cell? ⟨w12.heap.size, 0, none⟩ = some (.string o.s) := Go.out.cell 0
    have co1 : Yo.cell? ⟨w12.heap.size, 1, none⟩ = some (.bool o.n) := Go.out.cell 1
    have co2 : Yo.cell? ⟨w12.heap.size, 2, none⟩ = some (.slice o.a o.xs.length o.ca) := Go.out.cell 2
    have co3 : Yo.cell? ⟨w12.heap.size, 3, none⟩ = some (.slice o.b o.ys.length o.cb) := Go.out.cell 3
    have co4 : Yo.cell? ⟨w12.heap.size, 4, none⟩ = some (.slice o.t o.ts.length o.ct) := Go.out.cell 4
    go_wp2_with fail
    refine Calls.mono (psame_eq o nn Yo Ko23.out Knn23.out HOG.out HNQ.out) ?_
    rintro e w13 ⟨rfl, b13⟩
    clear cnn0 cnn1 cnn2 cnn3 cnn4 co0 co1 co2 co3 co4
    have HW24 := hid (bt HW23.out b13)
    have Hp24 := hid (Hp23.out.later b13 Hp23.out.lt)
    have Hc24 := hid (Hc23.out.later b13 Hc23.out.lt)
    have Hm24 := hid (Hm23.out.later b13 Hm23.out.lt)
    have Hnn24 := hid (Hnn23.out.later b13 Hnn23.out.lt)
    have Ho24 := hid (Go.out.later b13 Go.out.lt)
    have Kp24 := hid (Kp23.out.later b13)
    have Kc24 := hid (Kc23.out.later b13)
    have Km24 := hid (Km23.out.later b13)
    have Knn24 := hid (Knn23.out.later b13)
    have Ko24 := hid (Ko23.out.later b13)
    clear HW23 Hp23 Hc23 Hm23 Hnn23 Go Kp23 Kc23 Km23 Knn23 Ko23
    clear b13
    clear Hnn24 Knn24
    clear Ho24 Ko24
    clear Hm24 Km24
    clear HNQ HOG HNV HNO HNS HMS HML HMH HMT HMO HMG HVS HSM
    have cp0 : w13.cell? ⟨w.heap.size, 0, none⟩ = some (.string p.s) := Hp24.out.cell 0
    have cp1 : w13.cell? ⟨w.heap.size, 1, none⟩ = some (.bool p.n) := Hp24.out.cell 1
    have cp2 : w13.cell? ⟨w.heap.size, 2, none⟩ = some (.slice p.a p.xs.length p.ca) := Hp24.out.cell 2
    have cp3 : w13.cell? ⟨w.heap.size, 3, none⟩ = some (.slice p.b p.ys.length p.cb) := Hp24.out.cell 3
    have cp4 : w13.cell? ⟨w.heap.size, 4, none⟩ = some (.slice p.t p.ts.length p.ct) := Hp24.out.cell 4
    have cc0 : w13.cell? ⟨(w.heap.size + 1), 0, none⟩ = some (.string c.s) := Hc24.out.cell 0
    have cc1 : w13.cell? ⟨(w.heap.size + 1), 1, none⟩ = some (.int .i32 c.f) := Hc24.out.cell 1
    have cc2 : w13.cell? ⟨(w.heap.size + 1), 2, none⟩ = some (.int .i32 c.r) := Hc24.out.cell 2
    have cc3 : w13.cell? ⟨(w.heap.size + 1), 3, none⟩ = some (.bool c.n) := Hc24.out.cell 3
    have cc4 : w13.cell? ⟨(w.heap.size + 1), 4, none⟩ = some (.slice c.a c.xs.length c.ca) := Hc24.out.cell 4
    have cc5 : w13.cell? ⟨(w.heap.size + 1), 5, none⟩ = some (.slice c.b c.ys.length c.cb) := Hc24.out.cell 5
    have cc6 : w13.cell? ⟨(w.heap.size + 1), 6, none⟩ = some (.bool c.m) := Hc24.out.cell 6
    have cc7 : w13.cell? ⟨(w.heap.size + 1), 7, none⟩ = some (.slice c.c c.us.length c.cc) := Hc24.out.cell 7
    have cc8 : w13.cell? ⟨(w.heap.size + 1), 8, none⟩ = some (.slice c.d c.vs.length c.cd) := Hc24.out.cell 8
    go_wp2_with fail
    refine Calls.mono (pWith_told p c w13 Kp24.out Kc24.out HG.out) ?_
    rintro e w14 ⟨q, cq, h_e, hq⟩
    clear cp0 cp1 cp2 cp3 cp4 cc0 cc1 cc2 cc3 cc4 cc5 cc6 cc7 cc8
    have he : e = .returned (.tuple #[.agg #[.string q.s, .bool q.n, .slice q.a q.xs.length q.ca, .slice q.b q.ys.length q.cb, .slice q.t q.ts.length q.ct], .int .i64 cq]) := h_e
    subst he
    clear h_e
    rcases hq with ⟨hc0, hm, _⟩ | ⟨rfl, hgm, hno, hm⟩
    · have h0' : (cq == 0) = false := by simp [hc0]
      have h0'' : (cq != 0) = true := by simp [hc0]
      have hqe : q.ts = [] := List.map_eq_nil_iff.1 (congrArg PV.ts hm.v)
      have hql : (q.ts.length : Int) = 0 := by rw [hqe]; rfl
      have HW25 := hid (bt HW24.out hm.bel)
      have Hp25 := hid (Hp24.out.later hm.bel Hp24.out.lt)
      have Hc25 := hid (Hc24.out.later hm.bel Hc24.out.lt)
      have Kp25 := hid (Kp24.out.later hm.bel)
      have Kc25 := hid (Kc24.out.later hm.bel)
      clear HW24 Hp24 Hc24 Kp24 Kc24
      clear hm hqe
      obtain ⟨Yq, hYq⟩ : ∃ Yq, w14.alloc (.cells #[.string q.s, .bool q.n, .slice q.a q.xs.length q.ca, .slice q.b q.ys.length q.cb, .slice q.t q.ts.length q.ct] 27) = Yq := ⟨_, rfl⟩
      have Gq : Hid (Box Yq w14.heap.size 27 #[.string q.s, .bool q.n, .slice q.a q.xs.length q.ca, .slice q.b q.ys.length q.cb, .slice q.t q.ts.length q.ct]) := by
        subst hYq
        exact Box.made w14 _ _
      have Lq : Hid (Below w14.heap.size w14 Yq) := by
        subst hYq
        exact alloc_later _ _
      have HW26 := hid (bt HW25.out Lq.out)
      have Hp26 := hid (Hp25.out.later Lq.out Hp25.out.lt)
      have Hc26 := hid (Hc25.out.later Lq.out Hc25.out.lt)
      have Kp26 := hid (Kp25.out.later Lq.out)
      have Kc26 := hid (Kc25.out.later Lq.out)
      clear HW25 Hp25 Hc25 Kp25 Kc25
      have cq4 : Yq.cell? ⟨w14.heap.size, 4, none⟩ = some (.slice q.t q.ts.length q.ct) := Gq.out.cell 4
      go_wp2_with fail
      go_ret
      exact ⟨rfl, HW26.out⟩
    · have HQV := hid hm.v
      have HGM := hid hgm
      have HMK : Hid (PV.ok (p.v.more c.v)) := by
        refine ⟨HOK.out.1, HOK.out.2.1, HOK.out.2.2.1, fun t ht => ?_⟩
        rcases List.mem_append.1 ht with h | h
        · exact HOK.out.2.2.2 t h
        · rw [List.mem_singleton.1 h]
          exact KCV.out
      have KQ := hid (PL.ok_of (by rw [HQV.out]; exact HMK.out) hm.ow)
      have HW27 := hid (bt HW24.out hm.bel)
      have Hp27 := hid (Hp24.out.later hm.bel Hp24.out.lt)
      have Hc27 := hid (Hc24.out.later hm.bel Hc24.out.lt)
      have Kp27 := hid (Kp24.out.later hm.bel)
      have Kc27 := hid (Kc24.out.later hm.bel)
      clear HW24 Hp24 Hc24 Kp24 Kc24
      clear hm hgm hno
      obtain ⟨Yq, hYq⟩ : ∃ Yq, w14.alloc (.cells #[.string q.s, .bool q.n, .slice q.a q.xs.length q.ca, .slice q.b q.ys.length q.cb, .slice q.t q.ts.length q.ct] 27) = Yq := ⟨_, rfl⟩
      have Gq : Hid (Box Yq w14.heap.size 27 #[.string q.s, .bool q.n, .slice q.a q.xs.length q.ca, .slice q.b q.ys.length q.cb, .slice q.t q.ts.length q.ct]) := by
        subst hYq
        exact Box.made w14 _ _
      have Lq : Hid (Below w14.heap.size w14 Yq) := by
        subst hYq
        exact alloc_later _ _
      have HW28 := hid (bt HW27.out Lq.out)
      have Hp28 := hid (Hp27.out.later Lq.out Hp27.out.lt)
      have Hc28 := hid (Hc27.out.later Lq.out Hc27.out.lt)
      have Kp28 := hid (Kp27.out.later Lq.out)
      have Kc28 := hid (Kc27.out.later Lq.out)
      have Kq28 := hid (KQ.out.later Lq.out)
      clear HW27 Hp27 Hc27 Kp27 Kc27 KQ
      have cq0 : Yq.cell? ⟨w14.heap.size, 0, none⟩ = some (.string q.s) := Gq.out.cell 0
      have cq1 : Yq.cell? ⟨w14.heap.size, 1, none⟩ = some (.bool q.n) := Gq.out.cell 1
      have cq2 : Yq.cell? ⟨w14.heap.size, 2, none⟩ = some (.slice q.a q.xs.length q.ca) := Gq.out.cell 2
      have cq3 : Yq.cell? ⟨w14.heap.size, 3, none⟩ = some (.slice q.b q.ys.length q.cb) := Gq.out.cell 3
      have cq4 : Yq.cell? ⟨w14.heap.size, 4, none⟩ = some (.slice q.t q.ts.length q.ct) := Gq.out.cell 4
      have cc0 : Yq.cell? ⟨(w.heap.size + 1), 0, none⟩ = some (.string c.s) := Hc28.out.cell 0
      go_wp2_with fail
      refine Calls.mono (pWithout_back q p.v c.v c.s Yq Kq28.out HQV.out HGM.out rfl) ?_
      rintro e w15 ⟨u, h_e, hm⟩
      clear cq0 cq1 cq2 cq3 cq4 cc0
      have he : e = .returned (.tuple #[.agg #[.string u.s, .bool u.n, .slice u.a u.xs.length u.ca, .slice u.b u.ys.length u.cb, .slice u.t u.ts.length u.ct], .int .i64 0]) := h_e
      subst he
      clear h_e
      have HUV := hid hm.v
      have KU := hid (made_ok hm HOK.out)
      have HW29 := hid (bt HW28.out hm.bel)
      have Hp29 := hid (Hp28.out.later hm.bel Hp28.out.lt)
      have Hc29 := hid (Hc28.out.later hm.bel Hc28.out.lt)
      have Hq29 := hid (Gq.out.later hm.bel Gq.out.lt)
      have Kp29 := hid (Kp28.out.later hm.bel)
      have Kc29 := hid (Kc28.out.later hm.bel)
      have Kq29 := hid (Kq28.out.later hm.bel)
      clear HW28 Hp28 Hc28 Gq Kp28 Kc28 Kq28
      clear hm
      obtain ⟨Yu, hYu⟩ : ∃ Yu, w15.alloc (.cells #[.string u.s, .bool u.n, .slice u.a u.xs.length u.ca, .slice u.b u.ys.length u.cb, .slice u.t u.ts.length u.ct] 27) = Yu := ⟨_, rfl⟩
      have Gu : Hid (Box Yu w15.heap.size 27 #[.string u.s, .bool u.n, .slice u.a u.xs.length u.ca, .slice u.b u.ys.length u.cb, .slice u.t u.ts.length u.ct]) := by
        subst hYu
        exact Box.made w15 _ _
      have Lu : Hid (Below w15.heap.size w15 Yu) := by
        subst hYu
        exact alloc_later _ _
      have HW30 := hid (bt HW29.out Lu.out)
      have Hp30 := hid (Hp29.out.later Lu.out Hp29.out.lt)
      have Hc30 := hid (Hc29.out.later Lu.out Hc29.out.lt)
      have Hq30 := hid (Hq29.out.later Lu.out Hq29.out.lt)
      have Kp30 := hid (Kp29.out.later Lu.out)
      have Kc30 := hid (Kc29.out.later Lu.out)
      have Kq30 := hid (Kq29.out.later Lu.out)
      have Ku30 := hid (KU.out.later Lu.out)
      clear HW29 Hp29 Hc29 Hq29 Kp29 Kc29 Kq29 KU
      have cu0 : Yu.cell? ⟨w15.heap.size, 0, none⟩ = some (.string u.s) := Gu.out.cell 0
      have cu1 : Yu.cell? ⟨w15.heap.size, 1, none⟩ = some (.bool u.n) := Gu.out.cell 1
      have cu2 : Yu.cell? ⟨w15.heap.size, 2, none⟩ = some (.slice u.a u.xs.length u.ca) := Gu.out.cell 2
      have cu3 : Yu.cell? ⟨w15.heap.size, 3, none⟩ = some (.slice u.b u.ys.length u.cb) := Gu.out.cell 3
      have cu4 : Yu.cell? ⟨w15.heap.size, 4, none⟩ = some (.slice u.t u.ts.length u.ct) := Gu.out.cell 4
      have cp0 : Yu.cell? ⟨w.heap.size, 0, none⟩ = some (.string p.s) := Hp30.out.cell 0
      have cp1 : Yu.cell? ⟨w.heap.size, 1, none⟩ = some (.bool p.n) := Hp30.out.cell 1
      have cp2 : Yu.cell? ⟨w.heap.size, 2, none⟩ = some (.slice p.a p.xs.length p.ca) := Hp30.out.cell 2
      have cp3 : Yu.cell? ⟨w.heap.size, 3, none⟩ = some (.slice p.b p.ys.length p.cb) := Hp30.out.cell 3
      have cp4 : Yu.cell? ⟨w.heap.size, 4, none⟩ = some (.slice p.t p.ts.length p.ct) := Hp30.out.cell 4
      go_wp2_with fail
      refine Calls.mono (psame_eq p u Yu Kp30.out Ku30.out HG.out HUV.out) ?_
      rintro e w16 ⟨rfl, b16⟩
      clear cu0 cu1 cu2 cu3 cu4 cp0 cp1 cp2 cp3 cp4
      have HW31 := hid (bt HW30.out b16)
      have Hp31 := hid (Hp30.out.later b16 Hp30.out.lt)
      have Hc31 := hid (Hc30.out.later b16 Hc30.out.lt)
      have Hq31 := hid (Hq30.out.later b16 Hq30.out.lt)
      have Hu31 := hid (Gu.out.later b16 Gu.out.lt)
      have Kp31 := hid (Kp30.out.later b16)
      have Kc31 := hid (Kc30.out.later b16)
      have Kq31 := hid (Kq30.out.later b16)
      have Ku31 := hid (Ku30.out.later b16)
      clear HW30 Hp30 Hc30 Hq30 Gu Kp30 Kc30 Kq30 Ku30
      go_wp2_with fail
      go_ret
      exact ⟨rfl, HW31.out⟩
end Go.Proofs.YtnfemheabikolaaGreatDoor

/- A port, a constituent that came in: each one letter. -/
namespace Go.Proofs.YtnfemheabikolaaGreatDoor
open Go.RowKit Go.ChangeShapes Go.WideShapes Go.ChangeAt Go.Joins Go.Deep
set_option linter.unusedVariables false

set_option maxRecDepth 4000 in
theorem open_tl {H : Type} {enc : TypeId × Value → H} {w : World} {held : Bool} {r : Reach} {b0 : Nat} {v : Value} {d : DataW H} {p : List MemPlace} (hv : Value.okWide Tryz.prog w r b0 37 v) (h : DataW.Trod enc Tryz.prog w 0 (fun _ => true) held 37 v d p) :
    ∃ q : TL, v = .agg q.cells ∧ q.ok w := by
  obtain ⟨cs, rfl, hsz⟩ := okWide_struct Tryz.underlying37 hv
  obtain ⟨c0, c1, c2, c3, c4, c5, c6, c7, c8, rfl⟩ := arr9 (hsz.trans (by kernel_rfl))
  obtain ⟨fuel, hf⟩ := h
  obtain ⟨q, e, ok⟩ := tl_of_trod hf
  exact ⟨q, by rw [e], ok⟩
end Go.Proofs.YtnfemheabikolaaGreatDoor

/- Layer 14: what the frame of PortMoves takes. -/
namespace Go.Proofs.YtnfemheabikolaaGreatDoor
open Go.RowKit
theorem portMoves_of (p : PL) (c : TL) (s t : Int) (w : World) (hp : p.ok w) (hc : c.ok w) (htab : Tab w) : Calls Tryz.prog 7 #[.agg p.cells, .agg c.cells, .int .i64 s, .int .i64 t] w fun e w' => e = .returned (.bool true) ∧ Below w.heap.size w w' :=
  portMoves_in p c s t w hp hc htab
end Go.Proofs.YtnfemheabikolaaGreatDoor

