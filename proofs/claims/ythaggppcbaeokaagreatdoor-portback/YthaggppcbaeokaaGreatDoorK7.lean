/- My texts on the way to PortBack, one behind the other: contracts of the program and of the document's answers. -/
import Derived.Test.YthaggppcbaeokaaGreatDoorK1
import Derived.Test.YthaggppcbaeokaaGreatDoorK2
import Derived.Test.YthaggppcbaeokaaGreatDoorK3
import Derived.Test.YthaggppcbaeokaaGreatDoorK4
import Derived.Test.YthaggppcbaeokaaGreatDoorK5
import Derived.Test.YthaggppcbaeokaaGreatDoorK6
import Derived.Deep.RegionHeld3
import Derived.Deep.RegionLaw
import Derived.Lib.SliceRun
import Derived.Laws.OwnMore
import Derived.LoopN
import Derived.WalkMore
namespace Go.Proofs.YthaggppcbaeokaaGreatDoor
open Go.RowKit
set_option linter.unusedVariables false
set_option linter.unusedSimpArgs false
def clB (u t : TL) : Bool := (u.s.toList == t.s.toList) || (u.f == t.f && u.r == t.r)
set_option maxHeartbeats 1600000 in
set_option maxRecDepth 100000 in
theorem pClash1_any (t u : TL) (g : Nat) (w : World) (hk : Box w g 48 t.cells) : Calls Tryz.prog 48 #[.agg u.cells, .pointer (some ⟨g, 0, none⟩)] w fun e w' => e = .returned (.bool (clB u t)) ∧ Below w.heap.size w w' := by
  have HB := hid ((Below.refl w.heap.size w).alloc (Nat.le_refl _) (.cells u.cells 48))
  have HX : Hid (Box (w.alloc (.cells u.cells 48)) w.heap.size 48 u.cells) := Box.made w _ _
  have HK : Hid (Box (w.alloc (.cells u.cells 48)) g 48 t.cells) := hk.later (alloc_later _ _) hk.lt
  obtain ⟨X, hX⟩ : ∃ X, w.alloc (.cells u.cells 48) = X := ⟨_, rfl⟩
  rw [hX] at HB HX HK
  unfold TL.cells at hX
  have a0 : X.cell? ⟨w.heap.size, 0, none⟩ = some (.string u.s) := HX.out.cell 0
  have a1 : X.cell? ⟨w.heap.size, 1, none⟩ = some (.int .i32 u.f) := HX.out.cell 1
  have a2 : X.cell? ⟨w.heap.size, 2, none⟩ = some (.int .i32 u.r) := HX.out.cell 2
  have b0 : X.cell? ⟨g, 0, none⟩ = some (.string t.s) := HK.out.cell 0
  have b1 : X.cell? ⟨g, 1, none⟩ = some (.int .i32 t.f) := HK.out.cell 1
  have b2 : X.cell? ⟨g, 2, none⟩ = some (.int .i32 t.r) := HK.out.cell 2
  have hro := troEq u.f u.r t.f t.r X
  have HQ : Hid (clB u t = ((u.s.toList == t.s.toList) || (u.f == t.f && u.r == t.r))) := rfl
  generalize clB u t = Q at *
  unfold TL.cells
  clear hk
  cases hs : (u.s.toList == t.s.toList) with
  | true =>
    rw [hs] at HQ
    go_enter Tryz.func48, Tryz.ntmps48
    go_wp2_with fail
    go_ret
    exact ⟨ret_bool (HQ.out.trans (Bool.true_or _)).symm, HB.out⟩
  | false =>
    rw [hs] at HQ
    have HQ3 : Q = (u.f == t.f && u.r == t.r) := HQ.out.trans (Bool.false_or _)
    go_enter Tryz.func48, Tryz.ntmps48
    go_wp2_with fail
    all_goals go_ret
    all_goals (
      refine ⟨ret_bool ?_, HB.out⟩
      rw [HQ3]
      simp [*])
set_option maxHeartbeats 3200000 in
set_option maxRecDepth 100000 in
theorem pindexC_any (g : Nat) (q : Nat → Bool) (t : Option Addr) (n ct : Nat) (ts : List TL) (w : World) (hn : n ≤ 1000000) (hl : ts.length = n) (ht : RdT w t ts) (hC : ∀ j V, j < n → Below w.heap.size w V → Calls Tryz.prog 48 #[.agg (tT ts j).cells, .pointer (some ⟨g, 0, none⟩)] V fun e w' => e = .returned (.bool (q j)) ∧ Below V.heap.size V w') :
    Calls Tryz.prog 71 #[.slice t n ct, .func (.func 48) #[] #[.pointer (some ⟨g, 0, none⟩)]] w fun e w' => ∃ z : Int, e = .returned (.int .i64 z) ∧ FstI q n z ∧ Below w.heap.size w w' := by
  have HX := hid ht
  have HL := hid hl
  have HC := hid hC
  clear ht hl hC
  go_enter Tryz.func71, Tryz.ntmps71
  go_wp2_with fail
  go_loopw [8] (fun x wr => ∃ k : Nat, k ≤ n ∧ x = .int .i64 (k : Int) ∧ Hid (Below w.heap.size w wr) ∧ Hid (∀ j, j < k → q j = false)) (fun x _ => n - (intOf x).toNat)
  case atStart => exact ⟨0, Nat.zero_le _, rfl, Below.refl _ _, (fun j hj => by omega : ∀ j, j < 0 → _)⟩
  case round =>
    obtain ⟨k, hk, rfl, HW, HT⟩ := hrel
    by_cases hlt : k < n
    · have hkx : k < ts.length := by have := HL.out; omega
      rcases HX.out.2 with h0 | ⟨bb, o, rfl, hg, hx⟩
      · rw [h0] at hkx; exact absurd hkx (by simp)
      have hci := hx k _ (tT_at hkx)
      have HCk := hid (HC.out k wr hlt HW.out)
      have e0 := (HW.out.cell (p := ⟨bb, o + k * 9 + 0, none⟩) hg).trans (hci 0 (by decide))
      have e1 := (HW.out.cell (p := ⟨bb, o + k * 9 + 1, none⟩) hg).trans (hci 1 (by decide))
      have e2 := (HW.out.cell (p := ⟨bb, o + k * 9 + 2, none⟩) hg).trans (hci 2 (by decide))
      have e3 := (HW.out.cell (p := ⟨bb, o + k * 9 + 3, none⟩) hg).trans (hci 3 (by decide))
      have e4 := (HW.out.cell (p := ⟨bb, o + k * 9 + 4, none⟩) hg).trans (hci 4 (by decide))
      have e5 := (HW.out.cell (p := ⟨bb, o + k * 9 + 5, none⟩) hg).trans (hci 5 (by decide))
      have e6 := (HW.out.cell (p := ⟨bb, o + k * 9 + 6, none⟩) hg).trans (hci 6 (by decide))
      have e7 := (HW.out.cell (p := ⟨bb, o + k * 9 + 7, none⟩) hg).trans (hci 7 (by decide))
      have e8 := (HW.out.cell (p := ⟨bb, o + k * 9 + 8, none⟩) hg).trans (hci 8 (by decide))
      clear hci hx
      generalize tT ts k = tt at *
      have c0 : wr.cell? ⟨bb, o + k * 9, none⟩ = some (.string tt.s) := e0
      have c1 : wr.cell? ⟨bb, o + k * 9 + 1, none⟩ = some (.int .i32 tt.f) := e1
      have c2 : wr.cell? ⟨bb, o + k * 9 + 2, none⟩ = some (.int .i32 tt.r) := e2
      have c3 : wr.cell? ⟨bb, o + k * 9 + 3, none⟩ = some (.bool tt.n) := e3
      have c4 : wr.cell? ⟨bb, o + k * 9 + 4, none⟩ = some (.slice tt.a tt.xs.length tt.ca) := e4
      have c5 : wr.cell? ⟨bb, o + k * 9 + 5, none⟩ = some (.slice tt.b tt.ys.length tt.cb) := e5
      have c6 : wr.cell? ⟨bb, o + k * 9 + 6, none⟩ = some (.bool tt.m) := e6
      have c7 : wr.cell? ⟨bb, o + k * 9 + 7, none⟩ = some (.slice tt.c tt.us.length tt.cc) := e7
      have c8 : wr.cell? ⟨bb, o + k * 9 + 8, none⟩ = some (.slice tt.d tt.vs.length tt.cd) := e8
      clear e0 e1 e2 e3 e4 e5 e6 e7 e8
      have hk1 : (k : Int) < (n : Int) := by omega
      go_wp2_with fail
      refine Calls.mono HCk.out ?_
      rintro e w2 ⟨rfl, hb⟩
      have HB := hid (bt HW.out hb)
      clear hb c0 c1 c2 c3 c4 c5 c6 c7 c8 HCk
      cases hq : q k with
      | true =>
        have HR := hid hq
        go_wp2_with fail
        go_ret
        exact ⟨(k : Int), rfl, .inl ⟨k, hlt, rfl, HR.out, HT.out⟩, HB.out⟩
      | false =>
        have HN : Hid (∀ j, j < k + 1 → q j = false) := fun j hj => by
          rcases Nat.lt_or_ge j k with g1 | g1
          · exact HT.out j g1
          · obtain rfl : j = k := by omega
            exact hq
        go_wp2_with fail
        go_roundw
        case rel => exact ⟨k + 1, by omega, by go_num, HB.out, HN⟩
        case measure => simp [intOf]; omega
    · obtain rfl : k = n := by omega
      have hkk : ¬ (k : Int) < (k : Int) := by omega
      go_wp2_with fail
      go_ret
      exact ⟨-1, rfl, .inr ⟨rfl, HT.out⟩, HW.out⟩
set_option maxHeartbeats 3200000 in
set_option maxRecDepth 100000 in
theorem pcontC_any (g : Nat) (q : Nat → Bool) (t : Option Addr) (n ct : Nat) (ts : List TL) (w : World) (hn : n ≤ 1000000) (hl : ts.length = n) (ht : RdT w t ts) (hC : ∀ j V, j < n → Below w.heap.size w V → Calls Tryz.prog 48 #[.agg (tT ts j).cells, .pointer (some ⟨g, 0, none⟩)] V fun e w' => e = .returned (.bool (q j)) ∧ Below V.heap.size V w') :
    Calls Tryz.prog 47 #[.slice t n ct, .func (.func 48) #[] #[.pointer (some ⟨g, 0, none⟩)]] w fun e w' => ∃ bo : Bool, e = .returned (.bool bo) ∧ (bo = true ↔ ∃ j, j < n ∧ q j = true) ∧ Below w.heap.size w w' := by
  have HI := hid (pindexC_any g q t n ct ts w hn hl ht hC)
  clear ht hC
  go_enter Tryz.func47, Tryz.ntmps47
  go_wp2_with fail
  refine Calls.mono HI.out ?_
  rintro e w1 ⟨z, rfl, hz, hb⟩
  have e0 : decide (0 ≤ z) = true ↔ ∃ j, j < n ∧ q j = true := by
    rw [decide_eq_true_iff]
    rcases hz with ⟨i, hi, rfl, hq, _⟩ | ⟨rfl, hb⟩
    · exact ⟨fun _ => ⟨i, hi, hq⟩, fun _ => by omega⟩
    · exact ⟨fun h => by omega, fun ⟨j, hj, h⟩ => by rw [hb j hj] at h; cases h⟩
  have HE := hid e0
  have HB := hid hb
  clear e0 hz hb
  go_wp2_with fail
  go_ret
  exact ⟨decide (0 ≤ z), rfl, HE.out, HB.out⟩
set_option maxHeartbeats 3200000 in
set_option maxRecDepth 100000 in
theorem pClashes_any (p : PL) (t : TL) (w : World) (hn : p.ts.length ≤ 1000000) (hp : p.ok w) :
    Calls Tryz.prog 26 #[.agg p.cells, .agg t.cells] w fun e w' => ∃ bo : Bool, e = .returned (.bool bo) ∧ (bo = true ↔ ∃ j, j < p.ts.length ∧ clB (tT p.ts j) t = true) ∧ Below w.heap.size w w' := by
  obtain ⟨X, hX⟩ : ∃ X, w.alloc (.cells p.cells 27) = X := ⟨_, rfl⟩
  obtain ⟨Y, hY⟩ : ∃ Y, X.alloc (.cells t.cells 48) = Y := ⟨_, rfl⟩
  have HX : Hid (Box X w.heap.size 27 p.cells) := by
    subst hX
    exact Box.made w _ _
  have HK : Hid (Box Y X.heap.size 48 t.cells) := by
    subst hY
    exact Box.made X _ _
  have HY : Hid (Box Y w.heap.size 27 p.cells) := by
    subst hY
    exact HX.out.later (alloc_later _ _) HX.out.lt
  have HB : Hid (Below w.heap.size w Y) := by
    subst hY hX
    exact bt (alloc_later _ _) (alloc_later _ _)
  have HI := hid (pcontC_any X.heap.size (fun j => clB (tT p.ts j) t) p.t p.ts.length p.ct p.ts Y hn rfl (hp.ts.later HB.out) (fun j V hj hV => pClash1_any t (tT p.ts j) X.heap.size V (HK.out.later hV HK.out.lt)))
  have k4 : Y.cell? ⟨w.heap.size, 4, none⟩ = some (.slice p.t p.ts.length p.ct) := HY.out.cell 4
  unfold PL.cells at hX
  unfold TL.cells at hY
  unfold PL.cells TL.cells
  clear hp HX HK HY
  go_enter Tryz.func26, Tryz.ntmps26
  go_wp2_with fail
  refine Calls.mono HI.out ?_
  rintro e w1 ⟨bo, rfl, hz, hb⟩
  have HZ := hid hz
  have HB1 := hid (bt HB.out hb)
  clear hz hb
  go_wp2_with fail
  go_ret
  exact ⟨bo, rfl, HZ.out, HB1.out⟩
theorem rwords {n : Bool} {xs ys : List Int} (h : rchk n xs ys = 0) : xs.length ≤ 2048 ∧ ys.length ≤ 2048 := ⟨(rchk_ok h).1, (rchk_ok h).2.1⟩
theorem TL.few_of {t : TL} (h : t.chk = 0) : t.v.few := by
  obtain ⟨_, _, hg⟩ := tchk_ok h
  obtain ⟨g1, g2⟩ := gchk_ok hg
  have a := rwords g1
  have b := rwords g2
  show t.xs.length ≤ 1099511627776 ∧ t.ys.length ≤ 1099511627776 ∧ t.us.length ≤ 1099511627776 ∧ t.vs.length ≤ 1099511627776
  omega
theorem phd_ok {l : List UInt8} {rc : Int} {k : Nat} (h : phd l rc k = 0) : tname l = true ∧ rc = 0 ∧ k ≤ 24 := by
  unfold phd at h
  by_cases hn : tname l = true
  · rw [if_pos hn] at h
    by_cases hr : rc = 0
    · rw [hr, fstE_zero] at h
      by_cases hk : 24 < k
      · rw [if_pos hk] at h; cases h
      · exact ⟨hn, hr, by omega⟩
    · rw [fstE_err _ hr] at h
      exact absurd h hr
  · rw [if_neg hn] at h; cases h
structure PL.good (p : PL) : Prop where
  nm : tname p.s.data.toList = true
  mean : rchk p.n p.xs p.ys = 0
  len : p.ts.length ≤ 24
  all : TOkTo p.ts p.ts.length
theorem PChk.good {p : PL} {z : Int} (h : PChk p.hd p.ts 0 z) : p.good ∧ z = 0 := by
  rcases h with ⟨h0, h1, _⟩ | ⟨h0, h1⟩
  · exact absurd h1.symm h0
  · obtain ⟨a, b, c⟩ := phd_ok h0
    rcases h1 with ⟨i, _, _, _, ⟨q, e⟩ | ⟨_, _, e⟩⟩ | ⟨hT, _, e⟩
    · exact absurd e.symm q
    · cases e
    · exact ⟨⟨a, b, c, hT⟩, e⟩
theorem PL.good.chk {p : PL} (h : p.good) : PChk p.hd p.ts 0 0 := by
  refine .inr ⟨?_, .inr ⟨h.all, rfl, rfl⟩⟩
  unfold PL.hd phd
  rw [if_pos h.nm, h.mean, fstE_zero, if_neg (by have := h.len; omega)]
theorem PL.good.few {p : PL} (h : p.good) : p.v.few := by
  have a := rwords h.mean
  refine ⟨by show p.xs.length ≤ _; omega, by show p.ys.length ≤ _; omega, by show (p.ts.map TL.v).length ≤ _; rw [List.length_map]; have := h.len; omega, fun t ht => ?_⟩
  obtain ⟨u, hu, rfl⟩ := List.mem_map.1 ht
  obtain ⟨j, hj, he⟩ := List.mem_iff_getElem.1 hu
  refine TL.few_of ?_
  have q := (h.all j hj).1
  have e : tT p.ts j = u := by
    have := tT_at hj
    rw [List.getElem?_eq_getElem hj, he] at this
    exact (Option.some.inj this).symm
  rw [← e]
  exact q
def PL.has (p : PL) (t : TL) : Prop := ∃ j, j < p.ts.length ∧ clB (tT p.ts j) t = true
def WtE (p : PL) (t : TL) (c : Int) : Prop := (∃ z, PChk p.hd p.ts c z ∧ c ≠ 0) ∨ (p.good ∧ ((t.chk ≠ 0 ∧ c = t.chk) ∨ (t.chk = 0 ∧ ((p.has t ∧ c = 5) ∨ (¬ p.has t ∧ ((p.ts.length = 24 ∧ c = 3) ∨ (p.ts.length ≠ 24 ∧ c = 0)))))))
def PV.more (p : PV) (t : TV) : PV := ⟨p.s, p.n, p.xs, p.ys, p.ts ++ [t]⟩
set_option maxHeartbeats 6400000 in
set_option maxRecDepth 100000 in
theorem pWith_any (p : PL) (t : TL) (w : World) (hp : p.ok w) (ht : t.ok w) : Calls Tryz.prog 10 #[.agg p.cells, .agg t.cells] w fun e w' => ∃ (q : PL) (c : Int), e = .returned (.tuple #[.agg q.cells, .int .i64 c]) ∧ WtE p t c ∧ Made q (if c = 0 then p.v.more t.v else PV.zero) w w' := by
  obtain ⟨i0, hi0, hz0, hz1, hz2⟩ := info_parts Tryz.infoT
  obtain ⟨X, hX⟩ : ∃ X, w.alloc (.cells p.cells 27) = X := ⟨_, rfl⟩
  obtain ⟨X2, hX2⟩ : ∃ X2, X.alloc (.cells t.cells 48) = X2 := ⟨_, rfl⟩
  obtain ⟨Y, hY⟩ : ∃ Y, X2.alloc (.cells #[.string ⟨#[]⟩, .bool false, .slice none 0 0, .slice none 0 0, .slice none 0 0] 27) = Y := ⟨_, rfl⟩
  have hXs : X.heap.size = w.heap.size + 1 := by subst hX; simp
  have hXs2 : X2.heap.size = w.heap.size + 1 + 1 := by subst hX2; simp [hXs]
  have HX : Hid (Box Y w.heap.size 27 p.cells) := by
    subst hY hX2 hX
    exact (Box.made w _ _).later (bt (alloc_later _ _) (alloc_later _ _)) (Box.made w 27 _).lt
  have HT : Hid (Box Y (w.heap.size + 1) 48 t.cells) := by
    rw [← hXs]
    subst hY hX2
    exact (Box.made X _ _).later (alloc_later _ _) (Box.made X 48 _).lt
  have HR : Hid (Box Y (w.heap.size + 1 + 1) 27 #[.string ⟨#[]⟩, .bool false, .slice none 0 0, .slice none 0 0, .slice none 0 0]) := by
    rw [← hXs2]
    subst hY
    exact Box.made X2 _ _
  have HB : Hid (Below w.heap.size w Y) := by
    subst hY hX2 hX
    exact bt (alloc_later _ _) (bt (alloc_later _ _) (alloc_later _ _))
  have HYs : Hid (w.heap.size + 1 + 1 < Y.heap.size) := HR.out.lt
  have HC1 := hid (plcheck_any p Y (hp.later HB.out))
  have HC2 : Hid (∀ V, Below Y.heap.size Y V → Calls Tryz.prog 21 #[.agg t.cells] V fun e w' => e = .returned (.int .i64 t.chk) ∧ Below V.heap.size V w') := fun V hV => tlcheck_any t V (ht.later (bt HB.out hV))
  have HC3 : Hid (p.good → ∀ V, Below Y.heap.size Y V → Calls Tryz.prog 26 #[.agg p.cells, .agg t.cells] V fun e w' => ∃ bo : Bool, e = .returned (.bool bo) ∧ (bo = true ↔ p.has t) ∧ Below V.heap.size V w') := fun h V hV => pClashes_any p t V (by have := h.len; omega) (hp.later (bt HB.out hV))
  have HC4 : Hid (p.good → ∀ V, Below Y.heap.size Y V → Calls Tryz.prog 27 #[.agg p.cells] V fun e w' => ∃ q : PL, e = .returned (.agg #[.string q.s, .bool q.n, .slice q.a q.xs.length q.ca, .slice q.b q.ys.length q.cb, .slice q.t q.ts.length q.ct]) ∧ Made q p.v V w') := fun h V hV => pCopied_any p V (hp.later (bt HB.out hV)) h.few
  have HC5 : Hid (t.chk = 0 → ∀ V, Below Y.heap.size Y V → Calls Tryz.prog 28 #[.agg #[.string t.s, .int .i32 t.f, .int .i32 t.r, .bool t.n, .slice t.a t.xs.length t.ca, .slice t.b t.ys.length t.cb, .bool t.m, .slice t.c t.us.length t.cc, .slice t.d t.vs.length t.cd]] V fun e w' => ∃ u : TL, e = .returned (.agg #[.string u.s, .int .i32 u.f, .int .i32 u.r, .bool u.n, .slice u.a u.xs.length u.ca, .slice u.b u.ys.length u.cb, .bool u.m, .slice u.c u.us.length u.cc, .slice u.d u.vs.length u.cd]) ∧ u.v = t.v ∧ u.g.Ow w' V.heap.size ∧ u.g.In V.heap.size w'.heap.size ∧ Below V.heap.size V w') := fun h V hV => tlcopy_any t V (ht.later (bt HB.out hV)) (TL.few_of h)
  have HG : Hid (∀ z, PChk p.hd p.ts 0 z → p.good) := fun z h => h.good.1
  have HE1 : Hid (∀ c z, PChk p.hd p.ts c z → c ≠ 0 → WtE p t c) := fun c z h h0 => .inl ⟨z, h, h0⟩
  have HE2 : Hid (p.good → t.chk ≠ 0 → WtE p t t.chk) := fun h h0 => .inr ⟨h, .inl ⟨h0, rfl⟩⟩
  have HE3 : Hid (p.good → t.chk = 0 → p.has t → WtE p t 5) := fun h h0 h1 => .inr ⟨h, .inr ⟨h0, .inl ⟨h1, rfl⟩⟩⟩
  have HE4 : Hid (p.good → t.chk = 0 → ¬ p.has t → p.ts.length = 24 → WtE p t 3) := fun h h0 h1 h2 => .inr ⟨h, .inr ⟨h0, .inr ⟨h1, .inl ⟨h2, rfl⟩⟩⟩⟩
  have HE5 : Hid (p.good → t.chk = 0 → ¬ p.has t → p.ts.length ≠ 24 → WtE p t 0) := fun h h0 h1 h2 => .inr ⟨h, .inr ⟨h0, .inr ⟨h1, .inr ⟨h2, rfl⟩⟩⟩⟩
  have HKP : Hid (∀ V, Box V w.heap.size 27 p.cells → V.cell? ⟨w.heap.size, 0, none⟩ = some (.string p.s) ∧ V.cell? ⟨w.heap.size, 1, none⟩ = some (.bool p.n) ∧ V.cell? ⟨w.heap.size, 2, none⟩ = some (.slice p.a p.xs.length p.ca) ∧ V.cell? ⟨w.heap.size, 3, none⟩ = some (.slice p.b p.ys.length p.cb) ∧ V.cell? ⟨w.heap.size, 4, none⟩ = some (.slice p.t p.ts.length p.ct)) := fun V h => ⟨h.cell 0, h.cell 1, h.cell 2, h.cell 3, h.cell 4⟩
  have HKT : Hid (∀ V, Box V (w.heap.size + 1) 48 t.cells → V.cell? ⟨w.heap.size + 1, 0, none⟩ = some (.string t.s) ∧ V.cell? ⟨w.heap.size + 1, 1, none⟩ = some (.int .i32 t.f) ∧ V.cell? ⟨w.heap.size + 1, 2, none⟩ = some (.int .i32 t.r) ∧ V.cell? ⟨w.heap.size + 1, 3, none⟩ = some (.bool t.n) ∧ V.cell? ⟨w.heap.size + 1, 4, none⟩ = some (.slice t.a t.xs.length t.ca) ∧ V.cell? ⟨w.heap.size + 1, 5, none⟩ = some (.slice t.b t.ys.length t.cb) ∧ V.cell? ⟨w.heap.size + 1, 6, none⟩ = some (.bool t.m) ∧ V.cell? ⟨w.heap.size + 1, 7, none⟩ = some (.slice t.c t.us.length t.cc) ∧ V.cell? ⟨w.heap.size + 1, 8, none⟩ = some (.slice t.d t.vs.length t.cd)) := fun V h => ⟨h.cell 0, h.cell 1, h.cell 2, h.cell 3, h.cell 4, h.cell 5, h.cell 6, h.cell 7, h.cell 8⟩
  clear hp ht
  obtain ⟨k0, k1, k2, k3, k4⟩ := HKP.out _ HX.out
  go_enter Tryz.func10, Tryz.ntmps10
  go_wp2_with fail
  refine Calls.mono HC1.out ?_
  rintro e w1 ⟨c, z, rfl, hc, b1⟩
  have HX1 := hid (HX.out.later b1 HX.out.lt)
  have HT1 := hid (HT.out.later b1 HT.out.lt)
  have HR1 := hid (HR.out.later b1 HR.out.lt)
  obtain ⟨W2, hW2⟩ : ∃ W2, w1.alloc (.cells #[.int .i64 0, .int .i64 0] 34) = W2 := ⟨_, rfl⟩
  have HF : Hid (Box W2 w1.heap.size 34 #[.int .i64 0, .int .i64 0]) := by
    subst hW2
    exact Box.made w1 _ _
  have HB2 : Hid (Below w1.heap.size w1 W2) := by
    subst hW2
    exact alloc_later _ _
  have hs1 : Y.heap.size ≤ w1.heap.size := b1.size
  obtain ⟨A0, A1, q0, q1, ⟨r0, r1⟩, ⟨v0, v1⟩, HA⟩ := rchain2 HF.out (by decide) (.int .i64 c) (.int .i64 z)
  have hy := HYs.out
  have HYA : Hid (Below Y.heap.size Y A1) := HA.out.2.2.2.1 _ _ hs1 (bt b1 HB2.out)
  have HXA := hid (HA.out.2.1 _ _ _ (show w.heap.size ≠ w1.heap.size by omega) (HX1.out.later HB2.out HX1.out.lt))
  have HTA := hid (HA.out.2.1 _ _ _ (show w.heap.size + 1 ≠ w1.heap.size by omega) (HT1.out.later HB2.out HT1.out.lt))
  have HRA := hid (HA.out.2.1 _ _ _ (show w.heap.size + 1 + 1 ≠ w1.heap.size by omega) (HR1.out.later HB2.out HR1.out.lt))
  have HBA := hid (bt HB.out HYA.out)
  have y0 : A1.cell? ⟨w1.heap.size, 0, none⟩ = some (.int .i64 c) := HA.out.1.cell 0
  have HCK := hid hc
  clear b1 HC1 k0 k1 k2 k3 k4 HX1 HT1 HR1 HF HB2 HX HT HR hc
  by_cases hc0 : c = 0
  · subst hc0
    have hG := HG.out _ HCK.out
    obtain ⟨m0, m1, m2, m3, m4, m5, m6, m7, m8⟩ := HKT.out _ HTA.out
    go_wp2_with fail
    refine Calls.mono (HC2.out A1 HYA.out) ?_
    rintro e w2 ⟨rfl, b2⟩
    have HX2 := hid (HXA.out.later b2 HXA.out.lt)
    have HT2 := hid (HTA.out.later b2 HTA.out.lt)
    have HR2 := hid (HRA.out.later b2 HRA.out.lt)
    have HY2 := hid (bt HYA.out b2)
    have HB2 := hid (bt HBA.out b2)
    clear b2 m0 m1 m2 m3 m4 m5 m6 m7 m8 HXA HTA HRA HYA HBA HC2 q0 q1 r0 r1 v0 v1 y0 HA HCK HE1 hW2 hs1
    by_cases hk : t.chk = 0
    · rw [hk]
      obtain ⟨k0, k1, k2, k3, k4⟩ := HKP.out _ HX2.out
      obtain ⟨m0, m1, m2, m3, m4, m5, m6, m7, m8⟩ := HKT.out _ HT2.out
      go_wp2_with fail
      refine Calls.mono (HC3.out hG w2 HY2.out) ?_
      rintro e w3 ⟨bo, rfl, hbo, b3⟩
      have HX3 := hid (HX2.out.later b3 HX2.out.lt)
      have HT3 := hid (HT2.out.later b3 HT2.out.lt)
      have HR3 := hid (HR2.out.later b3 HR2.out.lt)
      have HY3 := hid (bt HY2.out b3)
      have HB3 := hid (bt HB2.out b3)
      have HBO := hid hbo
      clear hbo b3 k0 k1 k2 k3 k4 m0 m1 m2 m3 m4 m5 m6 m7 m8 HX2 HT2 HR2 HY2 HB2 HC3 HE2
      cases bo with
      | true =>
        have HE := hid (HE3.out hG hk (HBO.out.1 rfl))
        obtain ⟨⟨s0, s1, s2, s3, s4⟩, ⟨x0, x1, x2, x3, x4⟩, ⟨u0, u1, u2, u3, u4⟩⟩ := pzero5 HR3.out
        clear HX3 HT3 HC4 HC5 HKP HKT
        go_wp2_with fail
        exact bodyPost_ret (pres_run (by rfl) HR3.out _ rfl) rfl ⟨PL.zero, 5, rfl, HE.out, by rw [if_neg (by decide)]; exact Made.none HB3.out⟩
      | false =>
        have hnh : ¬ p.has t := fun h => by have := HBO.out.2 h; cases this
        obtain ⟨k0, k1, k2, k3, k4⟩ := HKP.out _ HX3.out
        by_cases hN : p.ts.length = 24
        · have hN' : (p.ts.length : Int) = 24 := by omega
          have HE := hid (HE4.out hG hk hnh hN)
          obtain ⟨⟨s0, s1, s2, s3, s4⟩, ⟨x0, x1, x2, x3, x4⟩, ⟨u0, u1, u2, u3, u4⟩⟩ := pzero5 HR3.out
          clear HX3 HT3 HC4 HC5 HKP HKT
          go_wp2_with fail
          exact bodyPost_ret (pres_run (by rfl) HR3.out _ rfl) rfl ⟨PL.zero, 3, rfl, HE.out, by rw [if_neg (by decide)]; exact Made.none HB3.out⟩
        · have hN' : ¬ (p.ts.length : Int) = 24 := by omega
          have HE := hid (HE5.out hG hk hnh hN)
          have HLT := hid hG.len
          go_wp2_with fail
          refine Calls.mono (HC4.out hG w3 HY3.out) ?_
          rintro e w4 ⟨q, rfl, hm⟩
          have HM := hid hm
          obtain ⟨W5, hW5⟩ : ∃ W5, w4.alloc (.cells #[.string ⟨#[]⟩, .bool false, .slice none 0 0, .slice none 0 0, .slice none 0 0] 27) = W5 := ⟨_, rfl⟩
          have HQ : Hid (Box W5 w4.heap.size 27 #[.string ⟨#[]⟩, .bool false, .slice none 0 0, .slice none 0 0, .slice none 0 0]) := by
            subst hW5
            exact Box.made w4 _ _
          have HB5 : Hid (Below w4.heap.size w4 W5) := by
            subst hW5
            exact alloc_later _ _
          have HT5 := hid (HT3.out.later (bt hm.bel HB5.out) HT3.out.lt)
          have HR5 := hid (HR3.out.later (bt hm.bel HB5.out) HR3.out.lt)
          have hlow : w.heap.size + 1 + 1 < w4.heap.size := by have h1 := HY3.out.size; have h2 := hm.bel.size; omega
          obtain ⟨A0, A1, A2, A3, A4, q0, q1, q2, q3, q4, ⟨r0, r1, r2, r3, r4⟩, ⟨f0, f1, f2, f3, f4⟩, HA⟩ := pchain5 HQ.out (.string q.s) (.bool q.n) (.slice q.a q.xs.length q.ca) (.slice q.b q.ys.length q.cb) (.slice q.t q.ts.length q.ct)
          have HI0 := hid (CpI.of_made hm HB3.out HB5.out HA.out (by omega))
          have HTA : Hid (Box A4 (w.heap.size + 1) 48 t.cells) := HA.out.2.1 _ _ _ (by omega) HT5.out
          have HRA : Hid (Box A4 (w.heap.size + 1 + 1) 27 #[.string ⟨#[]⟩, .bool false, .slice none 0 0, .slice none 0 0, .slice none 0 0]) := HA.out.2.1 _ _ _ (by omega) HR5.out
          have hYA : Below Y.heap.size Y A4 := HA.out.2.2.2.1 _ _ (by have h1 := HY3.out.size; have h2 := hm.bel.size; omega) (bt (bt HY3.out hm.bel) HB5.out)
          have HYA := hid hYA
          have HLQ : Hid (q.ts.length ≤ 24) := by
            have e := congrArg PV.ts hm.v
            have e2 := congrArg List.length e
            rw [show q.v.ts = q.ts.map TL.v from rfl, show p.v.ts = p.ts.map TL.v from rfl, List.length_map, List.length_map] at e2
            rw [e2]
            exact HLT.out
          have hrow : Hid (∀ g, (Value.slice q.t q.ts.length q.ct).ownBlock = some g → w.heap.size + 1 + 1 < g) := fun g hg => by have h1 := (hm.ow.row.lt g hg).1; have h2 := HY3.out.size; show _ < _; omega
          clear hm HC4 k0 k1 k2 k3 k4 HX3 HT3 HR3 HY3 HB3 HQ HB5 HT5 HR5 HA hYA
          go_wp2_with fail
          clear q0 q1 q2 q3 q4 r0 r1 r2 r3 r4 f0 f1 f2 f3 f4
          have HIA := hid (HI0.out.later (Below.refl _ A4).drew)
          have HXA : Hid (Box A4.drew (w.heap.size + 1) 48 t.cells) := HTA.out.drewN 1
          have HRB : Hid (Box A4.drew (w.heap.size + 1 + 1) 27 #[.string ⟨#[]⟩, .bool false, .slice none 0 0, .slice none 0 0, .slice none 0 0]) := HRA.out.drewN 1
          have HC5' := hid (HC5.out hk)
          have HYB : Hid (Below Y.heap.size Y A4.drew) := HYA.out.drew
          obtain ⟨m0, m1, m2, m3, m4, m5, m6, m7, m8⟩ := HKT.out _ HTA.out
          generalize w4.heap.size = B at *
          have z0 : A4.cell? ⟨B, 4, none⟩ = some (.slice q.t q.ts.length q.ct) := HI0.out.box.cell 4
          clear HI0 HTA HRA HYA HKT HKP HC5
          go_region_law (first
            | (go_simp; go_at_call 28; (with_reducible refine Calls.mono (HC5'.out _ HYB.out) ?_); rintro e w6 ⟨u, rfl, hu, ou, iu, b1⟩; have HU := hid hu; have HI1 := hid (HIA.out.call b1 ou iu); have HR1 := hid (HRB.out.later b1 HRB.out.lt); have z1 : w6.cell? ⟨B, 4, none⟩ = some (.slice q.t q.ts.length q.ct) := HI1.out.box.cell 4; have HI2 := hid (HI1.out.later (alloc_later w6 (.cells u.cells 48))); have z2 : (w6.alloc (.cells #[.string u.s, .int .i32 u.f, .int .i32 u.r, .bool u.n, .slice u.a u.xs.length u.ca, .slice u.b u.ys.length u.cb, .bool u.m, .slice u.c u.us.length u.cc, .slice u.d u.vs.length u.cd] 48)).cell? ⟨B, 4, none⟩ = some (.slice q.t q.ts.length q.ct) := HI2.out.box.cell 4; have HR2 := hid (HR1.out.later (alloc_later w6 (.cells u.cells 48)) HR1.out.lt); dsimp only)
            | (refine step_append_own_at rfl (.tmp 35) (.tmp 38) 25 rfl w.heap.size 48 i0 (.agg #[.string ⟨#[]⟩, .int .i32 0, .int .i32 0, .bool false, .slice none 0 0, .slice none 0 0, .bool false, .slice none 0 0, .slice none 0 0]) 9 136 Tryz.underlying25 hi0 hz0 hz1 hz2 rfl (by decide) (.slice q.t q.ts.length q.ct) q.ts.length (flatT q.ts) rfl HI2.out.row ⟨w6.heap.size, 0, none⟩ 1 1 u.cells.toList rfl rfl (qcells_new w6 _ _) u.one (by have := HLQ.out; unfold maxLen; omega) (by have := HLQ.out; omega) HI2.out.bel.size ?_; intro v1 y1 o1 g1 at1; obtain ⟨HB1, a', ct', rfl, Z, hZ, HZ⟩ := HI2.out.add o1 g1; have z3 : y1.cell? ⟨B, 4, none⟩ = some (.slice q.t q.ts.length q.ct) := HB1.out.cell 4; have z5 : y1.frozen? ⟨B, 4, none⟩ = false := HB1.out.free 4; have HR4 := hid (HZ.out.2 (w.heap.size + 1 + 1) _ _ (by omega) HR2.out (.inl (by decide)))))
          all_goals
            have hl2 : (q.ts ++ [u]).length = q.ts.length + 1 := by simp
            have hk0 : Z.cell? ⟨B, 0, none⟩ = some (.string q.s) := HZ.out.1.box.cell 0
            have hk1 : Z.cell? ⟨B, 1, none⟩ = some (.bool q.n) := HZ.out.1.box.cell 1
            have hk2 : Z.cell? ⟨B, 2, none⟩ = some (.slice q.a q.xs.length q.ca) := HZ.out.1.box.cell 2
            have hk3 : Z.cell? ⟨B, 3, none⟩ = some (.slice q.b q.ys.length q.cb) := HZ.out.1.box.cell 3
            have hk4 : Z.cell? ⟨B, 4, none⟩ = some (.slice a' (q.ts ++ [u]).length ct') := HZ.out.1.box.cell 4
            rw [hl2] at hk4
            obtain ⟨A0, A1, A2, A3, A4, q0, q1, q2, q3, q4, ⟨r0, r1, r2, r3, r4⟩, ⟨f0, f1, f2, f3, f4⟩, HA⟩ := pchain5 HR4.out (.string q.s) (.bool q.n) (.slice q.a q.xs.length q.ca) (.slice q.b q.ys.length q.cb) (.slice a' (q.ts.length + 1) ct')
            have HD : Hid (Made ⟨q.s, q.n, q.a, q.ca, q.xs, q.b, q.cb, q.ys, a', ct', q.ts ++ [u]⟩ (p.v.more t.v) w A4) := by
              have e : p.v.more t.v = ⟨q.v.s, q.v.n, q.v.xs, q.v.ys, (q.ts ++ [u]).map TL.v⟩ := by
                rw [← HM.out.v, ← HU.out]
                show PV.mk _ _ _ _ _ = _
                rw [List.map_append]
                rfl
              rw [e]
              exact CpI.done (HZ.out.1.re _) rfl (by omega) HA.out.2.2.1 HA.out.2.2.2.1 HA.out.2.2.2.2
            have HE' := hid HA.out.1
            clear z0 z1 z2 z3 z5 m0 m1 m2 m3 m4 m5 m6 m7 m8 HA HZ HR4 HR2 HI2 HI1 HIA hl2
            go_wp2_with fail
            refine bodyPost_ret (pres_run (by rfl) HE'.out _ rfl) rfl ⟨⟨q.s, q.n, q.a, q.ca, q.xs, q.b, q.cb, q.ys, a', ct', q.ts ++ [u]⟩, 0, ?_, HE.out, by rw [if_pos rfl]; exact HD.out⟩
            unfold PL.cells
            rw [show (q.ts ++ [u]).length = q.ts.length + 1 by simp]
            rfl
    · have h0' : (t.chk == 0) = false := by simp [hk]
      have h0'' : (t.chk != 0) = true := by simp [hk]
      have HE := hid (HE2.out hG hk)
      have HKN := hid hk
      obtain ⟨⟨s0, s1, s2, s3, s4⟩, ⟨x0, x1, x2, x3, x4⟩, ⟨u0, u1, u2, u3, u4⟩⟩ := pzero5 HR2.out
      clear HX2 HT2 HC3 HC4 HC5 HKP HKT HE3 HE4 HE5 hk
      go_wp2_with fail
      exact bodyPost_ret (pres_run (by rfl) HR2.out _ rfl) rfl ⟨PL.zero, t.chk, rfl, HE.out, by rw [if_neg HKN.out]; exact Made.none HB2.out⟩
  · have h0' : (c == 0) = false := by simp [hc0]
    have h0'' : (c != 0) = true := by simp [hc0]
    have HE := hid (HE1.out c z HCK.out hc0)
    obtain ⟨⟨s0, s1, s2, s3, s4⟩, ⟨x0, x1, x2, x3, x4⟩, ⟨u0, u1, u2, u3, u4⟩⟩ := pzero5 HRA.out
    clear HC2 HC3 HC4 HC5 HG HE1 HE2 HE3 HE4 HE5 HKP HKT HXA HTA HYA
    go_wp2_with fail
    go_region_held3 (fun V : World => V.cell? ⟨w1.heap.size, 0, none⟩ = some (.int .i64 c)) (first | exact y0 | go_keep) (fail)
    all_goals
      have HCN := hid hc0
      clear hc0
      go_wp2_with fail
      exact bodyPost_ret (pres_run (by rfl) (HRA.out.drewN 1) _ rfl) rfl ⟨PL.zero, c, rfl, HE.out, by rw [if_neg HCN.out]; exact Made.none HBA.out.drew⟩
def ChT (p : PL) (R : Nat → TV → Int → Prop) (q : PL) (c : Int) (w w' : World) : Prop := (∃ (i : Nat) (v : TV), i < p.ts.length ∧ (∀ j, j < i → ∃ u, R j u 0) ∧ R i v c ∧ c ≠ 0 ∧ Made q PV.zero w w') ∨ (c = 0 ∧ ∃ vs : List TV, vs.length = p.ts.length ∧ (∀ j v, vs[j]? = some v → R j v 0) ∧ Made q ⟨p.s, p.n, p.xs, p.ys, vs⟩ w w')
set_option maxHeartbeats 3200000 in
set_option maxRecDepth 100000 in
theorem pchanged_any (f : Nat) (cap : Array Value) (p : PL) (w : World) (h : p.ok w) (hf : p.v.few) (eg : ∀ args W, (callFunc f args).run Tryz.prog W = .ok (.enter f args) W) (R : Nat → TV → Int → Prop) (hC : ∀ j V, j < p.ts.length → Below w.heap.size w V → Calls Tryz.prog f (#[.agg (tT p.ts j).cells] ++ cap) V (TRet (R j) V)) : Calls Tryz.prog 29 #[.agg p.cells, .func (.func f) #[] cap] w fun e w' => ∃ (q : PL) (c : Int), e = .returned (.tuple #[.agg q.cells, .int .i64 c]) ∧ ChT p R q c w w' := by
  obtain ⟨i0, hi0, hz0, hz1, hz2⟩ := info_parts Tryz.infoT
  obtain ⟨s, n, a, ca, xs, b, cb, ys, t, ct, ts⟩ := p
  obtain ⟨hfx, hfy, hfl, hfe⟩ := hf
  have HTS : Hid (RdT w t ts) := h.ts
  have HCW : Hid (∀ j V, j < ts.length → Below w.heap.size w V → Calls Tryz.prog f (#[.agg #[.string (tT ts j).s, .int .i32 (tT ts j).f, .int .i32 (tT ts j).r, .bool (tT ts j).n, .slice (tT ts j).a (tT ts j).xs.length (tT ts j).ca, .slice (tT ts j).b (tT ts j).ys.length (tT ts j).cb, .bool (tT ts j).m, .slice (tT ts j).c (tT ts j).us.length (tT ts j).cc, .slice (tT ts j).d (tT ts j).vs.length (tT ts j).cd]] ++ cap) V (TRet (R j) V)) := hC
  have sx : Sl w (.slice a xs.length ca) xs := h.sx
  have sy : Sl w (.slice b ys.length cb) ys := h.sy
  have hfl' : ts.length ≤ 1000000 := by
    have : (ts.map TL.v).length ≤ 1000000 := hfl
    simpa using this
  clear h hfl hfe hC
  unfold PL.cells
  dsimp only
  obtain ⟨N, hN⟩ : ∃ N, ts.length = N := ⟨_, rfl⟩
  have HLN := hid hN
  rw [hN] at hfl' ⊢
  clear hN
  obtain ⟨X, hX⟩ : ∃ X, w.alloc (.cells #[.string s, .bool n, .slice a xs.length ca, .slice b ys.length cb, .slice t N ct] 27) = X := ⟨_, rfl⟩
  obtain ⟨Y, hY⟩ : ∃ Y, X.alloc (.cells #[.string ⟨#[]⟩, .bool false, .slice none 0 0, .slice none 0 0, .slice none 0 0] 27) = Y := ⟨_, rfl⟩
  have HX : Hid (Box Y w.heap.size 27 #[.string s, .bool n, .slice a xs.length ca, .slice b ys.length cb, .slice t N ct]) := by
    subst hY hX
    exact (Box.made w _ _).later (alloc_later _ _) (Box.made w 27 _).lt
  have HR : Hid (Box Y X.heap.size 27 #[.string ⟨#[]⟩, .bool false, .slice none 0 0, .slice none 0 0, .slice none 0 0]) := by
    subst hY
    exact Box.made X _ _
  have HXs : X.heap.size = w.heap.size + 1 := by subst hX; simp
  have HB : Hid (Below w.heap.size w Y) := by
    subst hY hX
    exact bt (alloc_later _ _) (alloc_later _ _)
  rw [HXs] at HR
  have HYs : Hid (w.heap.size + 1 < Y.heap.size) := HR.out.lt
  have HC : Hid (∀ V, Below Y.heap.size Y V → Calls Tryz.prog 49 #[.agg #[.bool n, .slice a xs.length ca, .slice b ys.length cb]] V fun e w' => ∃ a1 c1 a2 c2, e = .returned (.agg #[.bool n, .slice a1 xs.length c1, .slice a2 ys.length c2]) ∧ w'.ownsRow V.heap.size 52 1 (.slice a1 xs.length c1) xs.length (xs.map (Value.int .u32)) ∧ w'.ownsRow V.heap.size 52 1 (.slice a2 ys.length c2) ys.length (ys.map (Value.int .u32)) ∧ Below V.heap.size V w' ∧ Cut V (.slice a1 xs.length c1) (.slice a2 ys.length c2) w') := fun V hV => pcopyR_any n a ca xs b cb ys V (sx.later (bt HB.out hV)) (sy.later (bt HB.out hV)) hfx hfy
  have HS : Hid (∀ V, Box V w.heap.size 27 #[.string s, .bool n, .slice a xs.length ca, .slice b ys.length cb, .slice t N ct] → V.cell? ⟨w.heap.size, 0, none⟩ = some (.string s) ∧ V.cell? ⟨w.heap.size, 1, none⟩ = some (.bool n) ∧ V.cell? ⟨w.heap.size, 2, none⟩ = some (.slice a xs.length ca) ∧ V.cell? ⟨w.heap.size, 3, none⟩ = some (.slice b ys.length cb)) := fun V h => ⟨h.cell 0, h.cell 1, h.cell 2, h.cell 3⟩
  have HXL : Hid (∀ V, Below Y.heap.size Y V → Box V w.heap.size 27 #[.string s, .bool n, .slice a xs.length ca, .slice b ys.length cb, .slice t N ct]) := fun V hV => HX.out.later hV HX.out.lt
  have hd0 := hid (Below.refl Y.heap.size Y)
  clear sx sy hfx hfy
  go_enter Tryz.func29, Tryz.ntmps29
  go_wp2_with fail
  go_cut [6] from 11 (fun s3 wx => ∃ B a1 c1 a2 c2, s3 = .pointer (some ⟨B, 0, none⟩) ∧ Hid (CpI ⟨s, n, xs, ys, ts.map TL.v⟩ w B a1 c1 a2 c2 [] [] none 0 wx) ∧ Hid (Box wx w.heap.size 27 #[.string s, .bool n, .slice a xs.length ca, .slice b ys.length cb, .slice t N ct] ∧ Box wx (w.heap.size + 1) 27 #[.string ⟨#[]⟩, .bool false, .slice none 0 0, .slice none 0 0, .slice none 0 0]))
  case first =>
    have hs0 := HS.out _ (HXL.out _ hd0.out.drew)
    have hsa := HS.out _ (HXL.out _ ((bel_al hd0.out (.cells #[.string ⟨#[]⟩, .bool false, .slice none 0 0, .slice none 0 0, .slice none 0 0] 27)).drew))
    go_region_held3 (fun V : World => V.cell? ⟨w.heap.size, 0, none⟩ = some (.string s) ∧ V.cell? ⟨w.heap.size, 1, none⟩ = some (.bool n) ∧ V.cell? ⟨w.heap.size, 2, none⟩ = some (.slice a xs.length ca) ∧ V.cell? ⟨w.heap.size, 3, none⟩ = some (.slice b ys.length cb)) (first | exact hs2 | exact hs1a | exact hs1 | exact hsa | exact hs0 | go_keep)
      (first
        | (go_at_call 49; (with_reducible refine Calls.mono (HC.out _ (by first | exact hd0.out.drew | exact (bel_al hd0.out _).drew)) ?_); rintro e w1 ⟨a1, c1, a2, c2, rfl, o1, o2, b1, ct1⟩; (first | (have hbA := hid (bt hd0.out.drew b1)) | (have hbA := hid (bt (bel_al hd0.out _).drew b1))); have HA1 := hid (And.intro o1 (And.intro o2 (And.intro b1 ct1))); have hs1 := HS.out _ (HXL.out _ hbA.out); have hs1a := HS.out _ (HXL.out _ (bel_al hbA.out (.cells #[.string ⟨#[]⟩, .bool false, .slice none 0 0, .slice none 0 0, .slice none 0 0] 27))); (first | (have HQ := hid (Box.later ((Box.made Y 27 #[.string ⟨#[]⟩, .bool false, .slice none 0 0, .slice none 0 0, .slice none 0 0]).drewN 1) b1 (Box.made Y 27 _).lt)) | (have HQ := hid (Box.made w1 27 #[.string ⟨#[]⟩, .bool false, .slice none 0 0, .slice none 0 0, .slice none 0 0]))); obtain ⟨A0, A1, A2, A3, A4, hA0, hA1, hA2, hA3, hA4, ⟨q0, q1, q2, q3, q4⟩, ⟨f0, f1, f2, f3, f4⟩, HA⟩ := pchain5 HQ.out (.string s) (.bool n) (.slice a1 xs.length c1) (.slice a2 ys.length c2) (.slice none 0 0); have hs2 := HS.out A4 (HA.out.2.1 _ _ _ (by have h1 := hbA.out.size; have h2 := HYs.out; omega) (by first | exact HXL.out _ hbA.out | exact HXL.out _ (bel_al hbA.out _)))))
    all_goals
      have HN1 : Hid (w.heap.size + 1 < w1.heap.size) := by have h1 := hbA.out.size; have h2 := HYs.out; show _ < _; omega
      have HE : Hid (∃ B, A4.cell? ⟨B, 0, none⟩ = A4.cell? ⟨B, 0, none⟩) := ⟨0, rfl⟩
      clear HE q0 q1 q2 q3 q4 f0 f1 f2 f3 f4 hs0 hsa hs1 hs1a hs2 HC HS
      go_wp2_with fail
      go_meet
    · exact ⟨_, a1, c1, a2, c2, rfl, CpI.start (p := ⟨s, n, xs, ys, ts.map TL.v⟩) (bt HB.out hd0.out.drew) HA1.out.1 HA1.out.2.1 HA1.out.2.2.1 HA1.out.2.2.2 (alloc_later w1 _) HA.out HN1.out, HA.out.2.1 _ _ _ (by have h1 := HN1.out; omega) (HXL.out _ (bel_al hbA.out _)), HA.out.2.1 _ _ _ (by have h1 := HN1.out; omega) (HR.out.later (bel_al hbA.out _) HR.out.lt)⟩
    · exact ⟨_, a1, c1, a2, c2, rfl, CpI.start (p := ⟨s, n, xs, ys, ts.map TL.v⟩) (bt HB.out (bel_al hd0.out _).drew) HA1.out.1 HA1.out.2.1 HA1.out.2.2.1 HA1.out.2.2.2 (Below.refl _ w1) HA.out HYs.out, HA.out.2.1 _ _ _ (by have h1 := HYs.out; omega) (HXL.out _ hbA.out), HA.out.2.1 _ _ _ (by have h1 := HYs.out; omega) (HR.out.later hbA.out HR.out.lt)⟩
  case rest =>
    obtain ⟨B, a1, c1, a2, c2, rfl, HI, HBX⟩ := hcut
    have k4 : wc.cell? ⟨w.heap.size, 4, none⟩ = some (.slice t N ct) := HBX.out.1.cell 4
    have HRC := hid HBX.out.2
    have HBW := hid HI.out.bel
    clear HBX HC HS HXL HX HR hd0 hX hY HXs HYs HB
    go_wp2_with fail
    clear k4
    go_loopw [20] (fun x wr => ∃ (i : Nat) (L : List TL) (q : Option Addr) (cq : Nat), x = .int .i64 (i : Int) ∧ i ≤ N ∧ L.length = i ∧ Hid (∀ j v, (L.map TL.v)[j]? = some v → R j v 0) ∧ Hid (CpI ⟨s, n, xs, ys, ts.map TL.v⟩ w B a1 c1 a2 c2 L L q cq wr) ∧ Hid (Box wr (w.heap.size + 1) 27 #[.string ⟨#[]⟩, .bool false, .slice none 0 0, .slice none 0 0, .slice none 0 0])) (fun x _ => N - (intOf x).toNat)
    case atStart => exact ⟨0, [], none, 0, rfl, by omega, rfl, (fun j v h => by simp at h : ∀ j v, (([] : List TL).map TL.v)[j]? = some v → R j v 0), HI, HRC⟩
    case round =>
      obtain ⟨i, L, q, cq, rfl, hi, hLi, HV, HI, HRC⟩ := hrel
      by_cases hin : i < N
      · have hil : i < ts.length := by rw [HLN.out]; exact hin
        have HTW := hid (HTS.out.later HI.out.bel)
        rcases HTW.out.2 with e | ⟨bb, o, rfl, hbb, hc⟩
        · rw [e] at hil; exact absurd hil (by simp)
        have HCC : Hid (∀ V, Below w.heap.size w V → Calls Tryz.prog f (#[.agg #[.string (tT ts i).s, .int .i32 (tT ts i).f, .int .i32 (tT ts i).r, .bool (tT ts i).n, .slice (tT ts i).a (tT ts i).xs.length (tT ts i).ca, .slice (tT ts i).b (tT ts i).ys.length (tT ts i).cb, .bool (tT ts i).m, .slice (tT ts i).c (tT ts i).us.length (tT ts i).cc, .slice (tT ts i).d (tT ts i).vs.length (tT ts i).cd]] ++ cap) V (TRet (R i) V)) := fun V hV => HCW.out i V hil hV
        have HLL : Hid (L.length ≤ 1000000) := by show L.length ≤ _; omega
        have HVN : Hid (∀ u : TL, R i u.v 0 → ∀ j v, ((L ++ [u]).map TL.v)[j]? = some v → R j v 0) := fun u hu j v hj => by
          rw [List.map_append, List.map_cons, List.map_nil] at hj
          rcases Nat.lt_or_ge j i with hji | hji
          · rw [List.getElem?_append_left (by rw [List.length_map]; omega)] at hj
            exact HV.out j v hj
          · rw [List.getElem?_append_right (by rw [List.length_map]; omega), List.length_map] at hj
            have hj0 : j - L.length = 0 := by
              rcases Nat.eq_zero_or_pos (j - L.length) with h | h
              · exact h
              · rw [List.getElem?_eq_none (by simp; omega)] at hj; cases hj
            rw [hj0] at hj
            have ej : j = i := by omega
            rw [ej, ← Option.some.inj hj]
            exact hu
        have HVF : Hid (∀ j, j < i → ∃ u, R j u 0) := fun j hj => ⟨_, HV.out j _ (List.getElem?_eq_getElem (by rw [List.length_map]; omega))⟩
        have hci := hc i _ (tT_at hil)
        have e0 := hci 0 (by decide)
        have e1 := hci 1 (by decide)
        have e2 := hci 2 (by decide)
        have e3 := hci 3 (by decide)
        have e4 := hci 4 (by decide)
        have e5 := hci 5 (by decide)
        have e6 := hci 6 (by decide)
        have e7 := hci 7 (by decide)
        have e8 := hci 8 (by decide)
        clear hci hc
        generalize tT ts i = tt at *
        have c0 : wr.cell? ⟨bb, o + i * 9, none⟩ = some (.string tt.s) := e0
        have c1' : wr.cell? ⟨bb, o + i * 9 + 1, none⟩ = some (.int .i32 tt.f) := e1
        have c2' : wr.cell? ⟨bb, o + i * 9 + 2, none⟩ = some (.int .i32 tt.r) := e2
        have c3 : wr.cell? ⟨bb, o + i * 9 + 3, none⟩ = some (.bool tt.n) := e3
        have c4 : wr.cell? ⟨bb, o + i * 9 + 4, none⟩ = some (.slice tt.a tt.xs.length tt.ca) := e4
        have c5 : wr.cell? ⟨bb, o + i * 9 + 5, none⟩ = some (.slice tt.b tt.ys.length tt.cb) := e5
        have c6 : wr.cell? ⟨bb, o + i * 9 + 6, none⟩ = some (.bool tt.m) := e6
        have c7 : wr.cell? ⟨bb, o + i * 9 + 7, none⟩ = some (.slice tt.c tt.us.length tt.cc) := e7
        have c8 : wr.cell? ⟨bb, o + i * 9 + 8, none⟩ = some (.slice tt.d tt.vs.length tt.cd) := e8
        clear e0 e1 e2 e3 e4 e5 e6 e7 e8
        obtain ⟨A0, A1, A2, A3, A4, A5, A6, A7, A8, q0, q1, q2, q3, q4, q5, q6, q7, q8, ⟨r0, r1, r2, r3, r4, r5, r6, r7, r8⟩, ⟨f0, f1, f2, f3, f4, f5, f6, f7, f8⟩, HA⟩ := tlbox wr tt
        have HIA := hid (HI.out.later HA.out.2)
        have HRA := hid (HRC.out.later HA.out.2 HRC.out.lt)
        have HXA := hid HA.out.1
        have m0 : A8.cell? ⟨wr.heap.size, 0, none⟩ = some (.string tt.s) := HXA.out.cell 0
        have m1 : A8.cell? ⟨wr.heap.size, 1, none⟩ = some (.int .i32 tt.f) := HXA.out.cell 1
        have m2 : A8.cell? ⟨wr.heap.size, 2, none⟩ = some (.int .i32 tt.r) := HXA.out.cell 2
        have m3 : A8.cell? ⟨wr.heap.size, 3, none⟩ = some (.bool tt.n) := HXA.out.cell 3
        have m4 : A8.cell? ⟨wr.heap.size, 4, none⟩ = some (.slice tt.a tt.xs.length tt.ca) := HXA.out.cell 4
        have m5 : A8.cell? ⟨wr.heap.size, 5, none⟩ = some (.slice tt.b tt.ys.length tt.cb) := HXA.out.cell 5
        have m6 : A8.cell? ⟨wr.heap.size, 6, none⟩ = some (.bool tt.m) := HXA.out.cell 6
        have m7 : A8.cell? ⟨wr.heap.size, 7, none⟩ = some (.slice tt.c tt.us.length tt.cc) := HXA.out.cell 7
        have m8 : A8.cell? ⟨wr.heap.size, 8, none⟩ = some (.slice tt.d tt.vs.length tt.cd) := HXA.out.cell 8
        have hi0' : (0 : Int) ≤ (i : Int) := by omega
        have hi1 : (i : Int) < (N : Int) := by omega
        have HLE := hid hLi
        clear HI HRC HA hbb hLi
        go_wp2_with fail
        clear q0 q1 q2 q3 q4 q5 q6 q7 q8 r0 r1 r2 r3 r4 r5 r6 r7 r8 f0 f1 f2 f3 f4 f5 f6 f7 f8 c0 c1' c2' c3 c4 c5 c6 c7 c8
        refine Calls.mono (HCC.out _ HIA.out.bel) ?_
        rintro e w1 ⟨u, c, rfl, hu, ou, iu, b1⟩
        obtain ⟨W2, hW2⟩ : ∃ W2, w1.alloc (.cells #[.string u.s, .int .i32 u.f, .int .i32 u.r, .bool u.n, .slice u.a u.xs.length u.ca, .slice u.b u.ys.length u.cb, .bool u.m, .slice u.c u.us.length u.cc, .slice u.d u.vs.length u.cd] 48) = W2 := ⟨_, rfl⟩
        have HOB : Hid (Box W2 w1.heap.size 48 #[.string u.s, .int .i32 u.f, .int .i32 u.r, .bool u.n, .slice u.a u.xs.length u.ca, .slice u.b u.ys.length u.cb, .bool u.m, .slice u.c u.us.length u.cc, .slice u.d u.vs.length u.cd]) := by
          subst hW2
          exact Box.made w1 _ _
        have HB2 : Hid (Below w1.heap.size w1 W2) := by
          subst hW2
          exact alloc_later _ _
        have HU := hid hu
        have HI1 := hid ((HIA.out.call b1 ou iu).later HB2.out)
        have HR1 := hid (HRA.out.later (bt b1 HB2.out) HRA.out.lt)
        have n0 : W2.cell? ⟨w1.heap.size, 0, none⟩ = some (.string u.s) := HOB.out.cell 0
        have n1 : W2.cell? ⟨w1.heap.size, 1, none⟩ = some (.int .i32 u.f) := HOB.out.cell 1
        have n2 : W2.cell? ⟨w1.heap.size, 2, none⟩ = some (.int .i32 u.r) := HOB.out.cell 2
        have n3 : W2.cell? ⟨w1.heap.size, 3, none⟩ = some (.bool u.n) := HOB.out.cell 3
        have n4 : W2.cell? ⟨w1.heap.size, 4, none⟩ = some (.slice u.a u.xs.length u.ca) := HOB.out.cell 4
        have n5 : W2.cell? ⟨w1.heap.size, 5, none⟩ = some (.slice u.b u.ys.length u.cb) := HOB.out.cell 5
        have n6 : W2.cell? ⟨w1.heap.size, 6, none⟩ = some (.bool u.m) := HOB.out.cell 6
        have n7 : W2.cell? ⟨w1.heap.size, 7, none⟩ = some (.slice u.c u.us.length u.cc) := HOB.out.cell 7
        have n8 : W2.cell? ⟨w1.heap.size, 8, none⟩ = some (.slice u.d u.vs.length u.cd) := HOB.out.cell 8
        have hw12 : w1.heap.size < W2.heap.size := HOB.out.lt
        have z1 : W2.cell? ⟨B, 4, none⟩ = some (.slice q L.length cq) := HI1.out.box.cell 4
        clear m0 m1 m2 m3 m4 m5 m6 m7 m8 HIA HRA HXA HB2 HCC HOB b1 ou iu hu
        by_cases hc0 : c = 0
        · subst hc0
          obtain ⟨W3, hW3⟩ : ∃ W3, W2.alloc (.cells #[.string u.s, .int .i32 u.f, .int .i32 u.r, .bool u.n, .slice u.a u.xs.length u.ca, .slice u.b u.ys.length u.cb, .bool u.m, .slice u.c u.us.length u.cc, .slice u.d u.vs.length u.cd] 48) = W3 := ⟨_, rfl⟩
          have HI2 : Hid (CpI ⟨s, n, xs, ys, ts.map TL.v⟩ w B a1 c1 a2 c2 L (L ++ [u]) q cq W3) := by
            subst hW3
            exact HI1.out.later (alloc_later _ _)
          have HR2 : Hid (Box W3 (w.heap.size + 1) 27 #[.string ⟨#[]⟩, .bool false, .slice none 0 0, .slice none 0 0, .slice none 0 0]) := by
            subst hW3
            exact HR1.out.later (alloc_later _ _) HR1.out.lt
          have HNW : Hid (∀ j v, u.cells.toList[j]? = some v → W3.cell? ((⟨W2.heap.size, 0, none⟩ : Addr).add j) = some v) := by
            subst hW3
            exact qcells_new W2 _ _
          have z2 : W3.cell? ⟨B, 4, none⟩ = some (.slice q L.length cq) := HI2.out.box.cell 4
          go_wp2_with (first
            | (at_builtin; refine wpList_append_own_at _ rfl _ _ 25 rfl w.heap.size 48 i0 (.agg #[.string ⟨#[]⟩, .int .i32 0, .int .i32 0, .bool false, .slice none 0 0, .slice none 0 0, .bool false, .slice none 0 0, .slice none 0 0]) 9 136 Tryz.underlying25 hi0 hz0 hz1 hz2 rfl (by decide) (.slice q L.length cq) L.length (flatT L) rfl HI2.out.row ⟨W2.heap.size, 0, none⟩ 1 1 u.cells.toList rfl rfl HNW.out u.one ?hm ?hb HI2.out.bel.size ?_; rotate_right; intro v1 y1 o1 g1 _ at1; obtain ⟨HB1, a', ct', rfl, Z, hZ, HZ⟩ := HI2.out.add o1 g1; have z3 : y1.cell? ⟨B, 4, none⟩ = some (.slice q L.length cq) := HB1.out.cell 4; have z5 : y1.frozen? ⟨B, 4, none⟩ = false := HB1.out.free 4; have HR4 := hid (HZ.out.2 (w.heap.size + 1) _ _ ?hn HR2.out (.inl (by decide)))))
          case hm => have := HLL.out; unfold maxLen; omega
          case hb => have := HLL.out; omega
          case hn => have := HI2.out.low; omega
          have HVN' := hid (HVN.out u HU.out)
          have HLX : Hid ((L ++ [u]).length = i + 1) := by rw [List.length_append, HLE.out]; rfl
          clear z1 z2 z3 z5 n0 n1 n2 n3 n4 n5 n6 n7 n8 HVN HVF HI1 HI2 HR1 HR2
          (try go_wp2_with fail)
          go_roundw
          case rel => exact ⟨i + 1, L ++ [u], a', ct', by go_num, by omega, HLX.out, HVN', HZ.out.1, HR4⟩
          case measure => simp [intOf]; omega
        · have h0' : (c == 0) = false := by simp [hc0]
          have h0'' : (c != 0) = true := by simp [hc0]
          obtain ⟨W3, hW3⟩ : ∃ W3, W2.alloc (.cells #[.string u.s, .int .i32 u.f, .int .i32 u.r, .bool u.n, .slice u.a u.xs.length u.ca, .slice u.b u.ys.length u.cb, .bool u.m, .slice u.c u.us.length u.cc, .slice u.d u.vs.length u.cd] 48) = W3 := ⟨_, rfl⟩
          have HCN := hid hc0
          have HTW2 := hid hil
          have HBW2 := hid HI1.out.bel
          have hlow := HI1.out.low
          obtain ⟨⟨s0, s1, s2, s3, s4⟩, ⟨x0, x1, x2, x3, x4⟩, ⟨u0, u1, u2, u3, u4⟩⟩ := pzero5 HR1.out
          clear hc0 hil HVN HI1 z1 HLL
          go_wp2_with fail
          exact bodyPost_ret (pres_run (by rfl) HR1.out _ rfl) rfl ⟨PL.zero, c, rfl, .inl ⟨i, u.v, HTW2.out, HVF.out, HU.out, HCN.out, Made.none HBW2.out⟩⟩
      · obtain rfl : i = N := by omega
        have hi1 : ¬ (i : Int) < (i : Int) := by omega
        have hk0 : wr.cell? ⟨B, 0, none⟩ = some (.string s) := HI.out.box.cell 0
        have hk1 : wr.cell? ⟨B, 1, none⟩ = some (.bool n) := HI.out.box.cell 1
        have hk2 : wr.cell? ⟨B, 2, none⟩ = some (.slice a1 xs.length c1) := HI.out.box.cell 2
        have hk3 : wr.cell? ⟨B, 3, none⟩ = some (.slice a2 ys.length c2) := HI.out.box.cell 3
        have hk4 : wr.cell? ⟨B, 4, none⟩ = some (.slice q L.length cq) := HI.out.box.cell 4
        obtain ⟨A0, A1, A2, A3, A4, q0, q1, q2, q3, q4, ⟨r0, r1, r2, r3, r4⟩, ⟨f0, f1, f2, f3, f4⟩, HA⟩ := pchain5 HRC.out (.string s) (.bool n) (.slice a1 xs.length c1) (.slice a2 ys.length c2) (.slice q L.length cq)
        have HM : Hid (Made ⟨s, n, a1, c1, xs, a2, c2, ys, q, cq, L⟩ ⟨s, n, xs, ys, L.map TL.v⟩ w A4) := CpI.done (HI.out.re (L.map TL.v)) rfl (Nat.le_succ _) HA.out.2.2.1 HA.out.2.2.2.1 HA.out.2.2.2.2
        have HE := hid HA.out.1
        have HLE : Hid ((L.map TL.v).length = ts.length) := by rw [List.length_map, hLi]; exact HLN.out.symm
        clear HI HRC HA HTS HCW hLi
        go_wp2_with fail
        exact bodyPost_ret (pres_run (by rfl) HE.out _ rfl) rfl ⟨⟨s, n, a1, c1, xs, a2, c2, ys, q, cq, L⟩, 0, rfl, .inr ⟨rfl, L.map TL.v, HLE.out, HV.out, HM.out⟩⟩
theorem Made.put {q : PL} {v : PV} {w V W A : World} {b : Nat} (hm : Made q v V W) (hV : Below w.heap.size w V) (hb : w.heap.size ≤ b) (hA : Box A b 27 #[.string q.s, .bool q.n, .slice q.a q.xs.length q.ca, .slice q.b q.ys.length q.cb, .slice q.t q.ts.length q.ct] ∧ (∀ b' t' vs, b' ≠ b → Box W b' t' vs → Box A b' t' vs) ∧ (∀ base e s v n xs, e ≠ 27 → W.ownsRow base e s v n xs → A.ownsRow base e s v n xs) ∧ (∀ B' x, B' ≤ b → Below B' x W → Below B' x A) ∧ A.heap.size = W.heap.size) : Made q v w A := by
  obtain ⟨_, _, h3, h4, h5⟩ := hA
  obtain ⟨c, d, c0, c1, l0, l1, sq⟩ := hm.sep
  have hs := hV.size
  have ho := hm.ow.base hs
  refine ⟨hm.v, ⟨h3 _ _ _ _ _ _ (by decide) ho.mx, h3 _ _ _ _ _ _ (by decide) ho.my, h3 _ _ _ _ _ _ (by decide) ho.row, fun t ht => ?_⟩, ⟨c, d, by omega, c1, fun g e => by have := l0 g e; omega, l1, sq.wide (Nat.le_refl _) (by omega)⟩, h4 _ _ hb (bt hV hm.bel)⟩
  have q := ho.els t ht
  exact ⟨h3 _ _ _ _ _ _ (by decide) q.1, h3 _ _ _ _ _ _ (by decide) q.2.1, h3 _ _ _ _ _ _ (by decide) q.2.2.1, h3 _ _ _ _ _ _ (by decide) q.2.2.2⟩
theorem PL.good.at_ {p : PL} (h : p.good) {j : Nat} (hj : j < p.ts.length) : (tT p.ts j).chk = 0 := (h.all j hj).1
def MoT (p : PL) (n : Int) (q : PL) (c : Int) (w w' : World) : Prop := (∃ z, PChk p.hd p.ts c z ∧ c ≠ 0 ∧ Made q PV.zero w w') ∨ (p.good ∧ ((¬ (-1024 ≤ n ∧ n ≤ 1024) ∧ c = 2 ∧ Made q PV.zero w w') ∨ ((-1024 ≤ n ∧ n ≤ 1024) ∧ ((∃ i, i < p.ts.length ∧ mlong (tT p.ts i).v.q1 (tT p.ts i).v.q2 (oP (tT p.ts i).f (tT p.ts i).r n).1 (oP (tT p.ts i).f (tT p.ts i).r n).2 ∧ c = 3 ∧ Made q PV.zero w w') ∨ (c = 0 ∧ ∃ vs : List TV, vs.length = p.ts.length ∧ (∀ j v, vs[j]? = some v → MvT n (tT p.ts j).v v 0) ∧ Made q ⟨p.s, p.n, p.xs, p.ys, vs⟩ w w')))))
set_option maxHeartbeats 3200000 in
set_option maxRecDepth 100000 in
theorem pMoved_any (p : PL) (n : Int) (w : World) (hp : p.ok w) : Calls Tryz.prog 13 #[.agg p.cells, .int .i64 n] w fun e w' => ∃ (q : PL) (c : Int), e = .returned (.tuple #[.agg q.cells, .int .i64 c]) ∧ MoT p n q c w w' := by
  obtain ⟨X, hX⟩ : ∃ X, w.alloc (.cells #[.string p.s, .bool p.n, .slice p.a p.xs.length p.ca, .slice p.b p.ys.length p.cb, .slice p.t p.ts.length p.ct] 27) = X := ⟨_, rfl⟩
  obtain ⟨X2, hX2⟩ : ∃ X2, X.alloc (.cells #[.int .i64 n] 3) = X2 := ⟨_, rfl⟩
  obtain ⟨Y, hY⟩ : ∃ Y, X2.alloc (.cells #[.string ⟨#[]⟩, .bool false, .slice none 0 0, .slice none 0 0, .slice none 0 0] 27) = Y := ⟨_, rfl⟩
  have hXs : X.heap.size = w.heap.size + 1 := by subst hX; simp
  have hXs2 : X2.heap.size = w.heap.size + 1 + 1 := by subst hX2; simp [hXs]
  have HX : Hid (Box Y w.heap.size 27 #[.string p.s, .bool p.n, .slice p.a p.xs.length p.ca, .slice p.b p.ys.length p.cb, .slice p.t p.ts.length p.ct]) := by
    subst hY hX2 hX
    exact (Box.made w _ _).later (bt (alloc_later _ _) (alloc_later _ _)) (Box.made w 27 _).lt
  have HI : Hid (Box Y (w.heap.size + 1) 3 #[.int .i64 n]) := by
    rw [← hXs]
    subst hY hX2
    exact (Box.made X _ _).later (alloc_later _ _) (Box.made X 3 _).lt
  have HR : Hid (Box Y (w.heap.size + 1 + 1) 27 #[.string ⟨#[]⟩, .bool false, .slice none 0 0, .slice none 0 0, .slice none 0 0]) := by
    rw [← hXs2]
    subst hY
    exact Box.made X2 _ _
  have HB : Hid (Below w.heap.size w Y) := by
    subst hY hX2 hX
    exact bt (alloc_later _ _) (bt (alloc_later _ _) (alloc_later _ _))
  have HYs : Hid (w.heap.size + 1 + 1 < Y.heap.size) := HR.out.lt
  have HCH : Hid (p.good → -1024 ≤ n → n ≤ 1024 → ∀ V, Below Y.heap.size Y V → Box V (w.heap.size + 1) 3 #[.int .i64 n] → Calls Tryz.prog 29 #[.agg #[.string p.s, .bool p.n, .slice p.a p.xs.length p.ca, .slice p.b p.ys.length p.cb, .slice p.t p.ts.length p.ct], .func (.func 30) #[] #[.pointer (some ⟨w.heap.size + 1, 0, none⟩)]] V fun e w' => ∃ (q : PL) (c : Int), e = .returned (.tuple #[.agg #[.string q.s, .bool q.n, .slice q.a q.xs.length q.ca, .slice q.b q.ys.length q.cb, .slice q.t q.ts.length q.ct], .int .i64 c]) ∧ ChT p (fun j => MvT n (tT p.ts j).v) q c V w') := fun hg n0 n1 V hV hbx => by
    have hpV := hp.later (bt HB.out hV)
    exact pchanged_any 30 #[.pointer (some ⟨w.heap.size + 1, 0, none⟩)] p V hpV hg.few (enters_of Tryz.func30 (by kernel_rfl) rfl) _ (fun j U hj hU => pMovedC_any (tT p.ts j) n (w.heap.size + 1) U ((hpV.ts.later hU).1 _ (tT_mem hj)) (hg.at_ hj) n0 n1 (hbx.later hU hbx.lt))
  have HC1 := hid (plcheck_any p Y (hp.later HB.out))
  have HG : Hid (∀ z, PChk p.hd p.ts 0 z → p.good) := fun z h => h.good.1
  have k0 : Y.cell? ⟨w.heap.size, 0, none⟩ = some (.string p.s) := HX.out.cell 0
  have k1 : Y.cell? ⟨w.heap.size, 1, none⟩ = some (.bool p.n) := HX.out.cell 1
  have k2 : Y.cell? ⟨w.heap.size, 2, none⟩ = some (.slice p.a p.xs.length p.ca) := HX.out.cell 2
  have k3 : Y.cell? ⟨w.heap.size, 3, none⟩ = some (.slice p.b p.ys.length p.cb) := HX.out.cell 3
  have k4 : Y.cell? ⟨w.heap.size, 4, none⟩ = some (.slice p.t p.ts.length p.ct) := HX.out.cell 4
  unfold PL.cells
  clear hp
  go_enter Tryz.func13, Tryz.ntmps13
  go_wp2_with fail
  refine Calls.mono HC1.out ?_
  rintro e w1 ⟨c, z, rfl, hc, b1⟩
  have HX1 := hid (HX.out.later b1 HX.out.lt)
  have HR1 := hid (HR.out.later b1 HR.out.lt)
  have HI1 := hid (HI.out.later b1 HI.out.lt)
  obtain ⟨W2, hW2⟩ : ∃ W2, w1.alloc (.cells #[.int .i64 0, .int .i64 0] 34) = W2 := ⟨_, rfl⟩
  have HF : Hid (Box W2 w1.heap.size 34 #[.int .i64 0, .int .i64 0]) := by
    subst hW2
    exact Box.made w1 _ _
  have HB2 : Hid (Below w1.heap.size w1 W2) := by
    subst hW2
    exact alloc_later _ _
  have hs1 : Y.heap.size ≤ w1.heap.size := b1.size
  obtain ⟨A0, A1, q0, q1, ⟨r0, r1⟩, ⟨v0, v1⟩, HA⟩ := rchain2 HF.out (by decide) (.int .i64 c) (.int .i64 z)
  have hy := HYs.out
  have HYA : Hid (Below Y.heap.size Y A1) := HA.out.2.2.2.1 _ _ hs1 (bt b1 HB2.out)
  have HXA := hid (HA.out.2.1 _ _ _ (show w.heap.size ≠ w1.heap.size by omega) (HX1.out.later HB2.out HX1.out.lt))
  have HRA := hid (HA.out.2.1 _ _ _ (show w.heap.size + 1 + 1 ≠ w1.heap.size by omega) (HR1.out.later HB2.out HR1.out.lt))
  have HIA := hid (HA.out.2.1 _ _ _ (show w.heap.size + 1 ≠ w1.heap.size by omega) (HI1.out.later HB2.out HI1.out.lt))
  have HBA := hid (bt HB.out HYA.out)
  have y0 : A1.cell? ⟨w1.heap.size, 0, none⟩ = some (.int .i64 c) := HA.out.1.cell 0
  have HCK := hid hc
  clear b1 HC1 k0 k1 k2 k3 k4 HX1 HR1 HF HB2 HX HR hc HI HI1
  by_cases hc0 : c = 0
  · subst hc0
    have hG := HG.out _ HCK.out
    have HGG := hid hG
    have kn : A1.cell? ⟨w.heap.size + 1, 0, none⟩ = some (.int .i64 n) := HIA.out.cell 0
    by_cases hn : -1024 ≤ n ∧ n ≤ 1024
    · obtain ⟨n0, n1⟩ := hn
      have HN := hid (And.intro n0 n1)
      have n0' : ¬ n < -1024 := by omega
      have n1' : ¬ n > 1024 := by omega
      have n2' : ¬ 1024 < n := by omega
      have k0 : A1.cell? ⟨w.heap.size, 0, none⟩ = some (.string p.s) := HXA.out.cell 0
      have k1 : A1.cell? ⟨w.heap.size, 1, none⟩ = some (.bool p.n) := HXA.out.cell 1
      have k2 : A1.cell? ⟨w.heap.size, 2, none⟩ = some (.slice p.a p.xs.length p.ca) := HXA.out.cell 2
      have k3 : A1.cell? ⟨w.heap.size, 3, none⟩ = some (.slice p.b p.ys.length p.cb) := HXA.out.cell 3
      have k4 : A1.cell? ⟨w.heap.size, 4, none⟩ = some (.slice p.t p.ts.length p.ct) := HXA.out.cell 4
      have hcall := HCH.out hG n0 n1 A1 HYA.out HIA.out
      clear n0 n1
      go_wp2_with fail
      refine Calls.mono hcall ?_
      rintro e w5 ⟨q, c5, rfl, hch⟩
      have hm : ∃ v, Made q v A1 w5 := by
        rcases hch with ⟨_, _, _, _, _, _, h⟩ | ⟨_, _, _, _, h⟩
        · exact ⟨_, h⟩
        · exact ⟨_, h⟩
      obtain ⟨v5, hm⟩ := hm
      have HR5 := hid (HRA.out.later hm.bel HRA.out.lt)
      obtain ⟨A2, A3, A4, A5, A6, q0, q1, q2, q3, q4, ⟨r0, r1, r2, r3, r4⟩, ⟨f0, f1, f2, f3, f4⟩, HA⟩ := pchain5 HR5.out (.string q.s) (.bool q.n) (.slice q.a q.xs.length q.ca) (.slice q.b q.ys.length q.cb) (.slice q.t q.ts.length q.ct)
      have HD : Hid (MoT p n q c5 w A6) := by
        rcases hch with ⟨i, v, hi, _, hr, hn, h⟩ | ⟨h0, vs, h1, h2, h⟩
        · rcases hr with ⟨hl, hc3⟩ | ⟨_, hc3, _⟩
          · exact .inr ⟨HGG.out, .inr ⟨HN.out, .inl ⟨i, hi, hl, hc3, h.put HBA.out (by omega) HA.out⟩⟩⟩
          · exact absurd hc3 hn
        · exact .inr ⟨HGG.out, .inr ⟨HN.out, .inr ⟨h0, vs, h1, (fun j v hj => h2 j v hj), h.put HBA.out (by omega) HA.out⟩⟩⟩
      have HE := hid HA.out.1
      clear hm hch HCH HG HXA HRA HYA HBA k0 k1 k2 k3 k4 HA HR5 hcall
      go_wp2_with fail
      exact bodyPost_ret (pres_run (by rfl) HE.out _ rfl) rfl ⟨q, c5, rfl, HD.out⟩
    · have HN := hid hn
      obtain ⟨⟨s0, s1, s2, s3, s4⟩, ⟨x0, x1, x2, x3, x4⟩, ⟨u0, u1, u2, u3, u4⟩⟩ := pzero5 HRA.out
      clear HCH HG HXA HYA
      by_cases hn0 : n < -1024
      · clear hn
        go_wp2_with fail
        exact bodyPost_ret (pres_run (by rfl) HRA.out _ rfl) rfl ⟨PL.zero, 2, rfl, .inr ⟨HGG.out, .inl ⟨HN.out, rfl, Made.none HBA.out⟩⟩⟩
      · have hn1 : 1024 < n := by omega
        clear hn
        go_wp2_with fail
        exact bodyPost_ret (pres_run (by rfl) HRA.out _ rfl) rfl ⟨PL.zero, 2, rfl, .inr ⟨HGG.out, .inl ⟨HN.out, rfl, Made.none HBA.out⟩⟩⟩
  · have h0' : (c == 0) = false := by simp [hc0]
    have h0'' : (c != 0) = true := by simp [hc0]
    obtain ⟨⟨s0, s1, s2, s3, s4⟩, ⟨x0, x1, x2, x3, x4⟩, ⟨u0, u1, u2, u3, u4⟩⟩ := pzero5 HRA.out
    clear HCH HG HXA HYA
    go_wp2_with fail
    go_region_held3 (fun V : World => V.cell? ⟨w1.heap.size, 0, none⟩ = some (.int .i64 c)) (first | exact y0 | go_keep) (fail)
    all_goals
      have HCN := hid hc0
      clear hc0
      go_wp2_with fail
      exact bodyPost_ret (pres_run (by rfl) (HRA.out.drewN 1) _ rfl) rfl ⟨PL.zero, c, rfl, .inl ⟨z, HCK.out, HCN.out, Made.none HBA.out.drew⟩⟩
def smB (a b : TL) : Bool := decide (a.s = b.s) && (a.f == b.f && a.r == b.r) && (decide (a.n = b.n ∧ a.xs = b.xs ∧ a.ys = b.ys) && decide (a.m = b.m ∧ a.us = b.us ∧ a.vs = b.vs))
def BoT (e : Ending) (P : Prop) : Prop := ∃ bo : Bool, e = .returned (.bool bo) ∧ (bo = true ↔ P)
def TL.short (t : TL) : Prop := t.xs.length ≤ 281474976710656 ∧ t.ys.length ≤ 281474976710656 ∧ t.us.length ≤ 281474976710656 ∧ t.vs.length ≤ 281474976710656
theorem tlsame_any (a b : TL) (w : World) (ha : a.ok w) (hb : b.ok w) (sa : a.short) (sb : b.short) : Calls Tryz.prog 25 #[.agg a.cells, .agg b.cells] w fun e w' => e = .returned (.bool (smB a b)) ∧ Below w.heap.size w w' :=
  tSame_any a.s a.f a.r a.n a.a a.ca a.xs a.b a.cb a.ys a.m a.c a.cc a.us a.d a.cd a.vs b.s b.f b.r b.n b.a b.ca b.xs b.b b.cb b.ys b.m b.c b.cc b.us b.d b.cd b.vs w ha.sx ha.sy ha.su ha.sv hb.sx hb.sy hb.su hb.sv sa.1 sa.2.1 sa.2.2.1 sa.2.2.2 sb.1 sb.2.1 sb.2.2.1 sb.2.2.2
set_option maxHeartbeats 6400000 in
set_option maxRecDepth 100000 in
theorem pequalF_any (t : Option Addr) (n ct : Nat) (ts : List TL) (u : Option Addr) (m cu : Nat) (us : List TL) (w : World) (hn : n ≤ 1000000) (hl : ts.length = n) (hm : us.length = m) (ht : RdT w t ts) (hu : RdT w u us) (st : ∀ x ∈ ts, x.short) (su : ∀ x ∈ us, x.short) :
    Calls Tryz.prog 24 #[.slice t n ct, .slice u m cu, .func (.func 25) #[] #[]] w fun e w' => BoT e (n = m ∧ ∀ j, j < n → smB (tT ts j) (tT us j) = true) ∧ Below w.heap.size w w' := by
  have HX := hid ht
  have HU := hid hu
  have HL := hid hl
  have HM := hid hm
  have HC : Hid (n = m → ∀ j V, j < n → Below w.heap.size w V → Calls Tryz.prog 25 #[.agg (tT ts j).cells, .agg (tT us j).cells] V fun e w' => e = .returned (.bool (smB (tT ts j) (tT us j))) ∧ Below V.heap.size V w') := fun e j V hj hV => by
    have h1 := tT_mem (ts := ts) (j := j) (by omega)
    have h2 := tT_mem (ts := us) (j := j) (by omega)
    exact tlsame_any _ _ V ((ht.1 _ h1).later hV) ((hu.1 _ h2).later hV) (st _ h1) (su _ h2)
  clear ht hu hl hm st su
  by_cases hnm : n = m
  · have HC2 := hid (HC.out hnm)
    clear HC
    subst hnm
    go_enter Tryz.func24, Tryz.ntmps24
    go_wp2_with fail
    go_loopw [17] (fun x wr => ∃ k : Nat, k ≤ n ∧ x = .int .i64 (k : Int) ∧ Hid (Below w.heap.size w wr) ∧ Hid (∀ j, j < k → smB (tT ts j) (tT us j) = true)) (fun x _ => n - (intOf x).toNat)
    case atStart => exact ⟨0, Nat.zero_le _, rfl, Below.refl _ _, (fun j hj => by omega : ∀ j, j < 0 → _)⟩
    case round =>
      obtain ⟨k, hk, rfl, HW, HT⟩ := hrel
      by_cases hlt : k < n
      · have hkx : k < ts.length := by have := HL.out; omega
        have hku : k < us.length := by have := HM.out; omega
        rcases HX.out.2 with h0 | ⟨bb, o, rfl, hg, hx⟩
        · rw [h0] at hkx; exact absurd hkx (by simp)
        rcases HU.out.2 with h0 | ⟨bu, ou, rfl, hgu, hxu⟩
        · rw [h0] at hku; exact absurd hku (by simp)
        have hci := hx k _ (tT_at hkx)
        have hcu := hxu k _ (tT_at hku)
        have HCk := hid (fun V hV => HC2.out k V hlt hV)
        have HN : Hid (smB (tT ts k) (tT us k) = true → ∀ j, j < k + 1 → smB (tT ts j) (tT us j) = true) := fun hq j hj => by
          rcases Nat.lt_or_ge j k with g1 | g1
          · exact HT.out j g1
          · obtain rfl : j = k := by omega
            exact hq
        have HF : Hid (smB (tT ts k) (tT us k) = false → ¬ (n = n ∧ ∀ j, j < n → smB (tT ts j) (tT us j) = true)) := fun hq h => by
          have := h.2 k hlt
          rw [hq] at this; cases this
        have e0 := (HW.out.cell (p := ⟨bb, o + k * 9 + 0, none⟩) hg).trans (hci 0 (by decide))
        have e1 := (HW.out.cell (p := ⟨bb, o + k * 9 + 1, none⟩) hg).trans (hci 1 (by decide))
        have e2 := (HW.out.cell (p := ⟨bb, o + k * 9 + 2, none⟩) hg).trans (hci 2 (by decide))
        have e3 := (HW.out.cell (p := ⟨bb, o + k * 9 + 3, none⟩) hg).trans (hci 3 (by decide))
        have e4 := (HW.out.cell (p := ⟨bb, o + k * 9 + 4, none⟩) hg).trans (hci 4 (by decide))
        have e5 := (HW.out.cell (p := ⟨bb, o + k * 9 + 5, none⟩) hg).trans (hci 5 (by decide))
        have e6 := (HW.out.cell (p := ⟨bb, o + k * 9 + 6, none⟩) hg).trans (hci 6 (by decide))
        have e7 := (HW.out.cell (p := ⟨bb, o + k * 9 + 7, none⟩) hg).trans (hci 7 (by decide))
        have e8 := (HW.out.cell (p := ⟨bb, o + k * 9 + 8, none⟩) hg).trans (hci 8 (by decide))
        have HCU : Hid (∀ V, Below w.heap.size w V → ∀ j, j < 9 → V.cell? ⟨bu, ou + k * 9 + j, none⟩ = (tT us k).cells[j]?) := fun V hV j hj => (hV.cell (p := ⟨bu, ou + k * 9 + j, none⟩) hgu).trans (hcu j hj)
        clear hci hx hcu hxu
        generalize smB (tT ts k) (tT us k) = sq at *
        generalize tT ts k = tt at *
        generalize tT us k = tu at *
        have c0 : wr.cell? ⟨bb, o + k * 9, none⟩ = some (.string tt.s) := e0
        have c1 : wr.cell? ⟨bb, o + k * 9 + 1, none⟩ = some (.int .i32 tt.f) := e1
        have c2 : wr.cell? ⟨bb, o + k * 9 + 2, none⟩ = some (.int .i32 tt.r) := e2
        have c3 : wr.cell? ⟨bb, o + k * 9 + 3, none⟩ = some (.bool tt.n) := e3
        have c4 : wr.cell? ⟨bb, o + k * 9 + 4, none⟩ = some (.slice tt.a tt.xs.length tt.ca) := e4
        have c5 : wr.cell? ⟨bb, o + k * 9 + 5, none⟩ = some (.slice tt.b tt.ys.length tt.cb) := e5
        have c6 : wr.cell? ⟨bb, o + k * 9 + 6, none⟩ = some (.bool tt.m) := e6
        have c7 : wr.cell? ⟨bb, o + k * 9 + 7, none⟩ = some (.slice tt.c tt.us.length tt.cc) := e7
        have c8 : wr.cell? ⟨bb, o + k * 9 + 8, none⟩ = some (.slice tt.d tt.vs.length tt.cd) := e8
        clear e0 e1 e2 e3 e4 e5 e6 e7 e8
        obtain ⟨A0, A1, A2, A3, A4, A5, A6, A7, A8, qA0, qA1, qA2, qA3, qA4, qA5, qA6, qA7, qA8, ⟨rA0, rA1, rA2, rA3, rA4, rA5, rA6, rA7, rA8⟩, ⟨fA0, fA1, fA2, fA3, fA4, fA5, fA6, fA7, fA8⟩, HA⟩ := tlbox wr tt
        have HBA := hid (bt HW.out HA.out.2)
        have d0 : A8.cell? ⟨bu, ou + k * 9, none⟩ = some (.string tu.s) := HCU.out A8 HBA.out 0 (by decide)
        have d1 : A8.cell? ⟨bu, ou + k * 9 + 1, none⟩ = some (.int .i32 tu.f) := HCU.out A8 HBA.out 1 (by decide)
        have d2 : A8.cell? ⟨bu, ou + k * 9 + 2, none⟩ = some (.int .i32 tu.r) := HCU.out A8 HBA.out 2 (by decide)
        have d3 : A8.cell? ⟨bu, ou + k * 9 + 3, none⟩ = some (.bool tu.n) := HCU.out A8 HBA.out 3 (by decide)
        have d4 : A8.cell? ⟨bu, ou + k * 9 + 4, none⟩ = some (.slice tu.a tu.xs.length tu.ca) := HCU.out A8 HBA.out 4 (by decide)
        have d5 : A8.cell? ⟨bu, ou + k * 9 + 5, none⟩ = some (.slice tu.b tu.ys.length tu.cb) := HCU.out A8 HBA.out 5 (by decide)
        have d6 : A8.cell? ⟨bu, ou + k * 9 + 6, none⟩ = some (.bool tu.m) := HCU.out A8 HBA.out 6 (by decide)
        have d7 : A8.cell? ⟨bu, ou + k * 9 + 7, none⟩ = some (.slice tu.c tu.us.length tu.cc) := HCU.out A8 HBA.out 7 (by decide)
        have d8 : A8.cell? ⟨bu, ou + k * 9 + 8, none⟩ = some (.slice tu.d tu.vs.length tu.cd) := HCU.out A8 HBA.out 8 (by decide)
        obtain ⟨B0, B1, B2, B3, B4, B5, B6, B7, B8, qB0, qB1, qB2, qB3, qB4, qB5, qB6, qB7, qB8, ⟨rB0, rB1, rB2, rB3, rB4, rB5, rB6, rB7, rB8⟩, ⟨fB0, fB1, fB2, fB3, fB4, fB5, fB6, fB7, fB8⟩, HB⟩ := tlbox A8 tu
        have HBB := hid (bt HBA.out HB.out.2)
        have HXA := hid (HA.out.1.later HB.out.2 HA.out.1.lt)
        have HXB := hid HB.out.1
        have m0 : B8.cell? ⟨wr.heap.size, 0, none⟩ = some (.string tt.s) := HXA.out.cell 0
        have m1 : B8.cell? ⟨wr.heap.size, 1, none⟩ = some (.int .i32 tt.f) := HXA.out.cell 1
        have m2 : B8.cell? ⟨wr.heap.size, 2, none⟩ = some (.int .i32 tt.r) := HXA.out.cell 2
        have m3 : B8.cell? ⟨wr.heap.size, 3, none⟩ = some (.bool tt.n) := HXA.out.cell 3
        have m4 : B8.cell? ⟨wr.heap.size, 4, none⟩ = some (.slice tt.a tt.xs.length tt.ca) := HXA.out.cell 4
        have m5 : B8.cell? ⟨wr.heap.size, 5, none⟩ = some (.slice tt.b tt.ys.length tt.cb) := HXA.out.cell 5
        have m6 : B8.cell? ⟨wr.heap.size, 6, none⟩ = some (.bool tt.m) := HXA.out.cell 6
        have m7 : B8.cell? ⟨wr.heap.size, 7, none⟩ = some (.slice tt.c tt.us.length tt.cc) := HXA.out.cell 7
        have m8 : B8.cell? ⟨wr.heap.size, 8, none⟩ = some (.slice tt.d tt.vs.length tt.cd) := HXA.out.cell 8
        have n0 : B8.cell? ⟨A8.heap.size, 0, none⟩ = some (.string tu.s) := HXB.out.cell 0
        have n1 : B8.cell? ⟨A8.heap.size, 1, none⟩ = some (.int .i32 tu.f) := HXB.out.cell 1
        have n2 : B8.cell? ⟨A8.heap.size, 2, none⟩ = some (.int .i32 tu.r) := HXB.out.cell 2
        have n3 : B8.cell? ⟨A8.heap.size, 3, none⟩ = some (.bool tu.n) := HXB.out.cell 3
        have n4 : B8.cell? ⟨A8.heap.size, 4, none⟩ = some (.slice tu.a tu.xs.length tu.ca) := HXB.out.cell 4
        have n5 : B8.cell? ⟨A8.heap.size, 5, none⟩ = some (.slice tu.b tu.ys.length tu.cb) := HXB.out.cell 5
        have n6 : B8.cell? ⟨A8.heap.size, 6, none⟩ = some (.bool tu.m) := HXB.out.cell 6
        have n7 : B8.cell? ⟨A8.heap.size, 7, none⟩ = some (.slice tu.c tu.us.length tu.cc) := HXB.out.cell 7
        have n8 : B8.cell? ⟨A8.heap.size, 8, none⟩ = some (.slice tu.d tu.vs.length tu.cd) := HXB.out.cell 8
        have HD := hid (HCk.out B8 HBB.out)
        have hk0 : (0 : Int) ≤ (k : Int) := by omega
        have hk1 : (k : Int) < (n : Int) := by omega
        clear HCk HA HB HBA HCU hg hgu
        go_wp2_with fail
        clear qA0 rA0 fA0 qA1 rA1 fA1 qA2 rA2 fA2 qA3 rA3 fA3 qA4 rA4 fA4 qA5 rA5 fA5 qA6 rA6 fA6 qA7 rA7 fA7 qA8 rA8 fA8 qB0 rB0 fB0 qB1 rB1 fB1 qB2 rB2 fB2 qB3 rB3 fB3 qB4 rB4 fB4 qB5 rB5 fB5 qB6 rB6 fB6 qB7 rB7 fB7 qB8 rB8 fB8
        clear c0 d0 m0 n0 c1 d1 m1 n1 c2 d2 m2 n2 c3 d3 m3 n3 c4 d4 m4 n4 c5 d5 m5 n5 c6 d6 m6 n6 c7 d7 m7 n7 c8 d8 m8 n8
        refine Calls.mono HD.out ?_
        rintro e w3 ⟨rfl, hb3⟩
        have HB3 := hid (bt HBB.out hb3)
        clear HD hb3 HBB HXA HXB
        cases sq with
        | true =>
          have HN1 := hid (HN.out rfl)
          go_wp2_with fail
          go_roundw
          case rel => exact ⟨k + 1, by omega, by go_num, HB3.out, HN1.out⟩
          case measure => simp [intOf]; omega
        | false =>
          have HF1 := hid (HF.out rfl)
          go_wp2_with fail
          go_ret
          exact ⟨⟨false, rfl, (fun h => by cases h), fun h => absurd h HF1.out⟩, HB3.out⟩
      · obtain rfl : k = n := by omega
        have hkk : ¬ (k : Int) < (k : Int) := by omega
        go_wp2_with fail
        go_ret
        exact ⟨⟨true, rfl, (fun _ => HT.out), fun _ => rfl⟩, HW.out⟩
  · have hne : ((n : Int) == (m : Int)) = false := by simp; omega
    have hne2 : ((n : Int) != (m : Int)) = true := by simp; omega
    go_enter Tryz.func24, Tryz.ntmps24
    go_wp2_with fail
    go_ret
    exact ⟨⟨false, rfl, (fun h => by cases h), fun h => absurd h.1 hnm⟩, Below.refl _ _⟩
def PL.short (p : PL) : Prop := p.xs.length ≤ 281474976710656 ∧ p.ys.length ≤ 281474976710656 ∧ p.ts.length ≤ 1000000 ∧ ∀ t ∈ p.ts, t.short
def PL.same (p q : PL) : Prop := p.s = q.s ∧ (p.n = q.n ∧ p.xs = q.xs ∧ p.ys = q.ys) ∧ p.ts.length = q.ts.length ∧ ∀ j, j < p.ts.length → smB (tT p.ts j) (tT q.ts j) = true
set_option maxHeartbeats 3200000 in
set_option maxRecDepth 100000 in
theorem pSame_any (p q : PL) (w : World) (hp : p.ok w) (hq : q.ok w) (sp : p.short) (sq : q.short) :
    Calls Tryz.prog 9 #[.agg p.cells, .agg q.cells] w fun e w' => BoT e (p.same q) ∧ Below w.heap.size w w' := by
  have HX := hid (boxes2r w 27 p.cells q.cells)
  obtain ⟨X, hX⟩ : ∃ X, (w.alloc (.cells p.cells 27)).alloc (.cells q.cells 27) = X := ⟨_, rfl⟩
  rw [hX] at HX
  have H1 : Hid (∀ V, Below w.heap.size w V → Calls Tryz.prog 23 #[.agg #[.bool p.n, .slice p.a p.xs.length p.ca, .slice p.b p.ys.length p.cb], .agg #[.bool q.n, .slice q.a q.xs.length q.ca, .slice q.b q.ys.length q.cb]] V fun e w' => e = .returned (.bool (decide (p.n = q.n ∧ p.xs = q.xs ∧ p.ys = q.ys))) ∧ Below V.heap.size V w') := fun V hv => rSame_any p.n p.a p.ca p.xs p.b p.cb p.ys q.n q.a q.ca q.xs q.b q.cb q.ys V (hp.sx.later hv) (hp.sy.later hv) (hq.sx.later hv) (hq.sy.later hv) sp.1 sp.2.1 sq.1 sq.2.1
  have H2 : Hid (∀ V, Below w.heap.size w V → Calls Tryz.prog 24 #[.slice p.t p.ts.length p.ct, .slice q.t q.ts.length q.ct, .func (.func 25) #[] #[]] V fun e w' => BoT e (p.ts.length = q.ts.length ∧ ∀ j, j < p.ts.length → smB (tT p.ts j) (tT q.ts j) = true) ∧ Below V.heap.size V w') := fun V hv => pequalF_any p.t p.ts.length p.ct p.ts q.t q.ts.length q.ct q.ts V sp.2.2.1 rfl rfl (hp.ts.later hv) (hq.ts.later hv) sp.2.2.2 sq.2.2.2
  have HP : Hid (p.same q ↔ p.s = q.s ∧ (p.n = q.n ∧ p.xs = q.xs ∧ p.ys = q.ys) ∧ p.ts.length = q.ts.length ∧ ∀ j, j < p.ts.length → smB (tT p.ts j) (tT q.ts j) = true) := Iff.rfl
  generalize (p.ts.length = q.ts.length ∧ ∀ j, j < p.ts.length → smB (tT p.ts j) (tT q.ts j) = true) = T at *
  generalize p.same q = PS at *
  have a0 : X.cell? ⟨w.heap.size, 0, none⟩ = some (.string p.s) := HX.out.1.cell 0
  have a1 : X.cell? ⟨w.heap.size, 1, none⟩ = some (.bool p.n) := HX.out.1.cell 1
  have a2 : X.cell? ⟨w.heap.size, 2, none⟩ = some (.slice p.a p.xs.length p.ca) := HX.out.1.cell 2
  have a3 : X.cell? ⟨w.heap.size, 3, none⟩ = some (.slice p.b p.ys.length p.cb) := HX.out.1.cell 3
  have b0 : X.cell? ⟨w.heap.size + 1, 0, none⟩ = some (.string q.s) := HX.out.2.1.cell 0
  have b1 : X.cell? ⟨w.heap.size + 1, 1, none⟩ = some (.bool q.n) := HX.out.2.1.cell 1
  have b2 : X.cell? ⟨w.heap.size + 1, 2, none⟩ = some (.slice q.a q.xs.length q.ca) := HX.out.2.1.cell 2
  have b3 : X.cell? ⟨w.heap.size + 1, 3, none⟩ = some (.slice q.b q.ys.length q.cb) := HX.out.2.1.cell 3
  unfold PL.cells at hX ⊢
  clear hp hq sp sq
  by_cases hs : p.s = q.s
  · have hb : (p.s.toList == q.s.toList) = true := by rw [hs]; simp
    have HS := hid hs
    clear hs
    go_enter Tryz.func9, Tryz.ntmps9
    go_wp2_with fail
    refine Calls.mono (H1.out _ HX.out.2.2) ?_
    rintro e w1 ⟨rfl, hb1⟩
    have HB1 := hid (bt HX.out.2.2 hb1)
    have a4 : w1.cell? ⟨w.heap.size, 4, none⟩ = some (.slice p.t p.ts.length p.ct) := (HX.out.1.later hb1 HX.out.1.lt).cell 4
    have b4 : w1.cell? ⟨w.heap.size + 1, 4, none⟩ = some (.slice q.t q.ts.length q.ct) := (HX.out.2.1.later hb1 HX.out.2.1.lt).cell 4
    clear hb1 a0 a1 a2 a3 b0 b1 b2 b3
    by_cases hr : p.n = q.n ∧ p.xs = q.xs ∧ p.ys = q.ys
    · have HR := hid hr
      rw [decide_eq_true hr]
      clear hr
      go_wp2_with fail
      refine Calls.mono (H2.out _ HB1.out) ?_
      rintro e w2 ⟨⟨bo, rfl, hbo⟩, hb2⟩
      have HB2 := hid (bt HB1.out hb2)
      have HBO := hid hbo
      clear hb2 hbo a4 b4
      go_wp2_with fail
      go_ret
      exact ⟨⟨bo, rfl, fun h => HP.out.2 ⟨HS.out, HR.out, HBO.out.1 h⟩, fun h => HBO.out.2 (HP.out.1 h).2.2⟩, HB2.out⟩
    · have HR := hid hr
      rw [decide_eq_false hr]
      clear hr
      go_wp2_with fail
      go_ret
      exact ⟨⟨false, rfl, (fun h => by cases h), fun h => absurd (HP.out.1 h).2.1 HR.out⟩, HB1.out⟩
  · have hs' := tstr_other hs
    have HS := hid hs
    go_enter Tryz.func9, Tryz.ntmps9
    go_wp2_with fail
    go_ret
    exact ⟨⟨false, rfl, (fun h => by cases h), fun h => absurd (HP.out.1 h).1 HS.out⟩, HX.out.2.2⟩
theorem nmEq {s t : ByteArray} : (s.toList == t.toList) = true ↔ s = t := by
  constructor
  · intro h
    rw [ByteArray.toList_eq, ByteArray.toList_eq] at h
    exact ByteArray.ext (Array.toList_inj.1 (eq_of_beq h))
  · rintro rfl; simp
theorem nmEq' {s t : ByteArray} : s.data.toList = t.data.toList ↔ s = t := ⟨fun h => ByteArray.ext (Array.toList_inj.1 h), fun h => by rw [h]⟩
def vT (vs : List TV) (j : Nat) : TV := vs[j]?.getD TV.zero
theorem vT_at {vs : List TV} {j : Nat} (h : j < vs.length) : vs[j]? = some (vT vs j) := by
  unfold vT
  rw [List.getElem?_eq_getElem h]; rfl
theorem vT_of {vs : List TV} {j : Nat} {v : TV} (h : vs[j]? = some v) : vT vs j = v := by
  unfold vT
  rw [h]; rfl
theorem tT_v (ts : List TL) (j : Nat) : (tT ts j).v = vT (ts.map TL.v) j := by
  unfold tT vT
  rw [List.getElem?_map]
  cases ts[j]? <;> rfl
def TV.chk (t : TV) : Int := tchk t.s.data.toList t.f t.r (gchk t.n t.xs t.ys t.m t.us t.vs)
structure PV.Good (v : PV) : Prop where
  nm : tname v.s.data.toList = true
  mean : rchk v.n v.xs v.ys = 0
  len : v.ts.length ≤ 24
  chk : ∀ j, j < v.ts.length → (vT v.ts j).chk = 0
  nms : ∀ k j, k < j → j < v.ts.length → (vT v.ts k).s ≠ (vT v.ts j).s
  rot : ∀ k j, k < j → j < v.ts.length → ¬ ((vT v.ts k).f = (vT v.ts j).f ∧ (vT v.ts k).r = (vT v.ts j).r)
theorem PL.good_iff {p : PL} : p.good ↔ p.v.Good := by
  have hl : p.v.ts.length = p.ts.length := List.length_map ..
  have ht : ∀ j, vT p.v.ts j = (tT p.ts j).v := fun j => (tT_v p.ts j).symm
  constructor
  · intro h
    refine ⟨h.nm, h.mean, by rw [hl]; exact h.len, fun j hj => ?_, fun k j hk hj => ?_, fun k j hk hj => ?_⟩
    · rw [ht]; exact (h.all j (by omega)).1
    · rw [ht, ht]
      intro e
      exact (h.all j (by omega)).2.1 ⟨k, hk, nmEq'.2 e⟩
    · rw [ht, ht]
      rintro ⟨e1, e2⟩
      exact (h.all j (by omega)).2.2 ⟨k, hk, Prod.ext e1 e2⟩
  · intro h
    refine ⟨h.nm, h.mean, by rw [← hl]; exact h.len, fun j hj => ⟨?_, ?_, ?_⟩⟩
    · have q := h.chk j (by omega)
      rw [ht] at q
      exact q
    · rintro ⟨k, hk, e⟩
      have q := h.nms k j hk (by omega)
      rw [ht, ht] at q
      exact q (nmEq'.1 e)
    · rintro ⟨k, hk, e⟩
      have q := h.rot k j hk (by omega)
      rw [ht, ht] at q
      exact q ⟨congrArg Prod.fst e, congrArg Prod.snd e⟩
theorem PCk.one0 {p : PL} {c z : Int} (h : PChk p.hd p.ts c z) (hg : p.v.Good) : c = 0 := by
  have g := (PL.good_iff.2 hg).chk
  rcases h with ⟨h0, h1, _⟩ | ⟨h0, h1⟩ <;> rcases g with ⟨g0, g1, _⟩ | ⟨g0, g1⟩
  · exact absurd g1.symm g0
  · exact absurd g0 h0
  · exact absurd g1.symm g0
  · exact (h1.one g1).1
theorem TV.chk_is {t : TV} (h : t.chk = 0) (wx : Wd t.xs) (wy : Wd t.ys) (wu : Wd t.us) (wv : Wd t.vs) : t.Is t.q1 t.q2 := by
  obtain ⟨g1, g2⟩ := gchk_ok (tchk_ok h).2.2
  exact ⟨⟨g1, rfl⟩, ⟨g2, rfl⟩, wx, wy, wu, wv⟩
theorem TV.Is.one {t u : TV} {q1 q2 : Rat} (h : t.Is q1 q2) (g : u.Is q1 q2) (hs : t.s = u.s) (hf : t.f = u.f) (hr : t.r = u.r) : t = u := by
  obtain ⟨a1, a2, a3⟩ := rq_inj h.2.2.1 h.2.2.2.1 g.2.2.1 g.2.2.2.1 h.1.1 g.1.1 (h.1.2.trans g.1.2.symm)
  obtain ⟨b1, b2, b3⟩ := rq_inj h.2.2.2.2.1 h.2.2.2.2.2 g.2.2.2.2.1 g.2.2.2.2.2 h.2.1.1 g.2.1.1 (h.2.1.2.trans g.2.1.2.symm)
  cases t; cases u
  simp only at hs hf hr a1 a2 a3 b1 b2 b3
  subst hs hf hr a1 a2 a3 b1 b2 b3
  rfl
def Mv (n : Int) (t v : TV) : Prop := v.s = t.s ∧ v.f = t.f ∧ v.r = t.r ∧ v.Is (t.q1 * (oP t.f t.r n).1 - t.q2 * (oP t.f t.r n).2) (t.q1 * (oP t.f t.r n).2 + t.q2 * (oP t.f t.r n).1)
theorem MvT.mv {n : Int} {t v : TV} (h : MvT n t v 0) : Mv n t v := by
  rcases h with ⟨_, e⟩ | ⟨_, _, h⟩
  · cases e
  · exact h
theorem pMoved_good (p : PL) (n : Int) (w : World) (hp : p.ok w) (hg : p.v.Good) (n0 : -1024 ≤ n) (n1 : n ≤ 1024) (hs : ∀ j, j < p.v.ts.length → ¬ mlong (vT p.v.ts j).q1 (vT p.v.ts j).q2 (oP (vT p.v.ts j).f (vT p.v.ts j).r n).1 (oP (vT p.v.ts j).f (vT p.v.ts j).r n).2) :
    Calls Tryz.prog 13 #[.agg p.cells, .int .i64 n] w fun e w' => ∃ (q : PL) (vs : List TV), e = .returned (.tuple #[.agg q.cells, .int .i64 0]) ∧ (vs.length = p.v.ts.length ∧ ∀ j, j < p.v.ts.length → Mv n (vT p.v.ts j) (vT vs j)) ∧ Made q ⟨p.s, p.n, p.xs, p.ys, vs⟩ w w' := by
  have hl : p.v.ts.length = p.ts.length := List.length_map ..
  refine Calls.mono (pMoved_any p n w hp) ?_
  rintro e w' ⟨q, c, rfl, h⟩
  rcases h with ⟨z, hz, hc, _⟩ | ⟨_, ⟨hn, _⟩ | ⟨_, ⟨i, hi, hm, _⟩ | ⟨rfl, vs, h1, h2, h3⟩⟩⟩
  · exact absurd (PCk.one0 hz hg) hc
  · exact absurd ⟨n0, n1⟩ hn
  · have q := hs i (by omega)
    rw [show vT p.v.ts i = (tT p.ts i).v from (tT_v p.ts i).symm] at q
    exact absurd hm q
  · refine ⟨q, vs, rfl, ⟨by omega, fun j hj => ?_⟩, h3⟩
    rw [show vT p.v.ts j = (tT p.ts j).v from (tT_v p.ts j).symm]
    exact (h2 j _ (vT_at (by omega))).mv
theorem vT_snoc_lt {vs : List TV} {t : TV} {j : Nat} (h : j < vs.length) : vT (vs ++ [t]) j = vT vs j := by
  unfold vT
  rw [List.getElem?_append_left h]
theorem vT_snoc_eq {vs : List TV} {t : TV} : vT (vs ++ [t]) vs.length = t := by
  unfold vT
  rw [List.getElem?_append_right (Nat.le_refl _), Nat.sub_self]; rfl
theorem pWith_told (p : PL) (t : TL) (w : World) (hp : p.ok w) (ht : t.ok w) (hg : p.v.Good) :
    Calls Tryz.prog 10 #[.agg p.cells, .agg t.cells] w fun e w' => ∃ (q : PL) (c : Int), e = .returned (.tuple #[.agg q.cells, .int .i64 c]) ∧ ((c ≠ 0 ∧ Made q PV.zero w w' ∧ (t.v.chk ≠ 0 ∨ p.v.ts.length = 24 ∨ ∃ j, j < p.v.ts.length ∧ ((vT p.v.ts j).s = t.s ∨ ((vT p.v.ts j).f = t.f ∧ (vT p.v.ts j).r = t.r)))) ∨ (c = 0 ∧ (p.v.more t.v).Good ∧ (∀ j, j < p.v.ts.length → (vT p.v.ts j).s ≠ t.s) ∧ Made q (p.v.more t.v) w w')) := by
  have hl : p.v.ts.length = p.ts.length := List.length_map ..
  have hT : ∀ j, vT p.v.ts j = (tT p.ts j).v := fun j => (tT_v p.ts j).symm
  have hcl : ∀ j, clB (tT p.ts j) t = true ↔ ((vT p.v.ts j).s = t.s ∨ ((vT p.v.ts j).f = t.f ∧ (vT p.v.ts j).r = t.r)) := fun j => by
    unfold clB
    rw [hT, Bool.or_eq_true, nmEq, Bool.and_eq_true, beq_iff_eq, beq_iff_eq]
    exact Iff.rfl
  refine Calls.mono (pWith_any p t w hp ht) ?_
  rintro e w' ⟨q, c, rfl, h, hm⟩
  refine ⟨q, c, rfl, ?_⟩
  rcases h with ⟨z, hz, hc⟩ | ⟨_, ⟨h0, rfl⟩ | ⟨h0, ⟨⟨j, hj, hh⟩, rfl⟩ | ⟨hh, ⟨h24, rfl⟩ | ⟨h24, rfl⟩⟩⟩⟩
  · exact absurd (PCk.one0 hz hg) hc
  · rw [if_neg h0] at hm
    exact .inl ⟨h0, hm, .inl h0⟩
  · exact .inl ⟨by decide, hm, .inr (.inr ⟨j, by omega, (hcl j).1 hh⟩)⟩
  · exact .inl ⟨by decide, hm, .inr (.inl (by omega))⟩
  · have hno : ∀ j, j < p.v.ts.length → ¬ ((vT p.v.ts j).s = t.s ∨ ((vT p.v.ts j).f = t.f ∧ (vT p.v.ts j).r = t.r)) := fun j hj hq => hh ⟨j, by omega, (hcl j).2 hq⟩
    have hl2 : (p.v.ts ++ [t.v]).length = p.v.ts.length + 1 := by simp
    have h24' := hg.len
    refine .inr ⟨rfl, ⟨hg.nm, hg.mean, by show (p.v.ts ++ [t.v]).length ≤ 24; omega, fun j hj => ?_, fun k j hk hj => ?_, fun k j hk hj => ?_⟩, fun j hj hq => hno j hj (.inl hq), hm⟩
    · show (vT (p.v.ts ++ [t.v]) j).chk = 0
      have hj' : j < (p.v.ts ++ [t.v]).length := hj
      rcases Nat.lt_or_ge j p.v.ts.length with g | g
      · rw [vT_snoc_lt g]; exact hg.chk j g
      · obtain rfl : j = p.v.ts.length := by omega
        rw [vT_snoc_eq]; exact h0
    · show (vT (p.v.ts ++ [t.v]) k).s ≠ (vT (p.v.ts ++ [t.v]) j).s
      have hj' : j < (p.v.ts ++ [t.v]).length := hj
      rcases Nat.lt_or_ge j p.v.ts.length with g | g
      · rw [vT_snoc_lt g, vT_snoc_lt (by omega)]; exact hg.nms k j hk g
      · obtain rfl : j = p.v.ts.length := by omega
        rw [vT_snoc_eq, vT_snoc_lt hk]
        exact fun e => hno k hk (.inl e)
    · show ¬ ((vT (p.v.ts ++ [t.v]) k).f = (vT (p.v.ts ++ [t.v]) j).f ∧ (vT (p.v.ts ++ [t.v]) k).r = (vT (p.v.ts ++ [t.v]) j).r)
      have hj' : j < (p.v.ts ++ [t.v]).length := hj
      rcases Nat.lt_or_ge j p.v.ts.length with g | g
      · rw [vT_snoc_lt g, vT_snoc_lt (by omega)]; exact hg.rot k j hk g
      · obtain rfl : j = p.v.ts.length := by omega
        rw [vT_snoc_eq, vT_snoc_lt hk]
        exact fun e => hno k hk (.inr e)
theorem psame_eq (p q : PL) (w : World) (hp : p.ok w) (hq : q.ok w) (hg : p.v.Good) (e : q.v = p.v) : Calls Tryz.prog 9 #[.agg q.cells, .agg p.cells] w fun x w' => x = .returned (.bool true) ∧ Below w.heap.size w w' := by
  have sh : ∀ r : PL, r.v = p.v → r.short := fun r hr => by
    have hf : r.v.few := by rw [hr]; exact (PL.good_iff.2 hg).few
    refine ⟨by have h : r.xs.length ≤ 1099511627776 := hf.1; omega, by have h : r.ys.length ≤ 1099511627776 := hf.2.1; omega, by have h : (r.ts.map TL.v).length ≤ 1000000 := hf.2.2.1; rw [List.length_map] at h; exact h, fun t ht => ?_⟩
    have h := hf.2.2.2 _ (List.mem_map.2 ⟨t, ht, rfl⟩)
    have h1 : t.xs.length ≤ 1099511627776 := h.1
    have h2 : t.ys.length ≤ 1099511627776 := h.2.1
    have h3 : t.us.length ≤ 1099511627776 := h.2.2.1
    have h4 : t.vs.length ≤ 1099511627776 := h.2.2.2
    exact ⟨by omega, by omega, by omega, by omega⟩
  have hsm : q.same p := by
    have e1 : q.s = p.s := congrArg PV.s e
    have e2 : q.n = p.n := congrArg PV.n e
    have e3 : q.xs = p.xs := congrArg PV.xs e
    have e4 : q.ys = p.ys := congrArg PV.ys e
    have e5 : q.ts.map TL.v = p.ts.map TL.v := congrArg PV.ts e
    have e6 := congrArg List.length e5
    rw [List.length_map, List.length_map] at e6
    refine ⟨e1, ⟨e2, e3, e4⟩, e6, fun j hj => ?_⟩
    have e7 : (tT q.ts j).v = (tT p.ts j).v := by rw [tT_v, tT_v, e5]
    unfold smB
    rw [show (tT q.ts j).s = (tT p.ts j).s from congrArg TV.s e7, show (tT q.ts j).f = (tT p.ts j).f from congrArg TV.f e7, show (tT q.ts j).r = (tT p.ts j).r from congrArg TV.r e7, show (tT q.ts j).n = (tT p.ts j).n from congrArg TV.n e7, show (tT q.ts j).xs = (tT p.ts j).xs from congrArg TV.xs e7, show (tT q.ts j).ys = (tT p.ts j).ys from congrArg TV.ys e7, show (tT q.ts j).m = (tT p.ts j).m from congrArg TV.m e7, show (tT q.ts j).us = (tT p.ts j).us from congrArg TV.us e7, show (tT q.ts j).vs = (tT p.ts j).vs from congrArg TV.vs e7]
    simp
  refine Calls.mono (pSame_any q p w hq hp (sh q e) (sh p rfl)) ?_
  rintro x w' ⟨⟨bo, rfl, hb⟩, hbl⟩
  rw [hb.2 hsm]
  exact ⟨rfl, hbl⟩
theorem mshort {q1 q2 P1 P2 : Rat} {K J : Nat} (h1 : Hgt q1 (2 ^ K)) (h2 : Hgt q2 (2 ^ K)) (g1 : Hgt P1 (2 ^ J)) (g2 : Hgt P2 (2 ^ J)) (hk : K + J + (K + J) + 1 < 65536) : ¬ mlong q1 q2 P1 P2 := by
  have mul : ∀ {a b : Rat}, Hgt a (2 ^ K) → Hgt b (2 ^ J) → Hgt (a * b) (2 ^ (K + J)) := fun ha hb => by rw [Nat.pow_add]; exact ha.mul hb
  have two : ∀ m : Nat, 2 * (2 ^ m * 2 ^ m) = 2 ^ (m + m + 1) := fun m => by rw [← Nat.pow_add, Nat.pow_succ, Nat.mul_comm]
  have a1 := mul h1 g1
  have a2 := mul h2 g2
  have a3 := mul h1 g2
  have a4 := mul h2 g1
  have s1 := a1.sub a2
  have s2 := a3.add a4
  rw [two] at s1 s2
  rintro (((h | h) | h) | ((h | h) | h))
  · exact a1.short (by omega) h
  · exact a2.short (by omega) h
  · exact s1.short (by omega) h
  · exact a3.short (by omega) h
  · exact a4.short (by omega) h
  · exact s2.short (by omega) h
theorem oP_hgt {f r : Int} (h : rOK f r) (n : Int) (K : Nat) (hk : n.natAbs ≤ K) : Hgt (oP f r n).1 (2 ^ (21 * K)) ∧ Hgt (oP f r n).2 (2 ^ (21 * K)) := by
  obtain ⟨a, b⟩ := oP_hg h n K hk
  unfold OHg o2 at a b
  exact ⟨⟨a.1, a.2⟩, ⟨b.1, b.2⟩⟩
def TV.line (t : TV) : List UInt8 := ttext t.s.data.toList t.f t.r (gtext t.n t.xs t.ys t.m t.us t.vs) ++ [10]
def PV.head (p : PV) : List UInt8 := [112, 111, 114, 116, 32] ++ p.s.data.toList ++ [32] ++ rtext p.n p.xs p.ys ++ [10]
def PV.upto (p : PV) (i : Nat) : List UInt8 := p.head ++ (p.ts.take i).flatMap TV.line
def PV.text (p : PV) : List UInt8 := p.head ++ p.ts.flatMap TV.line
theorem PV.upto_zero (p : PV) : p.upto 0 = p.head := by unfold PV.upto; rw [List.take_zero, List.flatMap_nil, List.append_nil]
theorem PV.upto_all (p : PV) : p.upto p.ts.length = p.text := by unfold PV.upto PV.text; rw [List.take_length]
theorem PV.upto_next (p : PV) {i : Nat} {t : TV} (h : p.ts[i]? = some t) : p.upto (i + 1) = p.upto i ++ t.line := by
  unfold PV.upto
  rw [List.take_add_one, h]
  show p.head ++ List.flatMap TV.line (List.take i p.ts ++ [t]) = _
  rw [List.flatMap_append, ← List.append_assoc, List.flatMap_cons, List.flatMap_nil, List.append_nil]
theorem PV.upto_le (p : PV) (i : Nat) : (p.upto i).length ≤ p.text.length := by
  unfold PV.upto PV.text
  have h : p.ts = p.ts.take i ++ p.ts.drop i := (List.take_append_drop i p.ts).symm
  rw [List.length_append, List.length_append]
  conv => rhs; rw [h, List.flatMap_append, List.length_append]
  omega
def PpT (p : PL) (S : ByteArray) (c : Int) : Prop := (∃ z, PChk p.hd p.ts c z ∧ c ≠ 0 ∧ S = ⟨#[]⟩) ∨ (p.good ∧ ((65536 < p.v.text.length ∧ c = 3 ∧ S = ⟨#[]⟩) ∨ (p.v.text.length ≤ 65536 ∧ c = 0 ∧ S.data.toList = p.v.text)))
theorem pline_err {t : TL} (hk : t.chk = 0) : (tpErr (tchk t.s.data.toList t.f t.r (gchk t.n t.xs t.ys t.m t.us t.vs)) t.s.data.toList t.f t.r (gpErr t.n t.xs t.ys t.m t.us t.vs) (gtext t.n t.xs t.ys t.m t.us t.vs) = 0 ∧ t.v.line.length ≤ 65537) ∨ (tpErr (tchk t.s.data.toList t.f t.r (gchk t.n t.xs t.ys t.m t.us t.vs)) t.s.data.toList t.f t.r (gpErr t.n t.xs t.ys t.m t.us t.vs) (gtext t.n t.xs t.ys t.m t.us t.vs) = 3 ∧ 65537 < t.v.line.length) := by
  have hk' : tchk t.s.data.toList t.f t.r (gchk t.n t.xs t.ys t.m t.us t.vs) = 0 := hk
  have hl : t.v.line.length = (ttext t.s.data.toList t.f t.r (gtext t.n t.xs t.ys t.m t.us t.vs)).length + 1 := by
    show (ttext _ _ _ _ ++ [10]).length = _
    rw [List.length_append]; rfl
  have hg : gpErr t.n t.xs t.ys t.m t.us t.vs = if 65536 < (gtext t.n t.xs t.ys t.m t.us t.vs).length then 3 else 0 := by unfold gpErr; rw [(tchk_ok hk').2.2, fstE_zero]
  have hs : (gtext t.n t.xs t.ys t.m t.us t.vs).length ≤ (ttext t.s.data.toList t.f t.r (gtext t.n t.xs t.ys t.m t.us t.vs)).length := by
    unfold ttext
    simp only [List.length_append, List.length_cons]
    omega
  rw [hl]
  by_cases h1 : 65536 < (gtext t.n t.xs t.ys t.m t.us t.vs).length
  · rw [if_pos h1] at hg
    right
    refine ⟨by rw [tpErr_num hk' (by rw [hg]; decide), hg], by omega⟩
  · rw [if_neg h1] at hg
    by_cases h2 : 65536 < (ttext t.s.data.toList t.f t.r (gtext t.n t.xs t.ys t.m t.us t.vs)).length
    · exact .inr ⟨tpErr_long hk' hg h2, by omega⟩
    · exact .inl ⟨tpErr_ok hk' hg h2, by omega⟩
theorem pline_ok {t : TL} {S : ByteArray} (h : S.data.toList = ttext t.s.data.toList t.f t.r (gtext t.n t.xs t.ys t.m t.us t.vs)) : (S ++ (⟨#[10]⟩ : ByteArray)).data.toList = t.v.line := by
  rw [ByteArray.data_append, Array.toList_append, h]; rfl
theorem phead_ok {p : PL} {S : ByteArray} (h : S.data.toList = rtext p.n p.xs p.ys) : ((⟨#[112, 111, 114, 116, 32]⟩ : ByteArray) ++ p.s ++ (⟨#[32]⟩ : ByteArray) ++ S ++ (⟨#[10]⟩ : ByteArray)).data.toList = p.v.head := by
  simp only [ByteArray.data_append, Array.toList_append, h]
  show _ = [112, 111, 114, 116, 32] ++ p.s.data.toList ++ [32] ++ rtext p.n p.xs p.ys ++ [10]
  simp
set_option maxHeartbeats 3200000 in
set_option maxRecDepth 100000 in
theorem pPrint_any (p : PL) (w : World) (hp : p.ok w) (htab : Tab w) : Calls Tryz.prog 6 #[.agg p.cells] w fun e w' => ∃ (S : ByteArray) (c : Int), e = .returned (.tuple #[.string S, .int .i64 c]) ∧ PpT p S c ∧ Below w.heap.size w w' := by
  obtain ⟨Y, hY⟩ : ∃ Y, w.alloc (.cells #[.string p.s, .bool p.n, .slice p.a p.xs.length p.ca, .slice p.b p.ys.length p.cb, .slice p.t p.ts.length p.ct] 27) = Y := ⟨_, rfl⟩
  have HX : Hid (Box Y w.heap.size 27 #[.string p.s, .bool p.n, .slice p.a p.xs.length p.ca, .slice p.b p.ys.length p.cb, .slice p.t p.ts.length p.ct]) := by
    subst hY
    exact Box.made w _ _
  have HB : Hid (Below w.heap.size w Y) := by
    subst hY
    exact alloc_later _ _
  have HC1 := hid (plcheck_any p Y (hp.later HB.out))
  have HTS : Hid (∀ V, Below w.heap.size w V → RdT V p.t p.ts) := fun V hV => hp.ts.later hV
  have HRP : Hid (∀ V, Below Y.heap.size Y V → Calls Tryz.prog 18 #[.agg #[.bool p.n, .slice p.a p.xs.length p.ca, .slice p.b p.ys.length p.cb]] V (RPr p.n p.xs p.ys V)) := fun V hV => grPrint_any p.n p.a p.ca p.xs p.b p.cb p.ys V (hp.sx.later (bt HB.out hV)) (hp.sy.later (bt HB.out hV)) (htab.later (bt HB.out hV))
  have HTP : Hid (∀ j V, j < p.ts.length → Below w.heap.size w V → (tT p.ts j).chk = 0 → Calls Tryz.prog 19 #[.agg #[.string (tT p.ts j).s, .int .i32 (tT p.ts j).f, .int .i32 (tT p.ts j).r, .bool (tT p.ts j).n, .slice (tT p.ts j).a (tT p.ts j).xs.length (tT p.ts j).ca, .slice (tT p.ts j).b (tT p.ts j).ys.length (tT p.ts j).cb, .bool (tT p.ts j).m, .slice (tT p.ts j).c (tT p.ts j).us.length (tT p.ts j).cc, .slice (tT p.ts j).d (tT p.ts j).vs.length (tT p.ts j).cd]] V fun x w' => ∃ (S : ByteArray) (c : Int), x = .returned (.tuple #[.string S, .int .i64 c]) ∧ ((c = 0 ∧ (tT p.ts j).v.line.length ≤ 65537 ∧ (S ++ (⟨#[10]⟩ : ByteArray)).data.toList = (tT p.ts j).v.line) ∨ (c = 3 ∧ 65537 < (tT p.ts j).v.line.length)) ∧ Below V.heap.size V w') := fun j V hj hV hk => by
    have ht := (hp.ts.later hV).1 _ (tT_mem hj)
    refine Calls.mono (tPrint_any (tT p.ts j).s (tT p.ts j).f (tT p.ts j).r (tT p.ts j).n (tT p.ts j).a (tT p.ts j).ca (tT p.ts j).xs (tT p.ts j).b (tT p.ts j).cb (tT p.ts j).ys (tT p.ts j).m (tT p.ts j).c (tT p.ts j).cc (tT p.ts j).us (tT p.ts j).d (tT p.ts j).cd (tT p.ts j).vs V ht.size ht.rot ht.sx ht.sy ht.su ht.sv (htab.later hV)) ?_
    rintro x w' ⟨S, rfl, h1, h2, hb⟩
    refine ⟨S, _, rfl, ?_, hb⟩
    rcases pline_err hk with ⟨e, l⟩ | ⟨e, l⟩
    · exact .inl ⟨e, l, pline_ok (h1 e)⟩
    · exact .inr ⟨e, l⟩
  have HG : Hid (∀ z, PChk p.hd p.ts 0 z → p.good) := fun z h => h.good.1
  have HRS : Hid (p.good → (rtext p.n p.xs p.ys).length ≤ 40964) := fun h => rtext_short hp.sx.wd hp.sy.wd h.mean
  have k0 : Y.cell? ⟨w.heap.size, 0, none⟩ = some (.string p.s) := HX.out.cell 0
  have k1 : Y.cell? ⟨w.heap.size, 1, none⟩ = some (.bool p.n) := HX.out.cell 1
  have k2 : Y.cell? ⟨w.heap.size, 2, none⟩ = some (.slice p.a p.xs.length p.ca) := HX.out.cell 2
  have k3 : Y.cell? ⟨w.heap.size, 3, none⟩ = some (.slice p.b p.ys.length p.cb) := HX.out.cell 3
  have k4 : Y.cell? ⟨w.heap.size, 4, none⟩ = some (.slice p.t p.ts.length p.ct) := HX.out.cell 4
  unfold PL.cells
  clear hp htab
  go_enter Tryz.func6, Tryz.ntmps6
  go_wp2_with fail
  refine Calls.mono HC1.out ?_
  rintro e w1 ⟨c, z, rfl, hc, b1⟩
  have HX1 := hid (HX.out.later b1 HX.out.lt)
  obtain ⟨W2, hW2⟩ : ∃ W2, w1.alloc (.cells #[.int .i64 0, .int .i64 0] 34) = W2 := ⟨_, rfl⟩
  have HF : Hid (Box W2 w1.heap.size 34 #[.int .i64 0, .int .i64 0]) := by
    subst hW2
    exact Box.made w1 _ _
  have HB2 : Hid (Below w1.heap.size w1 W2) := by
    subst hW2
    exact alloc_later _ _
  have hs1 : Y.heap.size ≤ w1.heap.size := b1.size
  obtain ⟨A0, A1, q0, q1, ⟨r0, r1⟩, ⟨v0, v1⟩, HA⟩ := rchain2 HF.out (by decide) (.int .i64 c) (.int .i64 z)
  have HYA : Hid (Below Y.heap.size Y A1) := HA.out.2.2.2.1 _ _ hs1 (bt b1 HB2.out)
  have hlt := HX.out.lt
  have HXA := hid (HA.out.2.1 _ _ _ (show w.heap.size ≠ w1.heap.size by omega) (HX1.out.later HB2.out HX1.out.lt))
  have HBA := hid (bt HB.out HYA.out)
  have y0 : A1.cell? ⟨w1.heap.size, 0, none⟩ = some (.int .i64 c) := HA.out.1.cell 0
  have HCK := hid hc
  clear b1 HC1 k0 k1 k2 k3 k4 HX1 HF HB2 HX hc
  by_cases hc0 : c = 0
  · subst hc0
    have hG := HG.out _ HCK.out
    have HGG := hid hG
    have k0 : A1.cell? ⟨w.heap.size, 0, none⟩ = some (.string p.s) := HXA.out.cell 0
    have k1 : A1.cell? ⟨w.heap.size, 1, none⟩ = some (.bool p.n) := HXA.out.cell 1
    have k2 : A1.cell? ⟨w.heap.size, 2, none⟩ = some (.slice p.a p.xs.length p.ca) := HXA.out.cell 2
    have k3 : A1.cell? ⟨w.heap.size, 3, none⟩ = some (.slice p.b p.ys.length p.cb) := HXA.out.cell 3
    have k4 : A1.cell? ⟨w.heap.size, 4, none⟩ = some (.slice p.t p.ts.length p.ct) := HXA.out.cell 4
    go_wp2_with fail
    refine Calls.mono (HRP.out A1 HYA.out) ?_
    rintro e w3 ⟨S, rfl, hS, b3⟩
    rw [hG.mean]
    have HX3 := hid (HXA.out.later b3 HXA.out.lt)
    have HB3 := hid (bt HBA.out b3)
    have HSS := hid (hS hG.mean)
    have HHD := hid (phead_ok (p := p) HSS.out)
    have hSz : S.size ≤ 40964 := by
      have h1 := HRS.out hG
      rw [← HSS.out] at h1
      have h2 : S.data.toList.length = S.size := Array.length_toList
      omega
    have hNz : p.s.size ≤ 20 := by
      have h1 := (tname_ok hG.nm).2
      have h2 : p.s.data.toList.length = p.s.size := Array.length_toList
      omega
    clear b3 hS k0 k1 k2 k3 k4 HXA HYA HRP q0 q1 r0 r1 v0 v1 y0 HA HCK hW2 hs1 HRS
    have k0 : w3.cell? ⟨w.heap.size, 0, none⟩ = some (.string p.s) := HX3.out.cell 0
    have k1 : w3.cell? ⟨w.heap.size, 1, none⟩ = some (.bool p.n) := HX3.out.cell 1
    have k2 : w3.cell? ⟨w.heap.size, 2, none⟩ = some (.slice p.a p.xs.length p.ca) := HX3.out.cell 2
    have k3 : w3.cell? ⟨w.heap.size, 3, none⟩ = some (.slice p.b p.ys.length p.cb) := HX3.out.cell 3
    have k4 : w3.cell? ⟨w.heap.size, 4, none⟩ = some (.slice p.t p.ts.length p.ct) := HX3.out.cell 4
    go_wp2_with fail
    clear k0 k1 k2 k3 k4
    have HTZ : Hid (((⟨#[112, 111, 114, 116, 32]⟩ : ByteArray) ++ p.s ++ (⟨#[32]⟩ : ByteArray) ++ S ++ (⟨#[10]⟩ : ByteArray)).size ≤ 60000) := by
      show _ ≤ _
      simp only [ByteArray.size_append]
      have e1 : (⟨#[112, 111, 114, 116, 32]⟩ : ByteArray).size = 5 := rfl
      have e2 : (⟨#[32]⟩ : ByteArray).size = 1 := rfl
      have e3 : (⟨#[10]⟩ : ByteArray).size = 1 := rfl
      omega
    clear hSz hNz HSS
    obtain ⟨N, hN⟩ : ∃ N, p.ts.length = N := ⟨_, rfl⟩
    have HLN := hid hN
    have hN24 : N ≤ 24 := by rw [← hN]; exact hG.len
    rw [hN]
    clear hN
    go_loopw [7, 38] (fun v x wr => ∃ (i : Nat) (T : ByteArray), x = .int .i64 (i : Int) ∧ i ≤ N ∧ v = .string T ∧ Hid (T.data.toList = p.v.upto i) ∧ T.size ≤ 60000 + 65537 * i ∧ Hid (Below w.heap.size w wr)) (fun _ x _ => N - (intOf x).toNat)
    case atStart => exact ⟨0, _, rfl, by omega, rfl, hid (HHD.out.trans (PV.upto_zero _).symm), by have := HTZ.out; omega, HB3⟩
    case round =>
      obtain ⟨i, T, rfl, hi, rfl, HT, hTz, HBW⟩ := hrel
      by_cases hin : i < N
      · have hil : i < p.ts.length := by rw [HLN.out]; exact hin
        have HTW := hid (HTS.out wr HBW.out)
        rcases HTW.out.2 with e | ⟨bb, o, hpt, hbb, hc⟩
        · rw [e] at hil; exact absurd hil (by simp)
        have HCC : Hid (∀ V, Below w.heap.size w V → _) := fun V hV => HTP.out i V hil hV (HGG.out.at_ hil)
        have HNX : Hid (p.v.upto (i + 1) = p.v.upto i ++ (tT p.ts i).v.line) := PV.upto_next _ (by
          show (p.ts.map TL.v)[i]? = _
          rw [List.getElem?_map, tT_at hil]; rfl)
        have hci := hc i _ (tT_at hil)
        have e0 := hci 0 (by decide)
        have e1 := hci 1 (by decide)
        have e2 := hci 2 (by decide)
        have e3 := hci 3 (by decide)
        have e4 := hci 4 (by decide)
        have e5 := hci 5 (by decide)
        have e6 := hci 6 (by decide)
        have e7 := hci 7 (by decide)
        have e8 := hci 8 (by decide)
        clear hci hc
        rw [hpt]
        generalize tT p.ts i = tt at *
        have c0 : wr.cell? ⟨bb, o + i * 9, none⟩ = some (.string tt.s) := e0
        have c1 : wr.cell? ⟨bb, o + i * 9 + 1, none⟩ = some (.int .i32 tt.f) := e1
        have c2 : wr.cell? ⟨bb, o + i * 9 + 2, none⟩ = some (.int .i32 tt.r) := e2
        have c3 : wr.cell? ⟨bb, o + i * 9 + 3, none⟩ = some (.bool tt.n) := e3
        have c4 : wr.cell? ⟨bb, o + i * 9 + 4, none⟩ = some (.slice tt.a tt.xs.length tt.ca) := e4
        have c5 : wr.cell? ⟨bb, o + i * 9 + 5, none⟩ = some (.slice tt.b tt.ys.length tt.cb) := e5
        have c6 : wr.cell? ⟨bb, o + i * 9 + 6, none⟩ = some (.bool tt.m) := e6
        have c7 : wr.cell? ⟨bb, o + i * 9 + 7, none⟩ = some (.slice tt.c tt.us.length tt.cc) := e7
        have c8 : wr.cell? ⟨bb, o + i * 9 + 8, none⟩ = some (.slice tt.d tt.vs.length tt.cd) := e8
        clear e0 e1 e2 e3 e4 e5 e6 e7 e8
        obtain ⟨A0, A1, A2, A3, A4, A5, A6, A7, A8, q0, q1, q2, q3, q4, q5, q6, q7, q8, ⟨r0, r1, r2, r3, r4, r5, r6, r7, r8⟩, ⟨f0, f1, f2, f3, f4, f5, f6, f7, f8⟩, HA⟩ := tlbox wr tt
        have HBA' := hid (bt HBW.out HA.out.2)
        have m0 : A8.cell? ⟨wr.heap.size, 0, none⟩ = some (.string tt.s) := HA.out.1.cell 0
        have m1 : A8.cell? ⟨wr.heap.size, 1, none⟩ = some (.int .i32 tt.f) := HA.out.1.cell 1
        have m2 : A8.cell? ⟨wr.heap.size, 2, none⟩ = some (.int .i32 tt.r) := HA.out.1.cell 2
        have m3 : A8.cell? ⟨wr.heap.size, 3, none⟩ = some (.bool tt.n) := HA.out.1.cell 3
        have m4 : A8.cell? ⟨wr.heap.size, 4, none⟩ = some (.slice tt.a tt.xs.length tt.ca) := HA.out.1.cell 4
        have m5 : A8.cell? ⟨wr.heap.size, 5, none⟩ = some (.slice tt.b tt.ys.length tt.cb) := HA.out.1.cell 5
        have m6 : A8.cell? ⟨wr.heap.size, 6, none⟩ = some (.bool tt.m) := HA.out.1.cell 6
        have m7 : A8.cell? ⟨wr.heap.size, 7, none⟩ = some (.slice tt.c tt.us.length tt.cc) := HA.out.1.cell 7
        have m8 : A8.cell? ⟨wr.heap.size, 8, none⟩ = some (.slice tt.d tt.vs.length tt.cd) := HA.out.1.cell 8
        have hi0' : (0 : Int) ≤ (i : Int) := by omega
        have hi1 : (i : Int) < (N : Int) := by omega
        clear HA hbb
        go_wp2_with fail
        clear q0 q1 q2 q3 q4 q5 q6 q7 q8 r0 r1 r2 r3 r4 r5 r6 r7 r8 f0 f1 f2 f3 f4 f5 f6 f7 f8 c0 c1 c2 c3 c4 c5 c6 c7 c8
        refine Calls.mono (HCC.out _ HBA'.out) ?_
        rintro e w5 ⟨S2, cc, rfl, hcs, hb5⟩
        have HB5 := hid (bt HBA'.out hb5)
        have hTl : T.data.toList.length = T.size := Array.length_toList
        clear m0 m1 m2 m3 m4 m5 m6 m7 m8 HCC hb5
        rcases hcs with ⟨rfl, hl, hs⟩ | ⟨rfl, hl⟩
        · have HTN : Hid ((T ++ (S2 ++ (⟨#[10]⟩ : ByteArray))).data.toList = p.v.upto (i + 1)) := by
            show _ = _
            rw [ByteArray.data_append, Array.toList_append, hs, HT.out, HNX.out]
          have hS2 : S2.size + 1 ≤ 65537 := by
            have h1 : (S2 ++ (⟨#[10]⟩ : ByteArray)).data.toList.length = (S2 ++ (⟨#[10]⟩ : ByteArray)).size := Array.length_toList
            rw [hs, ByteArray.size_append] at h1
            have e3 : (⟨#[10]⟩ : ByteArray).size = 1 := rfl
            omega
          have HTS2 : Hid ((T ++ (S2 ++ (⟨#[10]⟩ : ByteArray))).size ≤ 60000 + 65537 * (i + 1)) := by
            show _ ≤ _
            rw [ByteArray.size_append, ByteArray.size_append]
            have e3 : (⟨#[10]⟩ : ByteArray).size = 1 := rfl
            omega
          clear hs hl HNX
          go_wp2_with fail
          go_roundw
          case rel => exact ⟨i + 1, _, by go_num, by omega, rfl, HTN, HTS2.out, HB5⟩
          case measure => simp [intOf]; omega
        · have HLG : Hid (65536 < p.v.text.length) := by
            have h1 := PV.upto_le p.v (i + 1)
            rw [HNX.out, List.length_append] at h1
            show _ < _
            omega
          go_wp2_with fail
          go_ret2
          exact ⟨⟨#[]⟩, 3, rfl, .inr ⟨HGG.out, .inl ⟨HLG.out, rfl, rfl⟩⟩, HB5.out⟩
      · obtain rfl : i = N := by omega
        have hi1 : ¬ (i : Int) < (i : Int) := by omega
        have hTl : T.data.toList.length = T.size := Array.length_toList
        have HTT : Hid (T.data.toList = p.v.text) := by
          have e : p.v.ts.length = i := by
            show (p.ts.map TL.v).length = i
            rw [List.length_map]; exact HLN.out
          show _ = _
          rw [HT.out, ← PV.upto_all, e]
        by_cases hlg : 65536 < T.size
        · have hlg' : (65536 : Int) < (T.size : Int) := by omega
          have HLG : Hid (65536 < p.v.text.length) := by
            show _ < _
            rw [← HTT.out, hTl]; exact hlg
          clear hTl hlg
          go_wp2_with fail
          go_ret2
          exact ⟨⟨#[]⟩, 3, rfl, .inr ⟨HGG.out, .inl ⟨HLG.out, rfl, rfl⟩⟩, HBW.out⟩
        · have hlg' : ¬ (65536 : Int) < (T.size : Int) := by omega
          have HLG : Hid (p.v.text.length ≤ 65536) := by
            show _ ≤ _
            rw [← HTT.out, hTl]; omega
          clear hTl hlg
          go_wp2_with fail
          go_ret2
          exact ⟨T, 0, rfl, .inr ⟨HGG.out, .inr ⟨HLG.out, rfl, HTT.out⟩⟩, HBW.out⟩
  · have h0' : (c == 0) = false := by simp [hc0]
    have h0'' : (c != 0) = true := by simp [hc0]
    clear HTP HRP HG HXA HYA
    go_wp2_with fail
    go_region_held3 (fun V : World => V.cell? ⟨w1.heap.size, 0, none⟩ = some (.int .i64 c)) (first | exact y0 | go_keep) (fail)
    all_goals
      have HCN := hid hc0
      clear hc0
      go_wp2_with fail
      go_ret2
      exact ⟨⟨#[]⟩, c, rfl, .inl ⟨z, HCK.out, HCN.out, rfl⟩, HBA.out.drew⟩
def hullV : PV := ⟨⟨#[72, 117, 108, 108]⟩, false, [3], [2], []⟩
def exV : TV := ⟨⟨#[77, 50]⟩, 2, 1, false, [1], [2], false, [], [1]⟩
theorem exV_ok : exV.ok := ⟨by show (2 : Nat) ≤ maxLen; unfold maxLen; decide, by unfold in32 exV; decide, zw 1 (by decide) (by decide), zw 2 (by decide) (by decide), Wd.nil, zw 1 (by decide) (by decide)⟩
theorem exV_chk : exV.chk = 0 := by
  have h1 : rchk false [1] [2] = 0 := rchk_good (by simp) (by simp) rfl rfl (by simp) (.inl rfl) (by decide)
  have h2 : rchk false [] [1] = 0 := rchk_good (by simp) (by simp) rfl rfl (by simp) (.inl rfl) (by decide)
  have h3 : ochk 2 1 = 0 := by
    rcases ochk_or 2 1 with h | h
    · exact h.1
    · exact absurd (by unfold rOK; decide) h.2
  show tchk [77, 50] 2 1 (gchk false [1] [2] false [] [1]) = 0
  rw [tchk_rest _ _ _ zname, h3, fstE_zero]
  unfold gchk
  rw [h1, fstE_zero, h2]
theorem hullV_good : hullV.Good := ⟨by decide +kernel, zk32, by decide, fun j hj => absurd hj (by show ¬ j < 0; omega), fun k j hk hj => absurd hj (by show ¬ j < 0; omega), fun k j hk hj => absurd hj (by show ¬ j < 0; omega)⟩
set_option maxHeartbeats 1600000 in
set_option maxRecDepth 100000 in
theorem hull_any (w : World) : Calls Tryz.prog 11 #[] w fun e w' => ∃ p : PL, e = .returned (.agg #[.string p.s, .bool p.n, .slice p.a p.xs.length p.ca, .slice p.b p.ys.length p.cb, .slice p.t p.ts.length p.ct]) ∧ p.v = hullV ∧ p.ok w' ∧ Below w.heap.size w w' := by
  obtain ⟨X, hX⟩ : ∃ X, w.alloc (.cells #[.string ⟨#[]⟩, .bool false, .slice none 0 0, .slice none 0 0, .slice none 0 0] 27) = X := ⟨_, rfl⟩
  have HX : Hid (Box X w.heap.size 27 #[.string ⟨#[]⟩, .bool false, .slice none 0 0, .slice none 0 0, .slice none 0 0]) := by
    subst hX
    exact Box.made w _ _
  have HB : Hid (Below w.heap.size w X) := by
    subst hX
    exact alloc_later _ _
  obtain ⟨Y1, hY1⟩ : ∃ Y1, X.alloc (.cells #[.int .u32 3] 52) = Y1 := ⟨_, rfl⟩
  obtain ⟨Y2, hY2⟩ : ∃ Y2, Y1.alloc (.cells #[.int .u32 2] 52) = Y2 := ⟨_, rfl⟩
  have HO1 : Hid (Y1.ownsRow X.heap.size 52 1 (.slice (some ⟨X.heap.size, 0, none⟩) 1 1) 1 [.int .u32 3] ∧ Below X.heap.size X Y1) := by
    subst hY1
    exact ⟨World.ownsRow_lit X #[.int .u32 3] 1 (Nat.le_refl _) (by decide) rfl, alloc_later _ _⟩
  have HO2 : Hid (Y2.ownsRow X.heap.size 52 1 (.slice (some ⟨Y1.heap.size, 0, none⟩) 1 1) 1 [.int .u32 2] ∧ Below Y1.heap.size Y1 Y2) := by
    have hs := HO1.out.2.size
    subst hY2
    exact ⟨World.ownsRow_lit Y1 #[.int .u32 2] 1 hs (by decide) rfl, alloc_later _ _⟩
  have HR := hid (HX.out.later (bt HO1.out.2 HO2.out.2) HX.out.lt)
  obtain ⟨A0, A1, A2, A3, A4, q0, q1, q2, q3, q4, ⟨r0, r1, r2, r3, r4⟩, ⟨f0, f1, f2, f3, f4⟩, HA⟩ := pchain5 HR.out (.string ⟨#[72, 117, 108, 108]⟩) (.bool false) (.slice (some ⟨X.heap.size, 0, none⟩) 1 1) (.slice (some ⟨Y1.heap.size, 0, none⟩) 1 1) (.slice none 0 0)
  have HM : Hid (A4.ownsRow X.heap.size 52 1 (.slice (some ⟨X.heap.size, 0, none⟩) 1 1) 1 [.int .u32 3] ∧ A4.ownsRow X.heap.size 52 1 (.slice (some ⟨Y1.heap.size, 0, none⟩) 1 1) 1 [.int .u32 2] ∧ Below w.heap.size w A4) := ⟨HA.out.2.2.1 _ _ _ _ _ _ (by decide) (qown_later HO1.out.1 HO2.out.2), HA.out.2.2.1 _ _ _ _ _ _ (by decide) HO2.out.1, HA.out.2.2.2.1 _ _ (Nat.le_refl _) (bt HB.out (bt HO1.out.2 HO2.out.2))⟩
  have HE := hid HA.out.1
  clear HA HR HX
  go_enter Tryz.func11, Tryz.ntmps11
  go_wp2_with fail
  refine bodyPost_ret (results_cell_row (by rfl) _ _ w.heap.size 27 _ (0, 0) _ (by rfl) HE.out Tryz.underlying27 rfl (by kernel_rfl)) rfl ⟨⟨⟨#[72, 117, 108, 108]⟩, false, some ⟨X.heap.size, 0, none⟩, 1, [3], some ⟨Y1.heap.size, 0, none⟩, 1, [2], none, 0, []⟩, rfl, rfl, ⟨by show (4 : Nat) ≤ maxLen; unfold maxLen; decide, Sl.own HM.out.1 (zw 3 (by decide) (by decide)), Sl.own HM.out.2.1 (zw 2 (by decide) (by decide)), ⟨Nat.le_refl _, Nat.zero_le _, fun _ => ⟨rfl, rfl⟩⟩, ⟨fun t ht => absurd ht (by simp), .inl rfl⟩⟩, HM.out.2.2⟩
set_option maxHeartbeats 1600000 in
set_option maxRecDepth 100000 in
theorem pexample_any (w : World) : Calls Tryz.prog 12 #[] w fun e w' => ∃ t : TL, e = .returned (.agg #[.string t.s, .int .i32 t.f, .int .i32 t.r, .bool t.n, .slice t.a t.xs.length t.ca, .slice t.b t.ys.length t.cb, .bool t.m, .slice t.c t.us.length t.cc, .slice t.d t.vs.length t.cd]) ∧ t.v = exV ∧ t.ok w' ∧ Below w.heap.size w w' := by
  obtain ⟨X, hX⟩ : ∃ X, w.alloc (.cells #[.string ⟨#[]⟩, .int .i32 0, .int .i32 0, .bool false, .slice none 0 0, .slice none 0 0, .bool false, .slice none 0 0, .slice none 0 0] 48) = X := ⟨_, rfl⟩
  have HX : Hid (Box X w.heap.size 48 #[.string ⟨#[]⟩, .int .i32 0, .int .i32 0, .bool false, .slice none 0 0, .slice none 0 0, .bool false, .slice none 0 0, .slice none 0 0]) := by
    subst hX
    exact Box.made w _ _
  have HB : Hid (Below w.heap.size w X) := by
    subst hX
    exact alloc_later _ _
  obtain ⟨Y1, hY1⟩ : ∃ Y1, X.alloc (.cells #[.int .u32 1] 52) = Y1 := ⟨_, rfl⟩
  obtain ⟨Y2, hY2⟩ : ∃ Y2, Y1.alloc (.cells #[.int .u32 2] 52) = Y2 := ⟨_, rfl⟩
  obtain ⟨Y3, hY3⟩ : ∃ Y3, Y2.alloc (.cells #[.bool false, .slice (some ⟨X.heap.size, 0, none⟩) 1 1, .slice (some ⟨Y1.heap.size, 0, none⟩) 1 1] 24) = Y3 := ⟨_, rfl⟩
  obtain ⟨Y4, hY4⟩ : ∃ Y4, Y3.alloc (.cells #[.int .u32 1] 52) = Y4 := ⟨_, rfl⟩
  have HO1 : Hid (Y1.ownsRow X.heap.size 52 1 (.slice (some ⟨X.heap.size, 0, none⟩) 1 1) 1 [.int .u32 1] ∧ Below X.heap.size X Y1) := by
    subst hY1
    exact ⟨World.ownsRow_lit X #[.int .u32 1] 1 (Nat.le_refl _) (by decide) rfl, alloc_later _ _⟩
  have HO2 : Hid (Y2.ownsRow X.heap.size 52 1 (.slice (some ⟨Y1.heap.size, 0, none⟩) 1 1) 1 [.int .u32 2] ∧ Below Y1.heap.size Y1 Y2) := by
    have hs := HO1.out.2.size
    subst hY2
    exact ⟨World.ownsRow_lit Y1 #[.int .u32 2] 1 hs (by decide) rfl, alloc_later _ _⟩
  have HO3 : Hid (Box Y3 Y2.heap.size 24 #[.bool false, .slice (some ⟨X.heap.size, 0, none⟩) 1 1, .slice (some ⟨Y1.heap.size, 0, none⟩) 1 1] ∧ Below Y2.heap.size Y2 Y3) := by
    subst hY3
    exact ⟨Box.made Y2 _ _, alloc_later _ _⟩
  have hs3 : X.heap.size ≤ Y3.heap.size := (bt HO1.out.2 (bt HO2.out.2 HO3.out.2)).size
  have HO4 : Hid (Y4.ownsRow X.heap.size 52 1 (.slice (some ⟨Y3.heap.size, 0, none⟩) 1 1) 1 [.int .u32 1] ∧ Below Y3.heap.size Y3 Y4) := by
    subst hY4
    exact ⟨World.ownsRow_lit Y3 #[.int .u32 1] 1 hs3 (by decide) rfl, alloc_later _ _⟩
  have HXY := hid (bt HO1.out.2 (bt HO2.out.2 (bt HO3.out.2 HO4.out.2)))
  have HR := hid (HX.out.later HXY.out HX.out.lt)
  have hw0 : w.heap.size < X.heap.size := HX.out.lt
  have k0 : Y3.cell? ⟨Y2.heap.size, 0, none⟩ = some (.bool false) := HO3.out.1.cell 0
  have k1 : Y3.cell? ⟨Y2.heap.size, 1, none⟩ = some (.slice (some ⟨X.heap.size, 0, none⟩) 1 1) := HO3.out.1.cell 1
  have k2 : Y3.cell? ⟨Y2.heap.size, 2, none⟩ = some (.slice (some ⟨Y1.heap.size, 0, none⟩) 1 1) := HO3.out.1.cell 2
  obtain ⟨A0, A1, A2, A3, A4, A5, A6, A7, A8, q0, q1, q2, q3, q4, q5, q6, q7, q8, ⟨p0, p1, p2, p3, p4, p5, p6, p7, p8⟩, ⟨f0, f1, f2, f3, f4, f5, f6, f7, f8⟩⟩ := tchain9 HR.out (.string ⟨#[77, 50]⟩) (.int .i32 2) (.int .i32 1) (.bool false) (.slice (some ⟨X.heap.size, 0, none⟩) 1 1) (.slice (some ⟨Y1.heap.size, 0, none⟩) 1 1) (.bool false) (.slice none 0 0) (.slice (some ⟨Y3.heap.size, 0, none⟩) 1 1)
  have HOW : Hid (G6.Ow (TL.g ⟨⟨#[77, 50]⟩, 2, 1, false, some ⟨X.heap.size, 0, none⟩, 1, [1], some ⟨Y1.heap.size, 0, none⟩, 1, [2], false, none, 0, [], some ⟨Y3.heap.size, 0, none⟩, 1, [1]⟩) Y4 X.heap.size) := ⟨qown_later HO1.out.1 (bt HO2.out.2 (bt HO3.out.2 HO4.out.2)), qown_later HO2.out.1 (bt HO3.out.2 HO4.out.2), World.ownsRow_nil _ _ _ _, HO4.out.1⟩
  have HA := hid (tput9 (A8 := A8) (r := ⟨⟨#[77, 50]⟩, 2, 1, false, some ⟨X.heap.size, 0, none⟩, 1, [1], some ⟨Y1.heap.size, 0, none⟩, 1, [2], false, none, 0, [], some ⟨Y3.heap.size, 0, none⟩, 1, [1]⟩) HR.out (Nat.le_refl _) (bt HB.out HXY.out) HOW.out hw0 (by rw [← q8, ← q7, ← q6, ← q5, ← q4, ← q3, ← q2, ← q1, ← q0]; rfl))
  clear HR HX HO1 HO2 HO3 HO4 HOW HXY
  go_enter Tryz.func12, Tryz.ntmps12
  go_wp2_with fail
  refine bodyPost_ret (results_cell_row (by rfl) _ _ w.heap.size 48 _ (0, 0) _ (by rfl) HA.out.1 Tryz.underlying48 rfl (by kernel_rfl)) rfl ⟨_, rfl, rfl, TL.ok_of exV_ok HA.out.2.2.2, HA.out.2.1⟩
theorem hull_text : hullV.text = [112, 111, 114, 116, 32, 72, 117, 108, 108, 32, 51, 47, 50, 10] := by decide +kernel
theorem exV_short : ¬ mlong exV.q1 exV.q2 (oP exV.f exV.r 1).1 (oP exV.f exV.r 1).2 := by
  have h1 : rchk false [1] [2] = 0 := rchk_good (by simp) (by simp) rfl rfl (by simp) (.inl rfl) (by decide)
  have h2 : rchk false [] [1] = 0 := rchk_good (by simp) (by simp) rfl rfl (by simp) (.inl rfl) (by decide)
  have hp := oP_hgt (f := 2) (r := 1) (by unfold rOK; decide) 1 1 (by decide)
  exact mshort (K := 32 * 1) (J := 21 * 1) (hgt_words (zw 1 (by decide) (by decide)) (zw 2 (by decide) (by decide)) h1 (by decide) (by decide)) (hgt_words Wd.nil (zw 1 (by decide) (by decide)) h2 (by decide) (by decide)) hp.1 hp.2 (by decide)
theorem exV_moved : exV.q1 * (oP exV.f exV.r 1).1 - exV.q2 * (oP exV.f exV.r 1).2 = rq false [3] [10] := by decide +kernel
theorem z310 : rchk false [3] [10] = 0 := rchk_good (by simp) (by simp) rfl rfl (by simp) (.inl rfl) (by decide)
set_option maxHeartbeats 3200000 in
set_option maxRecDepth 100000 in
theorem plives_any (w : World) (htab : Tab w) : Calls Tryz.prog 4 #[] w fun e w' => e = .returned (.bool true) ∧ Below w.heap.size w w' := by
  have HH : Hid (∀ V, Calls Tryz.prog 11 #[] V fun e w' => ∃ p : PL, e = .returned (.agg #[.string p.s, .bool p.n, .slice p.a p.xs.length p.ca, .slice p.b p.ys.length p.cb, .slice p.t p.ts.length p.ct]) ∧ p.v = hullV ∧ p.ok w' ∧ Below V.heap.size V w') := fun V => hull_any V
  have HX : Hid (∀ V, Calls Tryz.prog 12 #[] V fun e w' => ∃ t : TL, e = .returned (.agg #[.string t.s, .int .i32 t.f, .int .i32 t.r, .bool t.n, .slice t.a t.xs.length t.ca, .slice t.b t.ys.length t.cb, .bool t.m, .slice t.c t.us.length t.cc, .slice t.d t.vs.length t.cd]) ∧ t.v = exV ∧ t.ok w' ∧ Below V.heap.size V w') := fun V => pexample_any V
  have HW : Hid (∀ (p : PL) (t : TL) (V : World), p.v = hullV → t.v = exV → p.ok V → t.ok V → Calls Tryz.prog 10 #[.agg #[.string p.s, .bool p.n, .slice p.a p.xs.length p.ca, .slice p.b p.ys.length p.cb, .slice p.t p.ts.length p.ct], .agg #[.string t.s, .int .i32 t.f, .int .i32 t.r, .bool t.n, .slice t.a t.xs.length t.ca, .slice t.b t.ys.length t.cb, .bool t.m, .slice t.c t.us.length t.cc, .slice t.d t.vs.length t.cd]] V fun e w' => ∃ q : PL, e = .returned (.tuple #[.agg #[.string q.s, .bool q.n, .slice q.a q.xs.length q.ca, .slice q.b q.ys.length q.cb, .slice q.t q.ts.length q.ct], .int .i64 0]) ∧ q.v = hullV.more exV ∧ (hullV.more exV).Good ∧ q.ok w' ∧ Below V.heap.size V w') := fun p t V hp ht op ot => by
    refine Calls.mono (pWith_told p t V op ot (by rw [hp]; exact hullV_good)) ?_
    rintro e w' ⟨q, c, rfl, h⟩
    rw [hp, ht] at h
    rcases h with ⟨_, _, h | h | ⟨j, hj, _⟩⟩ | ⟨rfl, hg, _, hm⟩
    · exact absurd exV_chk h
    · exact absurd h (by decide)
    · exact absurd hj (by show ¬ j < 0; omega)
    · have hv : (hullV.more exV).ok := by
        have h1 := op.v
        rw [hp] at h1
        refine ⟨h1.1, h1.2.1, h1.2.2.1, fun x hx => ?_⟩
        have hx' : x ∈ [exV] := hx
        rw [List.mem_singleton.1 hx']
        exact exV_ok
      exact ⟨q, rfl, hm.v, hg, PL.ok_of (by rw [hm.v]; exact hv) hm.ow, hm.bel⟩
  have HM : Hid (∀ (p : PL) (V : World), p.v = hullV.more exV → (hullV.more exV).Good → p.ok V → Calls Tryz.prog 13 #[.agg #[.string p.s, .bool p.n, .slice p.a p.xs.length p.ca, .slice p.b p.ys.length p.cb, .slice p.t p.ts.length p.ct], .int .i64 1] V fun e w' => ∃ (q : PL) (u : TL), e = .returned (.tuple #[.agg #[.string q.s, .bool q.n, .slice q.a q.xs.length q.ca, .slice q.b q.ys.length q.cb, .slice q.t 1 q.ct], .int .i64 0]) ∧ q.ts = [u] ∧ (u.n = false ∧ u.xs = [3] ∧ u.ys = [10]) ∧ RdT w' q.t [u] ∧ Below V.heap.size V w') := fun p V hp hg op => by
    have h0 : vT (hullV.more exV).ts 0 = exV := rfl
    refine Calls.mono (pMoved_good p 1 V op (by rw [hp]; exact hg) (by decide) (by decide) (fun j hj => ?_)) ?_
    · rw [hp] at hj ⊢
      have hj' : j < 1 := hj
      obtain rfl : j = 0 := by omega
      exact exV_short
    · rintro e w' ⟨q, vs, rfl, ⟨hl, hv⟩, hm⟩
      rw [hp] at hl hv
      have hl1 : vs.length = 1 := hl
      have hmv := hv 0 (by rw [← hl]; omega)
      rw [h0] at hmv
      have hqts : q.ts.map TL.v = vs := congrArg PV.ts hm.v
      have hql : q.ts.length = 1 := by rw [← hl1, ← hqts, List.length_map]
      obtain ⟨u, hu⟩ := List.length_eq_one_iff.1 hql
      have huv : u.v = vT vs 0 := by rw [← hqts, hu]; rfl
      rw [← huv] at hmv
      have hi := hmv.2.2.2
      rw [exV_moved] at hi
      have q1 := rq_inj hi.2.2.1 hi.2.2.2.1 (zw 3 (by decide) (by decide)) (zw 10 (by decide) (by decide)) hi.1.1 z310 hi.1.2
      have hrow := hm.ow.row
      have hel : ∀ t ∈ q.ts, t.ok w' := fun t ht => by
        rw [hu] at ht
        rw [List.mem_singleton.1 ht]
        refine TL.ok_of ?_ (hm.ow.els u (by rw [hu]; exact List.mem_singleton.2 rfl))
        have h2 : (2 : Nat) ≤ maxLen := by unfold maxLen; decide
        exact ⟨by rw [hmv.1]; exact h2, by rw [hmv.2.1, hmv.2.2.1]; exact exV_ok.2.1, hi.2.2⟩
      have hrd := rdT_own hrow hel
      refine ⟨q, u, ?_, hu, q1, ?_, hm.bel⟩
      · unfold PL.cells
        rw [hql]
      · rw [hu] at hrd
        exact hrd
  have HP : Hid (∀ (p : PL) (V : World), p.v = hullV → p.ok V → Below w.heap.size w V → Calls Tryz.prog 6 #[.agg #[.string p.s, .bool p.n, .slice p.a p.xs.length p.ca, .slice p.b p.ys.length p.cb, .slice p.t p.ts.length p.ct]] V fun e w' => e = .returned (.tuple #[.string ⟨#[112, 111, 114, 116, 32, 72, 117, 108, 108, 32, 51, 47, 50, 10]⟩, .int .i64 0]) ∧ Below V.heap.size V w') := fun p V hp op hV => by
    refine Calls.mono (pPrint_any p V op (htab.later hV)) ?_
    rintro e w' ⟨S, c, rfl, h, hb⟩
    have hg : p.v.Good := by rw [hp]; exact hullV_good
    rcases h with ⟨z, hz, hc, _⟩ | ⟨_, ⟨hl, _⟩ | ⟨_, rfl, hS⟩⟩
    · exact absurd (PCk.one0 hz hg) hc
    · rw [hp, hull_text] at hl
      exact absurd hl (by decide)
    · rw [hp, hull_text] at hS
      have e : S = ⟨#[112, 111, 114, 116, 32, 72, 117, 108, 108, 32, 51, 47, 50, 10]⟩ := ByteArray.ext (Array.toList_inj.1 hS)
      rw [e]
      exact ⟨rfl, hb⟩
  clear htab
  go_enter Tryz.func4, Tryz.ntmps4
  go_wp2_with fail
  refine Calls.mono (HH.out w) ?_
  rintro e w1 ⟨p, rfl, hp, op, b1⟩
  go_wp2_with fail
  refine Calls.mono (HX.out w1) ?_
  rintro e w2 ⟨t, rfl, ht, ot, b2⟩
  go_wp2_with fail
  refine Calls.mono (HW.out p t w2 hp ht (op.later b2) ot) ?_
  rintro e w3 ⟨q, rfl, hq, hgq, oq, b3⟩
  have HB3 := hid (bt b1 (bt b2 b3))
  obtain ⟨Q, hQ⟩ : ∃ Q, w3.alloc (.cells #[.string q.s, .bool q.n, .slice q.a q.xs.length q.ca, .slice q.b q.ys.length q.cb, .slice q.t q.ts.length q.ct] 27) = Q := ⟨_, rfl⟩
  have HQ : Hid (Box Q w3.heap.size 27 #[.string q.s, .bool q.n, .slice q.a q.xs.length q.ca, .slice q.b q.ys.length q.cb, .slice q.t q.ts.length q.ct]) := by
    subst hQ
    exact Box.made w3 _ _
  have HBQ : Hid (Below w3.heap.size w3 Q) := by
    subst hQ
    exact alloc_later _ _
  have k0 : Q.cell? ⟨w3.heap.size, 0, none⟩ = some (.string q.s) := HQ.out.cell 0
  have k1 : Q.cell? ⟨w3.heap.size, 1, none⟩ = some (.bool q.n) := HQ.out.cell 1
  have k2 : Q.cell? ⟨w3.heap.size, 2, none⟩ = some (.slice q.a q.xs.length q.ca) := HQ.out.cell 2
  have k3 : Q.cell? ⟨w3.heap.size, 3, none⟩ = some (.slice q.b q.ys.length q.cb) := HQ.out.cell 3
  have k4 : Q.cell? ⟨w3.heap.size, 4, none⟩ = some (.slice q.t q.ts.length q.ct) := HQ.out.cell 4
  have hmv := HM.out q Q hq hgq (oq.later HBQ.out)
  clear hp ht op ot b1 b2 b3 hq hgq oq HM HW HX
  go_wp2_with fail
  refine Calls.mono hmv ?_
  rintro e w4 ⟨m, u, rfl, hu, ⟨u1, u2, u3⟩, hrd, b4⟩
  have HB4 := hid (bt HB3.out (bt HBQ.out b4))
  clear k0 k1 k2 k3 k4 hmv
  obtain ⟨M, hM⟩ : ∃ M, w4.alloc (.cells #[.string m.s, .bool m.n, .slice m.a m.xs.length m.ca, .slice m.b m.ys.length m.cb, .slice m.t 1 m.ct] 27) = M := ⟨_, rfl⟩
  have HMB : Hid (Box M w4.heap.size 27 #[.string m.s, .bool m.n, .slice m.a m.xs.length m.ca, .slice m.b m.ys.length m.cb, .slice m.t 1 m.ct]) := by
    subst hM
    exact Box.made w4 _ _
  have HBM : Hid (Below w4.heap.size w4 M) := by
    subst hM
    exact alloc_later _ _
  have HRD := hid (hrd.later HBM.out)
  have HBW := hid (bt HB4.out HBM.out)
  clear hrd b4 hu
  go_wp2_with fail
  refine Calls.mono (HH.out M) ?_
  rintro e w5 ⟨p2, rfl, hp2, op2, b5⟩
  go_wp2_with fail
  refine Calls.mono (HP.out p2 w5 hp2 op2 (bt HBW.out b5)) ?_
  rintro e w6 ⟨rfl, b6⟩
  have HB6 := hid (bt HBW.out (bt b5 b6))
  have HR6 := hid (HRD.out.later (bt b5 b6))
  have HM6 := hid (HMB.out.later (bt b5 b6) HMB.out.lt)
  have j4 : w6.cell? ⟨w4.heap.size, 4, none⟩ = some (.slice m.t 1 m.ct) := HM6.out.cell 4
  clear hp2 op2 b5 b6 HH HP
  rcases HR6.out.2 with e | ⟨bb, o, hmt, hbb, hc⟩
  · cases e
  have hci := hc 0 u rfl
  have c3 : w6.cell? ⟨bb, o + 3, none⟩ = some (.bool u.n) := by have := hci 3 (by decide); rw [show o + 0 * 9 + 3 = o + 3 by omega] at this; exact this
  have c4 : w6.cell? ⟨bb, o + 4, none⟩ = some (.slice u.a u.xs.length u.ca) := by have := hci 4 (by decide); rw [show o + 0 * 9 + 4 = o + 4 by omega] at this; exact this
  have c5 : w6.cell? ⟨bb, o + 5, none⟩ = some (.slice u.b u.ys.length u.cb) := by have := hci 5 (by decide); rw [show o + 0 * 9 + 5 = o + 5 by omega] at this; exact this
  rw [u1] at c3
  rw [u2] at c4
  rw [u3] at c5
  rw [hmt] at j4
  have ouk := HR6.out.1 u (List.mem_singleton.2 rfl)
  have osx := ouk.sx
  have osy := ouk.sy
  rw [u2] at osx
  rw [u3] at osy
  obtain ⟨V1, hV1⟩ : ∃ V1, w6.alloc (.cells #[.int .u32 3] 52) = V1 := ⟨_, rfl⟩
  obtain ⟨V2, hV2⟩ : ∃ V2, V1.alloc (.cells #[.int .u32 10] 52) = V2 := ⟨_, rfl⟩
  have HV1 : Hid (Sl V1 (.slice (some ⟨w6.heap.size, 0, none⟩) 1 1) [3] ∧ Below w6.heap.size w6 V1) := by
    subst hV1
    exact ⟨Sl.lit w6 [3] (zw 3 (by decide) (by decide)) (by decide), alloc_later _ _⟩
  have HV2 : Hid (Sl V2 (.slice (some ⟨V1.heap.size, 0, none⟩) 1 1) [10] ∧ Below V1.heap.size V1 V2) := by
    subst hV2
    exact ⟨Sl.lit V1 [10] (zw 10 (by decide) (by decide)) (by decide), alloc_later _ _⟩
  have HSM := hid (gsameRatio_eq false (.slice u.a 1 u.ca) (.slice u.b 1 u.cb) (.slice (some ⟨w6.heap.size, 0, none⟩) 1 1) (.slice (some ⟨V1.heap.size, 0, none⟩) 1 1) [3] [10] V2 (osx.later (bt HV1.out.2 HV2.out.2)) (osy.later (bt HV1.out.2 HV2.out.2)) (HV1.out.1.later HV2.out.2) HV2.out.1 (by decide) (by decide))
  have HBV := hid (bt HB6.out (bt HV1.out.2 HV2.out.2))
  clear hci hc ouk osx osy HV1 HV2
  go_wp2_with fail
  refine Calls.mono HSM.out ?_
  rintro e w7 ⟨rfl, b7⟩
  go_wp2_with fail
  go_ret
  exact ⟨rfl, bt HBV.out b7⟩
def PaT (s : ByteArray) (v : TV) (c : Int) : Prop := TTells (tpE s) (gplong (trest (trest (trest s.data.toList)))) (tword s.data.toList) (tnumV (tword (trest s.data.toList))) (tnumV (tword (trest (trest s.data.toList)))) (rpq (gp1 (trest (trest (trest s.data.toList))))) (rpq (gp2 (trest (trest (trest s.data.toList))))) v.s v.f v.r v.n v.xs v.ys v.m v.us v.vs c
theorem ptParse_any (s : ByteArray) (w : World) (hm : s.size ≤ 281474976710656) (htab : Tab w) (herr : ErrT w) : Calls Tryz.prog 70 #[.string s] w (TRet (PaT s) w) := by
  refine Calls.mono (tParse_any s w hm htab herr) ?_
  rintro x w' ⟨S, F, R, n, a, ca, xs, b, cb, ys, m, c, cc, us, d, cd, vs, code, rfl, ho, tt, hb, W1, k1, k2⟩
  exact ⟨⟨S, F, R, n, a, ca, xs, b, cb, ys, m, c, cc, us, d, cd, vs⟩, code, rfl, tt, ho, G6.in_of (g := ⟨n, a, ca, xs, b, cb, ys, m, c, cc, us, d, cd, vs⟩) ho k1 k2, hb⟩
def RdtW (p : PV) (w : World) (B : Nat) (a1 : Option Addr) (c1 : Nat) (a2 : Option Addr) (c2 : Nat) (L : List TL) (s : ByteArray) (W : World) (e : Ending) (W' : World) : Prop :=
  ∃ (u : TV) (c : Int), PaT s u c ∧ (∀ b t vs, b ≠ B → t ≠ 48 → Box W b t vs → Box W' b t vs) ∧ ((c ≠ 0 ∧ e = .returned (.bool false) ∧ Below w.heap.size w W') ∨ (c = 0 ∧ e = .returned (.bool true) ∧ ∃ (t : TL) (a' : Option Addr) (ct' : Nat), t.v = u ∧ CpI p w B a1 c1 a2 c2 (L ++ [t]) (L ++ [t]) a' ct' W'))
theorem CpI.add2 {p : PV} {w : World} {B : Nat} {a1 : Option Addr} {c1 : Nat} {a2 : Option Addr} {c2 : Nat} {L : List TL} {u : TL} {a : Option Addr} {ct : Nat} {W V' W' : World} {v' : Value} (h : CpI p w B a1 c1 a2 c2 L (L ++ [u]) a ct W) (o : W'.ownsRow w.heap.size 48 9 v' (L.length + 1) (flatT L ++ u.cells.toList)) (hg : V'.grownBy W' (Value.slice a L.length ct).ownBlock) (hV : V' = W ∨ V' = W.drew) :
    Hid (Box W' B 27 #[.string p.s, .bool p.n, .slice a1 p.xs.length c1, .slice a2 p.ys.length c2, .slice a L.length ct]) ∧ ∃ a' ct', v' = .slice a' (L.length + 1) ct' ∧ ∃ Z, W'.setCell ⟨B, 4, none⟩ v' = Z ∧ Hid (CpI p w B a1 c1 a2 c2 (L ++ [u]) (L ++ [u]) a' ct' Z ∧ ∀ b t vs, b ≠ B → Box W b t vs → t ≠ 48 ∨ (∀ g, (Value.slice a L.length ct).ownBlock = some g → g ≠ b) → Box Z b t vs) := by
  rcases hV with rfl | rfl
  · exact h.add o hg
  · obtain ⟨h1, a', ct', e, Z, hZ, hh⟩ := (h.later (Below.refl _ _).drew).add o hg
    exact ⟨h1, a', ct', e, Z, hZ, hh.out.1, fun b t vs hb g k => hh.out.2 b t vs hb (g.drewN 1) k⟩
set_option maxHeartbeats 3200000 in
set_option maxRecDepth 100000 in
theorem pReadTide_any {p : PV} {w : World} {B : Nat} {a1 : Option Addr} {c1 : Nat} {a2 : Option Addr} {c2 : Nat} {L : List TL} {q : Option Addr} {cq : Nat} {W : World} (hI : CpI p w B a1 c1 a2 c2 L L q cq W) (hL : L.length ≤ 1000000) (s : ByteArray) (hm : s.size ≤ 281474976710656) (htab : Tab W) (herr : ErrT W) : Calls Tryz.prog 44 #[.pointer (some ⟨B, 0, none⟩), .string s] W (RdtW p w B a1 c1 a2 c2 L s W) := by
  obtain ⟨i0, hi0, hz0, hz1, hz2⟩ := info_parts Tryz.infoT
  have HI := hid hI
  have HLL := hid hL
  have HP := hid (ptParse_any s W hm htab herr)
  clear hI htab herr
  go_enter Tryz.func44, Tryz.ntmps44
  go_wp2_with fail
  refine Calls.mono HP.out ?_
  rintro e w1 ⟨u, c, rfl, hu, ou, iu, b1⟩
  obtain ⟨W2, hW2⟩ : ∃ W2, w1.alloc (.cells #[.string u.s, .int .i32 u.f, .int .i32 u.r, .bool u.n, .slice u.a u.xs.length u.ca, .slice u.b u.ys.length u.cb, .bool u.m, .slice u.c u.us.length u.cc, .slice u.d u.vs.length u.cd] 48) = W2 := ⟨_, rfl⟩
  have HOB : Hid (Box W2 w1.heap.size 48 #[.string u.s, .int .i32 u.f, .int .i32 u.r, .bool u.n, .slice u.a u.xs.length u.ca, .slice u.b u.ys.length u.cb, .bool u.m, .slice u.c u.us.length u.cc, .slice u.d u.vs.length u.cd]) := by
    subst hW2
    exact Box.made w1 _ _
  have HB2 : Hid (Below w1.heap.size w1 W2) := by
    subst hW2
    exact alloc_later _ _
  have HU := hid hu
  have HI1 := hid ((HI.out.call b1 ou iu).later HB2.out)
  have HK : Hid (∀ b t vs, Box W b t vs → Box W2 b t vs) := fun b t vs h => h.later (bt b1 HB2.out) h.lt
  have n0 : W2.cell? ⟨w1.heap.size, 0, none⟩ = some (.string u.s) := HOB.out.cell 0
  have n1 : W2.cell? ⟨w1.heap.size, 1, none⟩ = some (.int .i32 u.f) := HOB.out.cell 1
  have n2 : W2.cell? ⟨w1.heap.size, 2, none⟩ = some (.int .i32 u.r) := HOB.out.cell 2
  have n3 : W2.cell? ⟨w1.heap.size, 3, none⟩ = some (.bool u.n) := HOB.out.cell 3
  have n4 : W2.cell? ⟨w1.heap.size, 4, none⟩ = some (.slice u.a u.xs.length u.ca) := HOB.out.cell 4
  have n5 : W2.cell? ⟨w1.heap.size, 5, none⟩ = some (.slice u.b u.ys.length u.cb) := HOB.out.cell 5
  have n6 : W2.cell? ⟨w1.heap.size, 6, none⟩ = some (.bool u.m) := HOB.out.cell 6
  have n7 : W2.cell? ⟨w1.heap.size, 7, none⟩ = some (.slice u.c u.us.length u.cc) := HOB.out.cell 7
  have n8 : W2.cell? ⟨w1.heap.size, 8, none⟩ = some (.slice u.d u.vs.length u.cd) := HOB.out.cell 8
  have hw12 : w1.heap.size < W2.heap.size := HOB.out.lt
  have z1 : W2.cell? ⟨B, 4, none⟩ = some (.slice q L.length cq) := HI1.out.box.cell 4
  clear HI HB2 HP HOB b1 ou iu hu
  by_cases hc0 : c = 0
  · subst hc0
    have HI2 := hid (HI1.out.later (alloc_later W2 (.cells u.cells 48)))
    have z2 : (W2.alloc (.cells #[.string u.s, .int .i32 u.f, .int .i32 u.r, .bool u.n, .slice u.a u.xs.length u.ca, .slice u.b u.ys.length u.cb, .bool u.m, .slice u.c u.us.length u.cc, .slice u.d u.vs.length u.cd] 48)).cell? ⟨B, 4, none⟩ = some (.slice q L.length cq) := HI2.out.box.cell 4
    have HK2 : Hid (∀ b t vs, Box W b t vs → Box (W2.alloc (.cells u.cells 48)) b t vs) := fun b t vs h => (HK.out b t vs h).later (alloc_later _ _) (HK.out b t vs h).lt
    go_wp2_with fail
    clear hW2 hw12
    go_region_law (first
      | (refine step_append_own_at rfl (.tmp 18) (.tmp 20) 25 rfl w.heap.size 48 i0 (.agg #[.string ⟨#[]⟩, .int .i32 0, .int .i32 0, .bool false, .slice none 0 0, .slice none 0 0, .bool false, .slice none 0 0, .slice none 0 0]) 9 136 Tryz.underlying25 hi0 hz0 hz1 hz2 rfl (by decide) (.slice q L.length cq) L.length (flatT L) rfl HI2.out.row ⟨W2.heap.size, 0, none⟩ 1 1 u.cells.toList rfl rfl (qcells_new W2 _ _) u.one (by have := HLL.out; unfold maxLen; omega) (by have := HLL.out; omega) HI2.out.bel.size ?_; intro v1 y1 o1 g1 at1; obtain ⟨HB1, a', ct', rfl, Z, hZ, HZ⟩ := HI2.out.add2 o1 g1 (by first | exact Or.inr rfl | exact Or.inl rfl); have z3 : y1.cell? ⟨B, 4, none⟩ = some (.slice q L.length cq) := HB1.out.cell 4; have z5 : y1.frozen? ⟨B, 4, none⟩ = false := HB1.out.free 4))
    all_goals
      clear z1 z2 z3 z5 n0 n1 n2 n3 n4 n5 n6 n7 n8 HI1 HI2
      go_wp2_with fail
      go_ret
      unfold RdtW
      exact ⟨u.v, 0, HU.out, fun b t vs hb ht h => HZ.out.2 b t vs hb (HK2.out b t vs h) (.inl ht), .inr ⟨rfl, rfl, u, a', ct', rfl, HZ.out.1⟩⟩
  · have h0' : (c == 0) = false := by simp [hc0]
    have h0'' : (c != 0) = true := by simp [hc0]
    have HCN := hid hc0
    have HBW := hid HI1.out.bel
    clear hc0 HI1 z1
    go_wp2_with fail
    go_ret
    unfold RdtW
    exact ⟨u.v, c, HU.out, fun b t vs hb ht h => HK.out b t vs h, .inl ⟨HCN.out, rfl, HBW.out⟩⟩
theorem pcut_any (s : ByteArray) (w : World) (hs : s.size ≤ 65536) : Calls Tryz.prog 42 #[.string s, .string ⟨#[32]⟩] w fun e w' => ∃ (a r : ByteArray) (b : Bool), e = .returned (.tuple #[.string a, .string r, .bool b]) ∧ a.data.toList = tword s.data.toList ∧ r.data.toList = trest s.data.toList ∧ a.size ≤ 65536 ∧ r.size ≤ 65536 ∧ Below w.heap.size w w' := by
  refine Calls.mono (zcut_any s 32 w (by omega)) ?_
  rintro e w' ⟨rfl, hb⟩
  have h := zcut_len s.data.toList 32
  have hl : s.data.toList.length = s.size := Array.length_toList
  refine ⟨_, _, _, rfl, rfl, rfl, ?_, ?_, hb⟩
  · show (Lib.cut s.data.toList [32]).1.toArray.size ≤ _
    rw [List.size_toArray]; omega
  · show (Lib.cut s.data.toList [32]).2.1.toArray.size ≤ _
    rw [List.size_toArray]; omega
theorem pchain4 {W : World} {b t : Nat} {u0 u1 u2 u3 u4 : Value} (h : Box W b t #[u0, u1, u2, u3, u4]) (v0 v1 v2 v3 : Value) : ∃ A0 A1 A2 A3, W.setCell ⟨b, 0, none⟩ v0 = A0 ∧ A0.setCell ⟨b, 1, none⟩ v1 = A1 ∧ A1.setCell ⟨b, 2, none⟩ v2 = A2 ∧ A2.setCell ⟨b, 3, none⟩ v3 = A3 ∧ (W.cell? ⟨b, 0, none⟩ = some u0 ∧ A0.cell? ⟨b, 1, none⟩ = some u1 ∧ A1.cell? ⟨b, 2, none⟩ = some u2 ∧ A2.cell? ⟨b, 3, none⟩ = some u3) ∧ (W.frozen? ⟨b, 0, none⟩ = false ∧ A0.frozen? ⟨b, 1, none⟩ = false ∧ A1.frozen? ⟨b, 2, none⟩ = false ∧ A2.frozen? ⟨b, 3, none⟩ = false) ∧
    Hid (Box A3 b t #[v0, v1, v2, v3, u4] ∧ (∀ p t' vs, p ≠ b → Box W p t' vs → Box A3 p t' vs) ∧ (∀ base e s v n xs, e ≠ t → W.ownsRow base e s v n xs → A3.ownsRow base e s v n xs) ∧ (∀ B x, B ≤ b → Below B x W → Below B x A3) ∧ A3.heap.size = W.heap.size) := by
  have h0 : Box _ b t #[v0, u1, u2, u3, u4] := h.set 0 v0
  have h1 : Box _ b t #[v0, v1, u2, u3, u4] := h0.set 1 v1
  have h2 : Box _ b t #[v0, v1, v2, u3, u4] := h1.set 2 v2
  have h3 : Box _ b t #[v0, v1, v2, v3, u4] := h2.set 3 v3
  exact ⟨_, _, _, _, rfl, rfl, rfl, rfl, ⟨h.cell 0, h0.cell 1, h1.cell 2, h2.cell 3⟩, ⟨h.free 0, h0.free 1, h1.free 2, h2.free 3⟩, h3, fun p t' vs hne g => ((((g.other ⟨b, 0, none⟩ v0 hne).other ⟨b, 1, none⟩ v1 hne).other ⟨b, 2, none⟩ v2 hne).other ⟨b, 3, none⟩ v3 hne), fun base e s v n xs ht g => (by have kk := qown_box g h ht; exact (qown_put (qown_put (qown_put (qown_put g _ kk 0 v0) _ kk 1 v1) _ kk 2 v2) _ kk 3 v3)), fun B x hB g => ((((g.setCell (p := ⟨b, 0, none⟩) hB v0).setCell (p := ⟨b, 1, none⟩) hB v1).setCell (p := ⟨b, 2, none⟩) hB v2).setCell (p := ⟨b, 3, none⟩) hB v3), by simp [World.setCell]⟩
def hdGood (s : ByteArray) (code : Int) : Prop := tword s.data.toList = [112, 111, 114, 116] ∧ tname (tword (trest s.data.toList)) = true ∧ code = 0
def RdhW (w : World) (B : Nat) (s : ByteArray) (W : World) (e : Ending) (W' : World) : Prop :=
  ∃ (n : Bool) (xs ys : List Int) (code : Int), RTells (prErr ⟨(trest (trest s.data.toList)).toArray⟩) (rpq (trest (trest s.data.toList))) n xs ys code ∧ (∀ b t vs, b ≠ B → Box W b t vs → Box W' b t vs) ∧ ((¬ hdGood s code ∧ e = .returned (.bool false) ∧ Below w.heap.size w W') ∨ (hdGood s code ∧ e = .returned (.bool true) ∧ ∃ (nm : ByteArray) (a1 a2 : Option Addr) (c1 c2 : Nat), nm.data.toList = tword (trest s.data.toList) ∧ CpI ⟨nm, n, xs, ys, []⟩ w B a1 c1 a2 c2 [] [] none 0 W'))
set_option maxHeartbeats 3200000 in
set_option maxRecDepth 100000 in
theorem pReadHead_any (w : World) (B : Nat) (s : ByteArray) (hs : s.size ≤ 65536) (W : World) (hW : Below w.heap.size w W) (hB : w.heap.size + 1 < B) (hb : Box W B 27 #[.string ⟨#[]⟩, .bool false, .slice none 0 0, .slice none 0 0, .slice none 0 0]) : Calls Tryz.prog 43 #[.pointer (some ⟨B, 0, none⟩), .string s] W (RdhW w B s W) := by
  have HB := hid hb
  have HWW := hid hW
  have HLO := hid hB
  have HC1 := hid (pcut_any s W hs)
  clear hb hW hB
  go_enter Tryz.func43, Tryz.ntmps43
  go_wp2_with fail
  refine Calls.mono HC1.out ?_
  rintro e w1 ⟨s1, s2, f1, rfl, h1, h2, _, hs2, b1⟩
  have HC2 := hid (pcut_any s2 w1 hs2)
  go_wp2_with fail
  refine Calls.mono HC2.out ?_
  rintro e w2 ⟨s3, s4, f2, rfl, h3, h4, hs3, hs4, b2⟩
  have HC3 := hid (rparse_any s4 w2 hs4)
  go_wp2_with fail
  refine Calls.mono HC3.out ?_
  rintro e w3 ⟨n, v, xs, u, ys, code, rfl, ov, ou, ht, b3, k3⟩
  obtain ⟨av, cv, rfl⟩ := own_slice' ov
  obtain ⟨au, cu, rfl⟩ := own_slice' ou
  have HT : Hid (RTells (prErr ⟨(trest (trest s.data.toList)).toArray⟩) (rpq (trest (trest s.data.toList))) n xs ys code) := by
    have e4 : s4.data.toList = trest (trest s.data.toList) := by rw [h4, h2]
    have e5 : (⟨(trest (trest s.data.toList)).toArray⟩ : ByteArray) = s4 := ByteArray.ext (by rw [← e4])
    rw [e5, ← e4]
    exact ht
  have HNM : Hid (s3.data.toList = tword (trest s.data.toList)) := by show _ = _; rw [h3, h2]
  have HFS : Hid (s1.toList = [112, 111, 114, 116] ↔ tword s.data.toList = [112, 111, 114, 116]) := by
    show _ ↔ _
    rw [← h1, ByteArray.toList_eq]
  have HO1 := hid ov
  have HO2 := hid ou
  have HK3 := hid k3
  have HV2 := hid (bt HWW.out (bt b1 b2))
  have HB3 := hid b3
  have HNE : Hid (w3.heap.size ≠ B) := by
    have h1 := (bt b1 (bt b2 b3)).size
    have h2 := HB.out.lt
    show _ ≠ _
    omega
  have HS3 := hid hs3
  obtain ⟨W4, hW4⟩ : ∃ W4, w3.alloc (.cells #[.bool n, .slice av xs.length cv, .slice au ys.length cu] 24) = W4 := ⟨_, rfl⟩
  have HM4 : Hid (Box W4 w3.heap.size 24 #[.bool n, .slice av xs.length cv, .slice au ys.length cu]) := by
    subst hW4
    exact Box.made w3 _ _
  have HB4 : Hid (Below w3.heap.size w3 W4) := by
    subst hW4
    exact alloc_later _ _
  have HBK : Hid (∀ b t vs, Box W b t vs → Box W4 b t vs) := fun b t vs h => h.later (bt b1 (bt b2 (bt b3 HB4.out))) h.lt
  have HBW := hid (bt HWW.out (bt b1 (bt b2 (bt b3 HB4.out))))
  have HN := hid (tName_any s3 W4 (by omega))
  clear HC1 HC2 HC3 h1 h2 h3 h4 ov ou ht k3 b1 b2 b3 hs2 hs3 hs4
  by_cases hf : s1.toList = [112, 111, 114, 116]
  · have hf' : (s1.toList == [112, 111, 114, 116]) = true := by rw [hf]; rfl
    have HF := hid (HFS.out.1 hf)
    clear hf
    go_wp2_with fail
    refine Calls.mono HN.out ?_
    rintro e w5 ⟨rfl, rfl⟩
    cases hn : tname s3.data.toList with
    | false =>
      have HNF := hid hn
      clear hn hf'
      go_wp2_with fail
      go_ret
      unfold RdhW
      exact ⟨n, xs, ys, code, HT.out, fun b t vs _ h => HBK.out b t vs h, .inl ⟨fun h => (by have := h.2.1; rw [← HNM.out, HNF.out] at this; cases this), rfl, HBW.out⟩⟩
    | true =>
      have HNF := hid hn
      clear hn
      by_cases hc0 : code = 0
      · subst hc0
        have m0 : W4.cell? ⟨w3.heap.size, 0, none⟩ = some (.bool n) := HM4.out.cell 0
        have m1 : W4.cell? ⟨w3.heap.size, 1, none⟩ = some (.slice av xs.length cv) := HM4.out.cell 1
        have m2 : W4.cell? ⟨w3.heap.size, 2, none⟩ = some (.slice au ys.length cu) := HM4.out.cell 2
        have HCL := hid (fun V : World => tclone_any s3 V (by have := HS3.out; omega))
        clear hf'
        go_wp2_with fail
        clear hW4
        go_region_law (first
          | (go_simp; go_at_call 69; (with_reducible refine Calls.mono (HCL.out _) ?_); rintro e w6 ⟨rfl, b6'⟩; have b6 : Below W4.heap.size W4 w6 := (by first | exact b6' | exact bt ((Below.refl W4.heap.size W4).drew) b6'); clear b6'; have HB6 := hid ((HBK.out B _ _ HB.out).later b6 (HBK.out B _ _ HB.out).lt); obtain ⟨A0, A1, A2, A3, q0, q1, q2, q3, ⟨r0, r1, r2, r3⟩, ⟨f0, f1, f2, f3⟩, HA⟩ := pchain4 HB6.out (.string s3) (.bool n) (.slice av xs.length cv) (.slice au ys.length cu); have HM6 := hid (HM4.out.later b6 HM4.out.lt); have n0 : w6.cell? ⟨w3.heap.size, 0, none⟩ = some (.bool n) := HM6.out.cell 0; have n1 : w6.cell? ⟨w3.heap.size, 1, none⟩ = some (.slice av xs.length cv) := HM6.out.cell 1; have n2 : w6.cell? ⟨w3.heap.size, 2, none⟩ = some (.slice au ys.length cu) := HM6.out.cell 2; have HMA : Hid (Box A0 w3.heap.size 24 #[.bool n, .slice av xs.length cv, .slice au ys.length cu]) := (by rw [← q0]; exact HM6.out.other ⟨B, 0, none⟩ (.string s3) HNE.out); have k0 : A0.cell? ⟨w3.heap.size, 0, none⟩ = some (.bool n) := HMA.out.cell 0; have k1 : A0.cell? ⟨w3.heap.size, 1, none⟩ = some (.slice av xs.length cv) := HMA.out.cell 1; have k2 : A0.cell? ⟨w3.heap.size, 2, none⟩ = some (.slice au ys.length cu) := HMA.out.cell 2; have HL6 := hid b6; dsimp only))
        all_goals
          have HCP := hid (CpI.start (p := ⟨s3, n, xs, ys, []⟩) HV2.out HO1.out HO2.out HB3.out HK3.out (bt HB4.out HL6.out) HA.out HLO.out)
          have HKB : Hid (∀ b t vs, b ≠ B → Box W b t vs → Box A3 b t vs) := fun b t vs hne h => HA.out.2.1 b t vs hne ((HBK.out b t vs h).later HL6.out (HBK.out b t vs h).lt)
          clear n0 n1 n2 k0 k1 k2 HMA m0 m1 m2 r0 r1 r2 r3 f0 f1 f2 f3 HM6 HB6 HA
          go_wp2_with fail
          go_ret
          unfold RdhW
          exact ⟨n, xs, ys, 0, HT.out, HKB.out, .inr ⟨⟨HF.out, by rw [← HNM.out]; exact HNF.out, rfl⟩, rfl, s3, _, _, _, _, HNM.out, HCP.out⟩⟩
      · have h0' : (code == 0) = false := by simp [hc0]
        have h0'' : (code != 0) = true := by simp [hc0]
        have HCN := hid hc0
        clear hc0 hf'
        go_wp2_with fail
        go_ret
        unfold RdhW
        exact ⟨n, xs, ys, code, HT.out, fun b t vs _ h => HBK.out b t vs h, .inl ⟨fun h => HCN.out h.2.2, rfl, HBW.out⟩⟩
  · have hf' : (s1.toList == [112, 111, 114, 116]) = false := by simp [hf]
    have HF := hid (fun h => hf (HFS.out.2 h))
    clear hf
    go_wp2_with fail
    go_ret
    unfold RdhW
    exact ⟨n, xs, ys, code, HT.out, fun b t vs _ h => HBK.out b t vs h, .inl ⟨fun h => HF.out h.1, rfl, HBW.out⟩⟩
def lline (l : List UInt8) : List UInt8 := (Lib.cut l [10]).1
def lrest (l : List UInt8) : List UInt8 := (Lib.cut l [10]).2.1
def lend (l : List UInt8) : Bool := (Lib.cut l [10]).2.2
def TdS : List UInt8 → List TV → List UInt8 → Prop
  | l, [], r => r = l
  | l, u :: us, r => l ≠ [] ∧ lend l = true ∧ PaT ⟨(lline l).toArray⟩ u 0 ∧ TdS (lrest l) us r
theorem TdS.snoc {u : TV} {r : List UInt8} (h0 : r ≠ []) (h1 : lend r = true) (h2 : PaT ⟨(lline r).toArray⟩ u 0) : ∀ {us : List TV} {l : List UInt8}, TdS l us r → TdS l (us ++ [u]) (lrest r)
  | [], l, h => by
    obtain rfl : r = l := h
    exact ⟨h0, h1, h2, rfl⟩
  | v :: us, l, h => ⟨h.1, h.2.1, h.2.2.1, TdS.snoc h0 h1 h2 h.2.2.2⟩
end Go.Proofs.YthaggppcbaeokaaGreatDoor
namespace Go.Proofs.YthaggppcbaeokaaGreatDoor
open Go.RowKit Go.Lib
set_option linter.unusedVariables false
set_option linter.unusedSimpArgs false
theorem prErr_is0 {s : ByteArray} (h : prErr s = 0) : rgood s.data.toList := by
  rcases Nat.lt_or_ge 65536 s.size with g | g
  · rw [prErr_long g] at h; exact absurd h (by decide)
  · exact Classical.byContradiction fun hn => by
      rw [prErr_bad g hn] at h
      exact absurd h (by decide)
theorem prErr_of {n : Bool} {xs ys : List Int} (wx : Wd xs) (wy : Wd ys) (h : rchk n xs ys = 0) {T : ByteArray} (hT : T.data.toList = rtext n xs ys) (hs : T.size ≤ 65536) : prErr T = 0 := prErr_good hs (by rw [hT]; exact rgood_text wx wy (zform2 h))
theorem lcut_eq (l : List UInt8) : cut (10 :: l) [10] = ([], l, true) := by
  unfold cut
  rw [index_one, indexByte]
  simp
theorem lcut_ne (c : UInt8) (l : List UInt8) (h : c ≠ 10) : cut (c :: l) [10] = (c :: (cut l [10]).1, (cut l [10]).2.1, (cut l [10]).2.2) := by
  have hb : (c == 10) = false := by simpa using h
  unfold cut
  rw [index_one, index_one, indexByte, hb]
  by_cases hi : indexByte l 10 = -1
  · rw [hi]
    simp
  · have h0 : 0 ≤ indexByte l 10 := by
      have := index_ge l [10]
      rw [index_one] at this
      omega
    have h1 : (indexByte l 10 == -1) = false := by simpa using hi
    rw [h1]
    simp only [Bool.false_eq_true, if_false]
    rw [if_pos (by omega), if_pos h0]
    have e : (indexByte l 10 + 1).toNat = (indexByte l 10).toNat + 1 := by omega
    rw [e]
    simp
theorem lcut_split : ∀ (a b : List UInt8), (∀ x ∈ a, x ≠ 10) → cut (a ++ 10 :: b) [10] = (a, b, true)
  | [], b, _ => lcut_eq b
  | c :: a, b, h => by
    show cut (c :: (a ++ 10 :: b)) [10] = _
    rw [lcut_ne c _ (h c (by simp)), lcut_split a b (fun x hx => h x (by simp [hx]))]
theorem lcut_nil : cut ([] : List UInt8) [10] = ([], [], false) := by decide
theorem lcut_parts : ∀ l : List UInt8, (cut l [10]).2.2 = true → l = (cut l [10]).1 ++ 10 :: (cut l [10]).2.1
  | [] => by rw [lcut_nil]; intro h; cases h
  | c :: l => by
    by_cases h : c = 10
    · subst h; rw [lcut_eq]; intro _; rfl
    · rw [lcut_ne c l h]
      intro h1
      show c :: l = c :: ((cut l [10]).1 ++ 10 :: (cut l [10]).2.1)
      rw [← lcut_parts l h1]
theorem lend_parts {l : List UInt8} (h : lend l = true) : l = lline l ++ 10 :: lrest l := lcut_parts l h
theorem lrest_short {l : List UInt8} (h : lend l = true) : (lrest l).length < l.length := by
  have e := congrArg List.length (lend_parts h)
  rw [List.length_append, List.length_cons] at e
  omega
theorem lsplit {a b : List UInt8} (h : ∀ x ∈ a, x ≠ 10) : lline (a ++ 10 :: b) = a ∧ lrest (a ++ 10 :: b) = b ∧ lend (a ++ 10 :: b) = true := by
  unfold lline lrest lend
  rw [lcut_split a b h]
  exact ⟨rfl, rfl, rfl⟩
theorem tname_nl {l : List UInt8} (h : tname l = true) : ∀ x ∈ l, x ≠ 10 := by
  unfold tname at h
  rw [Bool.and_eq_true, List.all_eq_true] at h
  intro x hx e
  have := h.2 x hx
  rw [e] at this
  exact absurd this (by decide)
theorem itoa_nl (v : Int) : ∀ x ∈ itoa v, x ≠ 10 := by
  intro x hx e
  unfold itoa at hx
  split at hx
  · rcases List.mem_cons.1 hx with hx | hx
    · rw [e] at hx; exact absurd hx (by decide)
    · have := (zdec_all v.natAbs).1 x hx
      rw [e] at this; exact absurd this (by decide)
  · have := (zdec_all v.toNat).1 x hx
    rw [e] at this; exact absurd this (by decide)
theorem rtext_nl (n : Bool) (xs ys : List Int) : ∀ x ∈ rtext n xs ys, x ≠ 10 := by
  have hd : ∀ k : Nat, ∀ x ∈ decDigits k, x ≠ 10 := fun k x hx e => by
    have := (zdec_all k).1 x hx
    rw [e] at this; exact absurd this (by decide)
  rw [rtext_eq]
  intro x hx
  rcases List.mem_append.1 hx with hx | hx
  · cases n with
    | false => simp at hx
    | true => simp at hx; rw [hx]; decide
  · rcases List.mem_append.1 hx with hx | hx
    · exact hd _ x hx
    · split at hx
      · simp at hx
      · rcases List.mem_cons.1 hx with hx | hx
        · rw [hx]; decide
        · exact hd _ x hx
theorem nl_app {a b : List UInt8} (ha : ∀ x ∈ a, x ≠ 10) (hb : ∀ x ∈ b, x ≠ 10) : ∀ x ∈ a ++ b, x ≠ 10 := fun x hx => (List.mem_append.1 hx).elim (ha x) (hb x)
theorem nl_blank {b : List UInt8} (hb : ∀ x ∈ b, x ≠ 10) : ∀ x ∈ 32 :: b, x ≠ 10 := fun x hx => by
  rcases List.mem_cons.1 hx with rfl | h
  · decide
  · exact hb x h
def TV.txt (t : TV) : List UInt8 := ttext t.s.data.toList t.f t.r (gtext t.n t.xs t.ys t.m t.us t.vs)
theorem TV.line_eq (t : TV) (b : List UInt8) : t.line ++ b = t.txt ++ 10 :: b := by
  unfold TV.line TV.txt
  rw [List.append_assoc]; rfl
theorem TV.txt_nl {t : TV} (h : t.chk = 0) : ∀ x ∈ t.txt, x ≠ 10 := by
  have hn := (tchk_ok h).1
  unfold TV.txt ttext gtext
  exact nl_app (tname_nl hn) (nl_blank (nl_app (itoa_nl _) (nl_blank (nl_app (itoa_nl _) (nl_blank (nl_app (rtext_nl _ _ _) (nl_blank (rtext_nl _ _ _))))))))
theorem bytes_list (l : List UInt8) : (⟨l.toArray⟩ : ByteArray).data.toList = l := by simp
theorem bytes_size (l : List UInt8) : (⟨l.toArray⟩ : ByteArray).size = l.length := by show l.toArray.size = _; simp
theorem pat_text {t u : TV} {c : Int} (hk : t.chk = 0) (ho : t.ok) (hl : t.txt.length ≤ 65536) (h : PaT ⟨t.txt.toArray⟩ u c) : c = 0 ∧ u = t := by
  obtain ⟨_, _, wx, wy, wu, wv⟩ := ho
  obtain ⟨hn, hoc, hg⟩ := tchk_ok hk
  obtain ⟨g1, g2⟩ := gchk_ok hg
  obtain ⟨b1, b2⟩ := trok_in (trok hoc)
  obtain ⟨p1, p2, p3, p4, p5, p6, p7⟩ := tprint_read hn b1 b2 wx wy wu wv g1 g2
  have e0 := bytes_list t.txt
  have hs : (⟨t.txt.toArray⟩ : ByteArray).size ≤ 65536 := by rw [bytes_size]; exact hl
  have hE : tpE ⟨t.txt.toArray⟩ = 0 := by
    rw [tpE_good hs (by rw [e0]; exact p7), e0]
    unfold TV.txt
    rw [p2, p3]
    exact hoc
  unfold PaT at h
  rw [hE, e0] at h
  unfold TV.txt at h
  rw [p1, p2, p3, p4, p5, p6, rpq_text t.n wx wy, rpq_text t.m wu wv] at h
  have hL : ¬ gplong (gtext t.n t.xs t.ys t.m t.us t.vs) := by
    unfold gplong
    rw [p5, p6, rpq_text t.n wx wy, rpq_text t.m wu wv]
    rintro (h | h)
    · exact znotlong wx wy g1 h
    · exact znotlong wu wv g2 h
  obtain ⟨hc, k1, k2⟩ := h.num.good rfl hL
  obtain ⟨e1, e2, e3⟩ := h.good hc
  refine ⟨hc, TV.Is.one (q1 := t.q1) (q2 := t.q2) ⟨k1, k2, h.num.wd.1, h.num.wd.2.1, h.num.wd.2.2.1, h.num.wd.2.2.2⟩ (TV.chk_is hk wx wy wu wv) (nmEq'.1 e1) e2 e3⟩
theorem pat_read {l : List UInt8} {u : TV} (hl : l.length ≤ 65536) (h : PaT ⟨l.toArray⟩ u 0) : u.chk = 0 ∧ u.txt = l ∧ u.ok := by
  have e0 := bytes_list l
  have hz : (⟨l.toArray⟩ : ByteArray).size ≤ 65536 := by rw [bytes_size]; exact hl
  unfold PaT at h
  have hE : tpE ⟨l.toArray⟩ = 0 := Classical.byContradiction fun hn => hn ((h.num.bad hn).2).symm
  have hL : ¬ gplong (trest (trest (trest (⟨l.toArray⟩ : ByteArray).data.toList))) := fun hl => absurd ((h.num.long hE hl).2) (by decide)
  have hgd : tgood (⟨l.toArray⟩ : ByteArray).data.toList := Classical.byContradiction fun hn => by
    rw [tpE_bad hz hn] at hE; exact absurd hE (by decide)
  have ho : ochk (tnumV (tword (trest (⟨l.toArray⟩ : ByteArray).data.toList))) (tnumV (tword (trest (trest (⟨l.toArray⟩ : ByteArray).data.toList)))) = 0 := by rw [← tpE_good hz hgd]; exact hE
  obtain ⟨_, ⟨k1, g1⟩, k2, g2⟩ := h.num.good hE hL
  obtain ⟨e1, e2, e3⟩ := h.good rfl
  rw [e0] at hgd ho g1 g2 e1 e2 e3
  have hn : tname u.s.data.toList = true := by rw [e1]; exact hgd.1
  refine ⟨?_, ?_, ?_⟩
  · unfold TV.chk
    rw [tchk_rest _ _ _ hn, e2, e3, ho, fstE_zero]
    unfold gchk
    rw [k1, fstE_zero, k2]
  · unfold TV.txt
    rw [e1, e2, e3]
    exact tread_text hgd h.num.wd.1 h.num.wd.2.1 h.num.wd.2.2.1 h.num.wd.2.2.2 k1 g1 k2 g2
  · obtain ⟨b1, b2⟩ := trok_in (trok ho)
    refine ⟨?_, by rw [e2, e3]; exact ⟨by omega, by omega⟩, h.num.wd.1, h.num.wd.2.1, h.num.wd.2.2.1, h.num.wd.2.2.2⟩
    have h1 := (tname_ok hn).2
    have h2 : u.s.data.toList.length = u.s.size := Array.length_toList
    unfold maxLen
    omega
theorem line_len {t : TV} {ts : List TV} (h : t ∈ ts) : t.txt.length ≤ (ts.flatMap TV.line).length := by
  induction ts with
  | nil => cases h
  | cons v ts ih =>
    rw [List.flatMap_cons, List.length_append]
    have e : v.line.length = v.txt.length + 1 := by
      show (v.txt ++ [10]).length = _
      rw [List.length_append]; rfl
    rcases List.mem_cons.1 h with rfl | h
    · omega
    · have := ih h
      omega
theorem tds_part : ∀ {us ts : List TV} {r : List UInt8}, (∀ t ∈ ts, t.chk = 0 ∧ t.ok ∧ t.txt.length ≤ 65536) → TdS (ts.flatMap TV.line) us r → ∃ rs, ts = us ++ rs ∧ r = rs.flatMap TV.line
  | [], ts, r, _, h => ⟨ts, rfl, h⟩
  | u :: us, [], r, _, h => absurd rfl h.1
  | u :: us, t :: ts, r, hg, h => by
    obtain ⟨_, _, h3, h4⟩ := h
    obtain ⟨k1, k2, k3⟩ := hg t (List.mem_cons_self ..)
    rw [List.flatMap_cons, t.line_eq] at h3 h4
    obtain ⟨s1, s2, _⟩ := lsplit (b := ts.flatMap TV.line) (TV.txt_nl k1)
    rw [s1] at h3
    rw [s2] at h4
    obtain ⟨_, rfl⟩ := pat_text k1 k2 k3 h3
    obtain ⟨rs, e1, e2⟩ := tds_part (fun x hx => hg x (List.mem_cons_of_mem _ hx)) h4
    exact ⟨rs, by rw [e1]; rfl, e2⟩
theorem tds_read : ∀ {us : List TV} {l r : List UInt8}, l.length ≤ 65536 → TdS l us r → (∀ u ∈ us, u.chk = 0 ∧ u.ok) ∧ l = us.flatMap TV.line ++ r
  | [], l, r, _, h => ⟨fun u hu => absurd hu (by simp), h.symm⟩
  | u :: us, l, r, hl, h => by
    obtain ⟨_, h2, h3, h4⟩ := h
    have e := lend_parts h2
    have el := congrArg List.length e
    rw [List.length_append, List.length_cons] at el
    obtain ⟨k1, k2, k3⟩ := pat_read (by omega) h3
    obtain ⟨g1, g2⟩ := tds_read (by omega) h4
    refine ⟨fun x hx => ?_, ?_⟩
    · rcases List.mem_cons.1 hx with rfl | hx
      · exact ⟨k1, k3⟩
      · exact g1 x hx
    · rw [List.flatMap_cons, List.append_assoc, u.line_eq, ← g2, k2]
      exact e
def LnsT (l : List UInt8) (v : PV) (c z : Int) : Prop :=
  (c = 0 ∧ z = 0 ∧ RTells (prErr ⟨(trest (trest (lline l))).toArray⟩) (rpq (trest (trest (lline l)))) v.n v.xs v.ys 0 ∧ hdGood ⟨(lline l).toArray⟩ 0 ∧ lend l = true ∧ TdS (lrest l) v.ts [] ∧ v.s.data.toList = tword (trest (lline l))) ∨
  (c = 240 ∧ v = PV.zero ∧ ((z = 0 ∧ (lend l = false ∨ ∃ n xs ys code, RTells (prErr ⟨(trest (trest (lline l))).toArray⟩) (rpq (trest (trest (lline l)))) n xs ys code ∧ ¬ hdGood ⟨(lline l).toArray⟩ code)) ∨ ∃ us r n xs ys, RTells (prErr ⟨(trest (trest (lline l))).toArray⟩) (rpq (trest (trest (lline l)))) n xs ys 0 ∧ hdGood ⟨(lline l).toArray⟩ 0 ∧ lend l = true ∧ TdS (lrest l) us r ∧ r ≠ [] ∧ z = (us.length : Int) + 1 ∧ (lend r = false ∨ ∃ (u : TV) (c' : Int), PaT ⟨(lline r).toArray⟩ u c' ∧ c' ≠ 0)))
theorem hdGood_iff {l : List UInt8} {code : Int} : hdGood ⟨l.toArray⟩ code ↔ tword l = [112, 111, 114, 116] ∧ tname (tword (trest l)) = true ∧ code = 0 := by
  unfold hdGood
  rw [bytes_list]
def PV.hd0 (v : PV) : List UInt8 := [112, 111, 114, 116] ++ 32 :: (v.s.data.toList ++ 32 :: rtext v.n v.xs v.ys)
theorem PV.head_eq (v : PV) (b : List UInt8) : v.head ++ b = v.hd0 ++ 10 :: b := by
  unfold PV.head PV.hd0
  simp
theorem lns_text {v u : PV} {c z : Int} (hg : v.Good) (wx : Wd v.xs) (wy : Wd v.ys) (ho : ∀ t ∈ v.ts, t.ok) (hl : v.text.length ≤ 65536) (h : LnsT v.text u c z) : c = 0 ∧ z = 0 ∧ u = v := by
  have n1 : ∀ x ∈ v.hd0, x ≠ 10 := by
    unfold PV.hd0
    exact nl_app (by intro x hx; simp at hx; rcases hx with rfl | rfl | rfl | rfl <;> decide) (nl_blank (nl_app (tname_nl hg.nm) (nl_blank (rtext_nl _ _ _))))
  have et : v.text = v.hd0 ++ 10 :: v.ts.flatMap TV.line := v.head_eq _
  obtain ⟨s1, s2, s3⟩ := lsplit (b := v.ts.flatMap TV.line) n1
  rw [← et] at s1 s2 s3
  have lt := congrArg List.length et
  rw [List.length_append, List.length_cons] at lt
  have c1 : cut v.hd0 [32] = ([112, 111, 114, 116], v.s.data.toList ++ 32 :: rtext v.n v.xs v.ys, true) := tcut_split _ _ (by intro x hx; simp at hx; rcases hx with rfl | rfl | rfl | rfl <;> decide)
  have c2 : cut (v.s.data.toList ++ 32 :: rtext v.n v.xs v.ys) [32] = (v.s.data.toList, rtext v.n v.xs v.ys, true) := tcut_split _ _ (tname_bytes hg.nm)
  have e1 : tword v.hd0 = [112, 111, 114, 116] := by unfold tword; rw [c1]
  have e2 : trest v.hd0 = v.s.data.toList ++ 32 :: rtext v.n v.xs v.ys := by unfold trest; rw [c1]
  have e3 : tword (v.s.data.toList ++ 32 :: rtext v.n v.xs v.ys) = v.s.data.toList := by unfold tword; rw [c2]
  have e4 : trest (v.s.data.toList ++ 32 :: rtext v.n v.xs v.ys) = rtext v.n v.xs v.ys := by unfold trest; rw [c2]
  have p0 : prErr ⟨(rtext v.n v.xs v.ys).toArray⟩ = 0 := prErr_of wx wy hg.mean (bytes_list _) (by
    rw [bytes_size]
    have e : v.hd0.length = 4 + (v.s.data.toList.length + ((rtext v.n v.xs v.ys).length + 1) + 1) := by
      unfold PV.hd0
      simp only [List.length_append, List.length_cons, List.length_nil]
    omega)
  have HT : ∀ {n xs ys code}, RTells (prErr ⟨(trest (trest (lline v.text))).toArray⟩) (rpq (trest (trest (lline v.text)))) n xs ys code → n = v.n ∧ xs = v.xs ∧ ys = v.ys ∧ code = 0 := fun ht => by
    rw [s1, e2, e4, p0, rpq_text v.n wx wy] at ht
    exact ht.same (RTells.self wx wy hg.mean)
  have hG : hdGood ⟨(lline v.text).toArray⟩ 0 := by
    rw [hdGood_iff, s1, e1, e2, e3]
    exact ⟨rfl, hg.nm, rfl⟩
  have hts : ∀ t ∈ v.ts, t.chk = 0 ∧ t.ok ∧ t.txt.length ≤ 65536 := fun t ht => by
    refine ⟨?_, ho t ht, ?_⟩
    · obtain ⟨j, hj⟩ := List.mem_iff_getElem?.1 ht
      have := hg.chk j (List.getElem?_eq_some_iff.1 hj).1
      rw [vT_of hj] at this
      exact this
    · have := line_len ht
      omega
  rcases h with ⟨hc, hz, ht, _, _, h3, h4⟩ | ⟨_, _, h3⟩
  · obtain ⟨h5, h6, h7, _⟩ := HT ht
    refine ⟨hc, hz, ?_⟩
    rw [s2] at h3
    obtain ⟨rs, r1, r2⟩ := tds_part hts h3
    have r3 : rs = [] := by
      cases rs with
      | nil => rfl
      | cons a b =>
        rw [List.flatMap_cons, a.line_eq] at r2
        exact absurd r2.symm (by simp)
    rw [r3, List.append_nil] at r1
    rw [s1, e2, e3] at h4
    have a1 := nmEq'.1 h4
    cases u; cases v
    simp only at h5 h6 h7 a1 r1
    subst h5 h6 h7 a1 r1
    rfl
  · exfalso
    rcases h3 with ⟨_, hn | ⟨n, xs, ys, code, ht, hn⟩⟩ | ⟨us, r, _, _, _, _, _, _, h6, h7, _, h8⟩
    · rw [s3] at hn; cases hn
    · obtain ⟨_, _, _, rfl⟩ := HT ht
      exact hn hG
    · rw [s2] at h6
      obtain ⟨rs, r1, r2⟩ := tds_part hts h6
      cases rs with
      | nil => exact h7 r2
      | cons a b =>
        rw [List.flatMap_cons, a.line_eq] at r2
        obtain ⟨k1, k2, k3⟩ := hts a (by rw [r1]; simp)
        obtain ⟨t1, _, t3⟩ := lsplit (b := b.flatMap TV.line) (TV.txt_nl k1)
        rw [← r2] at t1 t3
        rcases h8 with h8 | ⟨u', c', h8, h9⟩
        · rw [t3] at h8; cases h8
        · rw [t1] at h8
          exact h9 (pat_text k1 k2 k3 h8).1
theorem lns_read {l : List UInt8} {v : PV} {z : Int} (hl : l.length ≤ 65536) (h : LnsT l v 0 z) : v.text = l ∧ Wd v.xs ∧ Wd v.ys ∧ ∀ t ∈ v.ts, t.ok := by
  rcases h with ⟨_, _, ht, hG, he, h3, h4⟩ | ⟨hc, _⟩
  · obtain ⟨g1, g2, _⟩ := hdGood_iff.1 hG
    have e := lend_parts he
    have el := congrArg List.length e
    rw [List.length_append, List.length_cons] at el
    obtain ⟨k1, k2⟩ := tds_read (by omega) h3
    rw [List.append_nil] at k2
    refine ⟨?_, ht.wx, ht.wy, fun t ht => (k1 t ht).2⟩
    have hp : prErr ⟨(trest (trest (lline l))).toArray⟩ = 0 := Classical.byContradiction fun hn => hn ((ht.bad hn).2.2.2).symm
    have hL : ¬ rlong (rpq (trest (trest (lline l)))) := fun hl => absurd ((ht.long hp hl).2.2.2) (by decide)
    obtain ⟨_, m1, m2⟩ := ht.good hp hL
    have hrg := prErr_is0 hp
    rw [bytes_list] at hrg
    have hr := zread_text hrg ht.wx ht.wy m1 m2
    have l1 : lline l = tword (lline l) ++ 32 :: (tword (trest (lline l)) ++ 32 :: trest (trest (lline l))) := by
      rcases trest_parts (lline l) with a1 | a1
      · rcases trest_parts (trest (lline l)) with a2 | a2
        · rw [← a2, ← a1]
        · rw [a2] at hrg
          exact absurd hrg rgood_nil
      · rw [a1, tword_nil] at g2
        exact absurd g2 (by decide)
    show v.head ++ v.ts.flatMap TV.line = l
    rw [v.head_eq]
    unfold PV.hd0
    rw [← k2, h4, hr]
    rw [g1] at l1
    rw [← l1]
    exact e.symm
  · exact absurd hc (by decide)
end Go.Proofs.YthaggppcbaeokaaGreatDoor
namespace Go.Proofs.YthaggppcbaeokaaGreatDoor
open Go.RowKit
set_option linter.unusedVariables false
set_option linter.unusedSimpArgs false
theorem pres2_run {fn : Func} {W : World} {b d q u : Nat} {cs : Array Value} {c z : Int} (hr : fn.results = #[.cell q 27, .cell u 34]) (hb : Box W b 27 cs) (hd : Box W d 34 #[.int .i64 c, .int .i64 z]) (tmps : Array Value) (h4 : tmps.getD q undef = .pointer (some ⟨b, 0, none⟩)) (h5 : tmps.getD u undef = .pointer (some ⟨d, 0, none⟩)) (hi : (Tryz.prog.info? 27).map (·.size) = some cs.size := by kernel_rfl) (hj : (Tryz.prog.info? 34).map (·.size) = some 2 := by kernel_rfl) : (results fn tmps).run Tryz.prog W = .ok (.tuple #[.agg cs, .agg #[.int .i64 c, .int .i64 z]]) W := by
  have h := run_loadVar_row (P := Tryz.prog) W b 27 27 cs (0, 0) _ hb Tryz.underlying27 rfl hi
  have g := run_loadVar_row (P := Tryz.prog) W d 34 34 #[.int .i64 c, .int .i64 z] (0, 0) _ hd Tryz.underlying34 rfl hj
  have h4' : tmps[q]?.getD undef = .pointer (some ⟨b, 0, none⟩) := by simpa using h4
  have h5' : tmps[u]?.getD undef = .pointer (some ⟨d, 0, none⟩) := by simpa using h5
  simp [results, hr, h4', h5', asAddr, h, g]
def RlnT (R : PV → Int → Int → Prop) (w : World) (e : Ending) (w' : World) : Prop :=
  ∃ (q : PL) (v : PV) (c z : Int), e = .returned (.tuple #[.agg #[.string q.s, .bool q.n, .slice q.a q.xs.length q.ca, .slice q.b q.ys.length q.cb, .slice q.t q.ts.length q.ct], .agg #[.int .i64 c, .int .i64 z]]) ∧ R v c z ∧ Made q v w w'
theorem lcut_any (s : ByteArray) (w : World) (hs : s.size ≤ 65536) : Calls Tryz.prog 42 #[.string s, .string ⟨#[10]⟩] w fun e w' => ∃ (a r : ByteArray), e = .returned (.tuple #[.string a, .string r, .bool (lend s.data.toList)]) ∧ a.data.toList = lline s.data.toList ∧ r.data.toList = lrest s.data.toList ∧ a.size ≤ 65536 ∧ r.size ≤ 65536 ∧ Below w.heap.size w w' := by
  refine Calls.mono (zcut_any s 10 w (by omega)) ?_
  rintro e w' ⟨rfl, hb⟩
  have h := zcut_len s.data.toList 10
  have hl : s.data.toList.length = s.size := Array.length_toList
  refine ⟨_, _, rfl, rfl, rfl, ?_, ?_, hb⟩
  · show (Lib.cut s.data.toList [10]).1.toArray.size ≤ _
    rw [List.size_toArray]; omega
  · show (Lib.cut s.data.toList [10]).2.1.toArray.size ≤ _
    rw [List.size_toArray]; omega
def strOf : Value → Nat
  | .string s => s.size
  | _ => 0
theorem bnil_iff {s : ByteArray} : s.data.toList = [] ↔ s = ⟨#[]⟩ := ⟨fun h => ByteArray.ext (Array.toList_inj.1 h), fun h => by rw [h]⟩
def RlI (l : List UInt8) (w : World) (B : Nat) (k : Nat) (s : ByteArray) (wr : World) : Prop :=
  (k = 0 ∧ s.data.toList = l ∧ Below w.heap.size w wr ∧ Box wr B 27 #[.string ⟨#[]⟩, .bool false, .slice none 0 0, .slice none 0 0, .slice none 0 0]) ∨
  (∃ (nm : ByteArray) (n : Bool) (xs ys : List Int) (a1 a2 q : Option Addr) (c1 c2 cq : Nat) (L : List TL), k = L.length + 1 ∧ RTells (prErr ⟨(trest (trest (lline l))).toArray⟩) (rpq (trest (trest (lline l)))) n xs ys 0 ∧ hdGood ⟨(lline l).toArray⟩ 0 ∧ lend l = true ∧ nm.data.toList = tword (trest (lline l)) ∧ TdS (lrest l) (L.map TL.v) s.data.toList ∧ CpI ⟨nm, n, xs, ys, []⟩ w B a1 c1 a2 c2 L L q cq wr)
theorem RlI.bel {l : List UInt8} {w : World} {B k : Nat} {s : ByteArray} {wr : World} (h : RlI l w B k s wr) : Below w.heap.size w wr := by
  rcases h with ⟨_, _, h, _⟩ | ⟨_, _, _, _, _, _, _, _, _, _, _, _, _, _, _, _, _, h⟩
  · exact h
  · exact h.bel
set_option maxHeartbeats 6400000 in
set_option maxRecDepth 100000 in
theorem pReadLines_any (s0 : ByteArray) (w : World) (hs : s0.size ≤ 65536) (htab : Tab w) (herr : ErrT w) : Calls Tryz.prog 22 #[.string s0] w (RlnT (LnsT s0.data.toList) w) := by
  obtain ⟨X, hX⟩ : ∃ X, w.alloc (.cells #[.string ⟨#[]⟩, .bool false, .slice none 0 0, .slice none 0 0, .slice none 0 0] 27) = X := ⟨_, rfl⟩
  obtain ⟨X2, hX2⟩ : ∃ X2, X.alloc (.cells #[.int .i64 0, .int .i64 0] 34) = X2 := ⟨_, rfl⟩
  obtain ⟨Y, hY⟩ : ∃ Y, X2.alloc (.cells #[.string ⟨#[]⟩, .bool false, .slice none 0 0, .slice none 0 0, .slice none 0 0] 27) = Y := ⟨_, rfl⟩
  have hXs : X.heap.size = w.heap.size + 1 := by subst hX; simp
  have hXs2 : X2.heap.size = w.heap.size + 1 + 1 := by subst hX2; simp [hXs]
  have HR : Hid (Box Y w.heap.size 27 #[.string ⟨#[]⟩, .bool false, .slice none 0 0, .slice none 0 0, .slice none 0 0]) := by
    subst hY hX2 hX
    exact (Box.made w _ _).later (bt (alloc_later _ _) (alloc_later _ _)) (Box.made w 27 _).lt
  have HF : Hid (Box Y (w.heap.size + 1) 34 #[.int .i64 0, .int .i64 0]) := by
    rw [← hXs]
    subst hY hX2
    exact (Box.made X _ _).later (alloc_later _ _) (Box.made X 34 _).lt
  have HP : Hid (Box Y (w.heap.size + 1 + 1) 27 #[.string ⟨#[]⟩, .bool false, .slice none 0 0, .slice none 0 0, .slice none 0 0]) := by
    rw [← hXs2]
    subst hY
    exact Box.made X2 _ _
  have HB : Hid (Below w.heap.size w Y) := by
    subst hY hX2 hX
    exact bt (alloc_later _ _) (bt (alloc_later _ _) (alloc_later _ _))
  have HT := hid (fun V (hv : Below w.heap.size w V) => htab.later hv)
  have HE := hid (fun V (hv : Below w.heap.size w V) => herr.later hv)
  have HSZ := hid hs
  clear htab herr hs
  go_enter Tryz.func22, Tryz.ntmps22
  go_wp2_with fail
  go_step3
  go_wp2_with fail
  go_step3
  go_wp2_with fail
  go_loopw [0, 5] (fun sv x wr => ∃ (k : Nat) (s : ByteArray), sv = .string s ∧ x = .int .i64 (k : Int) ∧ k + s.size ≤ s0.size ∧ Hid (RlI s0.data.toList w (w.heap.size + 1 + 1) k s wr) ∧ Hid (Box wr w.heap.size 27 #[.string ⟨#[]⟩, .bool false, .slice none 0 0, .slice none 0 0, .slice none 0 0]) ∧ Hid (Box wr (w.heap.size + 1) 34 #[.int .i64 0, .int .i64 0])) (fun sv _ _ => strOf sv)
  case atStart => exact ⟨0, s0, rfl, rfl, by omega, .inl ⟨rfl, rfl, HB.out, HP.out⟩, HR.out, HF.out⟩
  case round =>
    obtain ⟨k, s, rfl, rfl, hks, HI, HR5, HF5⟩ := hrel
    have HB5 := hid HI.out.bel
    have hsz : s.size ≤ 65536 := by have := HSZ.out; omega
    have HLC := hid (lcut_any s wr hsz)
    rcases HI.out with ⟨hk0, hsl, hbw, hbx⟩ | ⟨nm, n, xs, ys, a1, a2, q, c1, c2, cq, L, hkl, ht, hG, he, hnm, hTd, hI⟩
    · subst hk0
      have hsl' : s = s0 := nmEq'.1 hsl
      subst hsl'
      have HBX := hid hbx
      have hsz0 := HSZ.out
      clear hsl hbx hbw HI
      obtain ⟨le, hle⟩ : ∃ b, lend s.data.toList = b := ⟨_, rfl⟩
      rw [hle] at HLC
      have HLE := hid hle
      clear hle
      go_wp2_with fail
      refine Calls.mono HLC.out ?_
      rintro e w1 ⟨a, r, rfl, ha, hr, hsa, hsr, b1⟩
      have HA := hid ha
      have HRR := hid hr
      have HB1 := hid (bt HB5.out b1)
      have HR1 := hid (HR5.out.later b1 HR5.out.lt)
      have HF1 := hid (HF5.out.later b1 HF5.out.lt)
      have HX1 := hid (HBX.out.later b1 HBX.out.lt)
      clear ha hr b1 HLC HB5 HR5 HF5 HBX
      cases le with
      | false =>
        obtain ⟨⟨s0', s1', s2', s3', s4'⟩, ⟨x0, x1, x2, x3, x4⟩, ⟨u0, u1, u2, u3, u4⟩⟩ := pzero5 HR1.out
        obtain ⟨A0, A1, q0, q1, ⟨r0, r1⟩, ⟨v0, v1⟩, HAA⟩ := rchain2 HF1.out (by decide) (.int .i64 240) (.int .i64 (0))
        have HRA : Hid (Box A1 w.heap.size 27 #[.string ⟨#[]⟩, .bool false, .slice none 0 0, .slice none 0 0, .slice none 0 0]) := HAA.out.2.1 _ _ _ (by omega) HR1.out
        have HBA : Hid (Below w.heap.size w A1) := HAA.out.2.2.2.1 _ _ (by omega) HB1.out
        have HFA := hid HAA.out.1
        clear HAA
        go_wp2_with fail
        rw [Exit.noGoto_ret]
        exact bodyPost_ret (pres2_run (by rfl) HRA.out HFA.out _ rfl rfl) rfl ⟨PL.zero, PV.zero, 240, 0, rfl, .inr ⟨rfl, rfl, .inl ⟨rfl, .inl HLE.out⟩⟩, Made.none HBA.out⟩
      | true =>
        have HSH : Hid (r.size < s.size) := by
          have h := lrest_short HLE.out
          rw [← HRR.out] at h
          have e1 : r.data.toList.length = r.size := Array.length_toList
          have e2 : s.data.toList.length = s.size := Array.length_toList
          show _ < _
          omega
        have HRH := hid (pReadHead_any w (w.heap.size + 1 + 1) a hsa w1 HB1.out (by omega) HX1.out)
        go_wp2_with fail
        refine Calls.mono HRH.out ?_
        rintro e w2 ⟨n, xs, ys, code, ht, hk, ⟨hng, rfl, b2⟩ | ⟨hgd, rfl, nm, a1, a2, c1, c2, hnm, hcp⟩⟩
        · have HT2 : Hid (RTells (prErr ⟨(trest (trest (lline s.data.toList))).toArray⟩) (rpq (trest (trest (lline s.data.toList)))) n xs ys code) := by
            rw [← HA.out]; exact ht
          have HNG : Hid (¬ hdGood ⟨(lline s.data.toList).toArray⟩ code) := fun h => hng (by
            have q := hdGood_iff.1 h
            rw [← HA.out] at q
            exact q)
          have HB5 := hid b2
          have HR5 := hid (hk _ _ _ (by omega) HR1.out)
          have HF5 := hid (hk _ _ _ (by omega) HF1.out)
          clear ht hng b2 hk HB1 HR1 HF1 HX1 HRH
          obtain ⟨⟨s0', s1', s2', s3', s4'⟩, ⟨x0, x1, x2, x3, x4⟩, ⟨u0, u1, u2, u3, u4⟩⟩ := pzero5 HR5.out
          obtain ⟨A0, A1, q0, q1, ⟨r0, r1⟩, ⟨v0, v1⟩, HAA⟩ := rchain2 HF5.out (by decide) (.int .i64 240) (.int .i64 (0))
          have HRA : Hid (Box A1 w.heap.size 27 #[.string ⟨#[]⟩, .bool false, .slice none 0 0, .slice none 0 0, .slice none 0 0]) := HAA.out.2.1 _ _ _ (by omega) HR5.out
          have HBA : Hid (Below w.heap.size w A1) := HAA.out.2.2.2.1 _ _ (by omega) HB5.out
          have HFA := hid HAA.out.1
          clear HAA
          go_wp2_with fail
          rw [Exit.noGoto_ret]
          exact bodyPost_ret (pres2_run (by rfl) HRA.out HFA.out _ rfl rfl) rfl ⟨PL.zero, PV.zero, 240, 0, rfl, .inr ⟨rfl, rfl, .inl ⟨rfl, .inr ⟨n, xs, ys, code, HT2.out, HNG.out⟩⟩⟩, Made.none HBA.out⟩
        · have HT2 : Hid (RTells (prErr ⟨(trest (trest (lline s.data.toList))).toArray⟩) (rpq (trest (trest (lline s.data.toList)))) n xs ys 0) := by
            have q := hgd.2.2
            rw [← HA.out, ← q]; exact ht
          have HGD : Hid (hdGood ⟨(lline s.data.toList).toArray⟩ 0) := hdGood_iff.2 (by
            rw [← HA.out]
            exact ⟨hgd.1, hgd.2.1, rfl⟩)
          have HNM : Hid (nm.data.toList = tword (trest (lline s.data.toList))) := by rw [← HA.out]; exact hnm
          have HCP := hid hcp
          have HR5 := hid (hk _ _ _ (by omega) HR1.out)
          have HF5 := hid (hk _ _ _ (by omega) HF1.out)
          clear ht hgd hnm hcp hk HB1 HR1 HF1 HX1 HRH
          go_wp2_with fail
          go_roundw
          case rel => exact ⟨1, r, rfl, by go_num, by have := HSH.out; omega, .inr ⟨nm, n, xs, ys, a1, a2, none, c1, c2, 0, [], rfl, HT2.out, HGD.out, HLE.out, HNM.out, HRR.out, HCP.out⟩, HR5.out, HF5.out⟩
          case measure => have := HSH.out; simp [strOf]; omega
    · have hsz0 := HSZ.out
      have hk1 : (0 : Int) < (k : Int) := by omega
      have hk2 : ¬ (k : Int) = 0 := by omega
      have hk3 : ((k : Int) == 0) = false := by simp; omega
      have HKL := hid hkl
      have HHT := hid ht
      have HHG := hid hG
      have HHE := hid he
      have HHN := hid hnm
      have HTD := hid hTd
      have HCI := hid hI
      clear hkl ht hG he hnm hTd hI HI
      by_cases hse : s = ⟨#[]⟩
      · subst hse
        have c0 : wr.cell? ⟨w.heap.size + 1 + 1, 0, none⟩ = some (.string nm) := HCI.out.box.cell 0
        have c1' : wr.cell? ⟨w.heap.size + 1 + 1, 1, none⟩ = some (.bool n) := HCI.out.box.cell 1
        have c2' : wr.cell? ⟨w.heap.size + 1 + 1, 2, none⟩ = some (.slice a1 xs.length c1) := HCI.out.box.cell 2
        have c3 : wr.cell? ⟨w.heap.size + 1 + 1, 3, none⟩ = some (.slice a2 ys.length c2) := HCI.out.box.cell 3
        have c4 : wr.cell? ⟨w.heap.size + 1 + 1, 4, none⟩ = some (.slice q L.length cq) := HCI.out.box.cell 4
        obtain ⟨A0, A1, A2, A3, A4, p0, p1, p2, p3, p4, ⟨r0, r1, r2, r3, r4⟩, ⟨f0, f1, f2, f3, f4⟩, HA⟩ := pchain5 HR5.out (.string nm) (.bool n) (.slice a1 xs.length c1) (.slice a2 ys.length c2) (.slice q L.length cq)
        have HFA : Hid (Box A4 (w.heap.size + 1) 34 #[.int .i64 0, .int .i64 0]) := HA.out.2.1 _ _ _ (by omega) HF5.out
        have HRA := hid HA.out.1
        have z0 : A4.setCell ⟨w.heap.size + 1, 0, none⟩ (.int .i64 0) = A4 := HFA.out.same rfl
        have z1 : A4.setCell ⟨w.heap.size + 1, 1, none⟩ (.int .i64 0) = A4 := HFA.out.same rfl
        have y0 : A4.cell? ⟨w.heap.size + 1, 0, none⟩ = some (.int .i64 0) := HFA.out.cell 0
        have y1 : A4.cell? ⟨w.heap.size + 1, 1, none⟩ = some (.int .i64 0) := HFA.out.cell 1
        have g0 : A4.frozen? ⟨w.heap.size + 1, 0, none⟩ = false := HFA.out.free 0
        have g1 : A4.frozen? ⟨w.heap.size + 1, 1, none⟩ = false := HFA.out.free 1
        have HMD : Hid (Made ⟨nm, n, a1, c1, xs, a2, c2, ys, q, cq, L⟩ ⟨nm, n, xs, ys, L.map TL.v⟩ w A4) := CpI.done (HCI.out.re (L.map TL.v)) rfl (Nat.le_refl _) HA.out.2.2.1 HA.out.2.2.2.1 HA.out.2.2.2.2
        clear HA HLC
        go_wp2_with fail
        exact bodyPost_ret (pres2_run (by rfl) HRA.out HFA.out _ rfl rfl) rfl ⟨⟨nm, n, a1, c1, xs, a2, c2, ys, q, cq, L⟩, ⟨nm, n, xs, ys, L.map TL.v⟩, 0, 0, rfl, .inl ⟨rfl, rfl, HHT.out, HHG.out, HHE.out, HTD.out, HHN.out⟩, HMD.out⟩
      · have HNS : Hid (s.data.toList ≠ []) := fun h => hse (bnil_iff.1 h)
        have hse2 : s.toList.isEmpty = false := by
          rw [ByteArray.toList_eq]
          cases h : s.data.toList with
          | nil => exact absurd h HNS.out
          | cons a b => rfl
        obtain ⟨le, hle⟩ : ∃ b, lend s.data.toList = b := ⟨_, rfl⟩
        rw [hle] at HLC
        have HLE := hid hle
        clear hle
        go_wp2_with fail
        refine Calls.mono HLC.out ?_
        rintro e w1 ⟨a, r, rfl, ha, hr, hsa, hsr, b1⟩
        have HA := hid ha
        have HRR := hid hr
        have HR1 := hid (HR5.out.later b1 HR5.out.lt)
        have HF1 := hid (HF5.out.later b1 HF5.out.lt)
        have HC1 := hid (HCI.out.later b1)
        have HB1 := hid HC1.out.bel
        clear ha hr b1 HLC HB5 HR5 HF5 HCI
        cases le with
        | false =>
          obtain ⟨⟨s0', s1', s2', s3', s4'⟩, ⟨x0, x1, x2, x3, x4⟩, ⟨u0, u1, u2, u3, u4⟩⟩ := pzero5 HR1.out
          obtain ⟨A0, A1, q0, q1, ⟨r0, r1⟩, ⟨v0, v1⟩, HAA⟩ := rchain2 HF1.out (by decide) (.int .i64 240) (.int .i64 ((k : Int)))
          have HRA : Hid (Box A1 w.heap.size 27 #[.string ⟨#[]⟩, .bool false, .slice none 0 0, .slice none 0 0, .slice none 0 0]) := HAA.out.2.1 _ _ _ (by omega) HR1.out
          have HBA : Hid (Below w.heap.size w A1) := HAA.out.2.2.2.1 _ _ (by omega) HB1.out
          have HFA := hid HAA.out.1
          clear HAA
          go_wp2_with fail
          rw [Exit.noGoto_ret]
          exact bodyPost_ret (pres2_run (by rfl) HRA.out HFA.out _ rfl rfl) rfl ⟨PL.zero, PV.zero, 240, (k : Int), rfl, .inr ⟨rfl, rfl, .inr ⟨L.map TL.v, s.data.toList, n, xs, ys, HHT.out, HHG.out, HHE.out, HTD.out, HNS.out, by have := HKL.out; rw [List.length_map]; omega, .inl HLE.out⟩⟩, Made.none HBA.out⟩
        | true =>
          have HSH : Hid (r.size < s.size) := by
            have h := lrest_short HLE.out
            rw [← HRR.out] at h
            have e1 : r.data.toList.length = r.size := Array.length_toList
            have e2 : s.data.toList.length = s.size := Array.length_toList
            show _ < _
            omega
          have HRT := hid (pReadTide_any HC1.out (by have := HKL.out; omega) a (by omega) (HT.out _ HB1.out) (HE.out _ HB1.out))
          go_wp2_with fail
          refine Calls.mono HRT.out ?_
          rintro e w2 ⟨u, c, hp, hk, ⟨hng, rfl, b2⟩ | ⟨hc, rfl, t, a', ct', htv, hcp⟩⟩
          · have HPA : Hid (PaT ⟨(lline s.data.toList).toArray⟩ u c) := by
              rw [← zbytes HA.out]; exact hp
            have HNG := hid hng
            have HB5 := hid b2
            have HR5 := hid (hk _ _ _ (by omega) (by decide) HR1.out)
            have HF5 := hid (hk _ _ _ (by omega) (by decide) HF1.out)
            clear hp hng b2 hk HB1 HR1 HF1 HC1 HRT
            obtain ⟨⟨s0', s1', s2', s3', s4'⟩, ⟨x0, x1, x2, x3, x4⟩, ⟨u0, u1, u2, u3, u4⟩⟩ := pzero5 HR5.out
            obtain ⟨A0, A1, q0, q1, ⟨r0, r1⟩, ⟨v0, v1⟩, HAA⟩ := rchain2 HF5.out (by decide) (.int .i64 240) (.int .i64 ((k : Int)))
            have HRA : Hid (Box A1 w.heap.size 27 #[.string ⟨#[]⟩, .bool false, .slice none 0 0, .slice none 0 0, .slice none 0 0]) := HAA.out.2.1 _ _ _ (by omega) HR5.out
            have HBA : Hid (Below w.heap.size w A1) := HAA.out.2.2.2.1 _ _ (by omega) HB5.out
            have HFA := hid HAA.out.1
            clear HAA
            go_wp2_with fail
            rw [Exit.noGoto_ret]
            exact bodyPost_ret (pres2_run (by rfl) HRA.out HFA.out _ rfl rfl) rfl ⟨PL.zero, PV.zero, 240, (k : Int), rfl, .inr ⟨rfl, rfl, .inr ⟨L.map TL.v, s.data.toList, n, xs, ys, HHT.out, HHG.out, HHE.out, HTD.out, HNS.out, by have := HKL.out; rw [List.length_map]; omega, .inr ⟨u, c, HPA.out, HNG.out⟩⟩⟩, Made.none HBA.out⟩
          · have HPA : Hid (PaT ⟨(lline s.data.toList).toArray⟩ t.v 0) := by
              rw [← zbytes HA.out, htv, ← hc]; exact hp
            have HTD2 : Hid (TdS (lrest s0.data.toList) ((L ++ [t]).map TL.v) r.data.toList) := by
              show TdS _ _ _
              rw [List.map_append, HRR.out]
              exact TdS.snoc HNS.out HLE.out HPA.out HTD.out
            have HCP := hid hcp
            have HR5 := hid (hk _ _ _ (by omega) (by decide) HR1.out)
            have HF5 := hid (hk _ _ _ (by omega) (by decide) HF1.out)
            clear hp hc hcp hk HB1 HR1 HF1 HC1 HRT
            go_wp2_with fail
            go_roundw
            case rel => exact ⟨k + 1, r, rfl, by go_num, by have := HSH.out; omega, .inr ⟨nm, n, xs, ys, a1, a2, a', c1, c2, ct', L ++ [t], by have := HKL.out; rw [List.length_append]; simp; omega, HHT.out, HHG.out, HHE.out, HHN.out, HTD2.out, HCP.out⟩, HR5.out, HF5.out⟩
            case measure => have := HSH.out; simp [strOf]; omega
theorem Tryz.infoGs : (Tryz.prog.info? 46).map (fun i => (i.zero, i.size, i.bytes)) = some (some (.agg #[.bool false, .slice none 0 0, .slice none 0 0, .bool false, .slice none 0 0, .slice none 0 0]), 6, 112) := by kernel_rfl
def F3.cells (f : F3) : List Value := [.bool f.n, .slice f.a f.xs.length f.ca, .slice f.b f.ys.length f.cb]
def flat3 (L : List F3) : List Value := L.flatMap F3.cells
theorem flat3_append (L M : List F3) : flat3 (L ++ M) = flat3 L ++ flat3 M := by unfold flat3; rw [List.flatMap_append]
theorem flat3_cons (f : F3) (L : List F3) : flat3 (f :: L) = f.cells ++ flat3 L := rfl
theorem flat3_len (L : List F3) : (flat3 L).length = L.length * 3 := by
  induction L with
  | nil => rfl
  | cons t L ih => rw [flat3_cons, List.length_append, ih, List.length_cons, show t.cells.length = 3 from rfl]; omega
theorem flat3_at {L : List F3} {j : Nat} {f : F3} (h : L[j]? = some f) {k : Nat} (hk : k < 3) : (flat3 L)[j * 3 + k]? = f.cells[k]? := by
  induction L generalizing j with
  | nil => simp at h
  | cons u L ih =>
    rw [flat3_cons]
    have hs : u.cells.length = 3 := rfl
    cases j with
    | zero =>
      injection h with h
      subst h
      rw [List.getElem?_append_left (by omega), Nat.zero_mul, Nat.zero_add]
    | succ j =>
      rw [List.getElem?_append_right (by omega), show (j + 1) * 3 + k - u.cells.length = j * 3 + k by omega]
      exact ih h
theorem flat3_one (L : List F3) : ∀ u ∈ flat3 L, u.oneCell' = true := by
  intro u hu
  obtain ⟨t, _, ht⟩ := List.mem_flatMap.1 hu
  simp only [F3.cells, List.mem_cons, List.not_mem_nil, or_false] at ht
  rcases ht with rfl | rfl | rfl <;> rfl
def TL.re (t : TL) : F3 := ⟨t.n, t.a, t.ca, t.xs, t.b, t.cb, t.ys⟩
def TL.im (t : TL) : F3 := ⟨t.m, t.c, t.cc, t.us, t.d, t.cd, t.vs⟩
def TL.six (t : TL) : List Value := [.bool t.n, .slice t.a t.xs.length t.ca, .slice t.b t.ys.length t.cb, .bool t.m, .slice t.c t.us.length t.cc, .slice t.d t.vs.length t.cd]
def partsT (ts : List TL) : List F3 := ts.flatMap fun t => [t.re, t.im]
theorem partsT_len (ts : List TL) : (partsT ts).length = 2 * ts.length := by
  induction ts with
  | nil => rfl
  | cons t L ih =>
    have e : (partsT (t :: L)).length = 2 + (partsT L).length := by
      rw [show partsT (t :: L) = [t.re, t.im] ++ partsT L from rfl, List.length_append]; rfl
    rw [e, ih, List.length_cons]
    omega
theorem flatP_snoc (ts : List TL) (t : TL) : flat3 (partsT (ts ++ [t])) = flat3 (partsT ts) ++ t.six := by
  unfold partsT
  rw [List.flatMap_append, flat3_append]
  rfl
theorem flatP_take {ts : List TL} {k : Nat} (h : k < ts.length) : flat3 (partsT (ts.take (k + 1))) = flat3 (partsT (ts.take k)) ++ (tT ts k).six := by
  rw [List.take_add_one, tT_at h]
  exact flatP_snoc _ _
theorem flatP_len (ts : List TL) : (flat3 (partsT ts)).length = ts.length * 6 := by rw [flat3_len, partsT_len]; omega
theorem flatP_at {ts : List TL} {j : Nat} (h : j < ts.length) {k : Nat} (hk : k < 6) : (flat3 (partsT ts))[j * 6 + k]? = (tT ts j).six[k]? := by
  have e : ts = ts.take (j + 1) ++ ts.drop (j + 1) := (List.take_append_drop _ _).symm
  have e2 : flat3 (partsT ts) = flat3 (partsT (ts.take j)) ++ (tT ts j).six ++ flat3 (partsT (ts.drop (j + 1))) := by
    rw [← flatP_take h, ← flat3_append]
    conv => lhs; rw [e]
    unfold partsT
    rw [List.flatMap_append]
  have hl : (flat3 (partsT (ts.take j))).length = j * 6 := by rw [flatP_len, List.length_take, Nat.min_eq_left (by omega)]
  rw [e2, List.append_assoc, List.getElem?_append_right (by omega), hl, show j * 6 + k - j * 6 = k by omega, List.getElem?_append_left (by show k < 6; exact hk)]
theorem TL.six_one (t : TL) : ∀ u ∈ t.six, u.oneCell' = true := by
  intro u hu
  simp only [TL.six, List.mem_cons, List.not_mem_nil, or_false] at hu
  rcases hu with rfl | rfl | rfl | rfl | rfl | rfl <;> rfl
set_option maxHeartbeats 1600000 in
set_option maxRecDepth 100000 in
theorem numbersOf_any (t : Option Addr) (n ct : Nat) (ts : List TL) (w : World) (hn : n ≤ 1000) (hl : ts.length = n) (h : RdT w t ts) :
    Calls Tryz.prog 17 #[.slice t n ct] w fun e w' => ∃ a c, e = .returned (.slice a n c) ∧ w'.ownsRow w.heap.size 46 6 (.slice a n c) n (flat3 (partsT ts)) ∧ Below w.heap.size w w' := by
  obtain ⟨i0, hi0, hz0, hz1, hz2⟩ := info_parts Tryz.infoGs
  have HT := hid h
  have HL := hid hl
  clear h hl
  go_enter Tryz.func17, Tryz.ntmps17
  go_wp2_with fail
  go_loopw [3, 4] (fun v x wr => ∃ (k : Nat) (q : Option Addr) (d : Nat), k ≤ n ∧ x = .int .i64 (k : Int) ∧ v = .slice q k d ∧ Hid (wr.ownsRow w.heap.size 46 6 (.slice q k d) k (flat3 (partsT (ts.take k)))) ∧ Hid (Below w.heap.size w wr)) (fun _ x _ => n - (intOf x).toNat)
  case atStart => exact ⟨0, none, 0, Nat.zero_le _, rfl, rfl, World.ownsRow_nil _ _ _ _, Below.refl _ _⟩
  case round =>
    obtain ⟨k, q, d, hk, rfl, rfl, HO, HB⟩ := hrel
    by_cases hlt : k < n
    · have hkl : k < ts.length := by rw [HL.out]; exact hlt
      have HTW := hid (HT.out.later HB.out)
      rcases HTW.out.2 with e | ⟨bb, o, rfl, hbb, hc⟩
      · rw [e] at hkl; exact absurd hkl (by simp)
      have hci := hc k _ (tT_at hkl)
      have HN := hid (flatP_take hkl)
      have e3 := hci 3 (by decide)
      have e4 := hci 4 (by decide)
      have e5 := hci 5 (by decide)
      have e6 := hci 6 (by decide)
      have e7 := hci 7 (by decide)
      have e8 := hci 8 (by decide)
      clear hci hc
      generalize tT ts k = tt at *
      have c3 : wr.cell? ⟨bb, o + k * 9 + 3, none⟩ = some (.bool tt.n) := e3
      have c4 : wr.cell? ⟨bb, o + k * 9 + 4, none⟩ = some (.slice tt.a tt.xs.length tt.ca) := e4
      have c5 : wr.cell? ⟨bb, o + k * 9 + 5, none⟩ = some (.slice tt.b tt.ys.length tt.cb) := e5
      have c6 : wr.cell? ⟨bb, o + k * 9 + 6, none⟩ = some (.bool tt.m) := e6
      have c7 : wr.cell? ⟨bb, o + k * 9 + 7, none⟩ = some (.slice tt.c tt.us.length tt.cc) := e7
      have c8 : wr.cell? ⟨bb, o + k * 9 + 8, none⟩ = some (.slice tt.d tt.vs.length tt.cd) := e8
      clear e3 e4 e5 e6 e7 e8
      have hk0 : (0 : Int) ≤ (k : Int) := by omega
      have hk1 : (k : Int) < (n : Int) := by omega
      obtain ⟨W3, hW3⟩ : ∃ W3, wr.alloc (.cells #[.bool tt.n, .slice tt.a tt.xs.length tt.ca, .slice tt.b tt.ys.length tt.cb, .bool tt.m, .slice tt.c tt.us.length tt.cc, .slice tt.d tt.vs.length tt.cd] 46) = W3 := ⟨_, rfl⟩
      have HBW : Hid (Below wr.heap.size wr W3) := by
        subst hW3
        exact alloc_later _ _
      have HNW : Hid (∀ j v, tt.six[j]? = some v → W3.cell? ((⟨wr.heap.size, 0, none⟩ : Addr).add j) = some v) := by
        subst hW3
        exact qcells_new wr _ _
      have HOW := hid (qown_later HO.out HBW.out)
      have HB3 := hid (bt HB.out HBW.out)
      clear HO HBW hbb
      go_wp2_with (first
        | (at_builtin; refine wpList_append_own_at _ rfl _ _ 56 rfl w.heap.size 46 i0 (.agg #[.bool false, .slice none 0 0, .slice none 0 0, .bool false, .slice none 0 0, .slice none 0 0]) 6 112 Tryz.underlying56 hi0 hz0 hz1 hz2 rfl (by decide) (.slice q k d) k (flat3 (partsT (ts.take k))) rfl HOW.out ⟨wr.heap.size, 0, none⟩ 1 1 tt.six rfl rfl HNW.out tt.six_one ?hm ?hb HB3.out.size ?_; rotate_right; intro v1 y1 o1 g1 _ at1))
      case hm => unfold maxLen; omega
      case hb => omega
      have HO1 : Hid (y1.ownsRow w.heap.size 46 6 v1 (k + 1) (flat3 (partsT (ts.take (k + 1))))) := by rw [HN.out]; exact o1
      have HB1 := hid (HB3.out.grown g1 HB3.out.size (fun g e => (HOW.out.lt g e).1))
      obtain ⟨q1, d1, hv1⟩ := qown_slice o1
      subst hv1
      clear o1 g1 HOW HNW HN c3 c4 c5 c6 c7 c8
      (try go_wp2_with fail)
      go_roundw
      case rel => exact ⟨k + 1, q1, d1, by omega, by go_num, rfl, HO1, HB1⟩
      case measure => simp [intOf]; omega
    · obtain rfl : k = n := by omega
      have hk1 : ¬ (k : Int) < (k : Int) := by omega
      have HF : Hid (wr.ownsRow w.heap.size 46 6 (.slice q k d) k (flat3 (partsT ts))) := by
        have e : ts.take k = ts := by rw [← HL.out]; exact List.take_length
        have := HO.out
        rw [e] at this
        exact this
      go_wp2_with fail
      go_ret
      exact ⟨q, d, rfl, HF.out, HB.out⟩
set_option maxHeartbeats 1600000 in
set_option maxRecDepth 100000 in
theorem partsOf_any (a : Option Addr) (N c base : Nat) (ts : List TL) (w : World) (hN : N ≤ 1000) (hl : ts.length = N) (h : w.ownsRow base 46 6 (.slice a N c) N (flat3 (partsT ts))) :
    Calls Tryz.prog 16 #[.slice a N c] w fun e w' => ∃ a2 c2, e = .returned (.slice a2 (2 * N) c2) ∧ w'.ownsRow w.heap.size 24 3 (.slice a2 (2 * N) c2) (2 * N) (flat3 (partsT ts)) ∧ (N = 0 → a2 = none ∧ c2 = 0) ∧ Below w.heap.size w w' := by
  obtain ⟨i0, hi, hz0, hz1, hz2⟩ := info_parts Tryz.infoKg
  have HT := hid h
  have HL := hid hl
  clear h hl
  go_enter Tryz.func16, Tryz.ntmps16
  go_wp2_with fail
  go_loopw [3, 4] (fun v x wr => ∃ (k : Nat) (q : Option Addr) (d : Nat), k ≤ N ∧ x = .int .i64 (k : Int) ∧ v = .slice q (2 * k) d ∧ Hid (wr.ownsRow w.heap.size 24 3 (.slice q (2 * k) d) (2 * k) (flat3 (partsT (ts.take k)))) ∧ (k = 0 → q = none ∧ d = 0) ∧ Hid (Below w.heap.size w wr)) (fun _ x _ => N - (intOf x).toNat)
  case atStart => exact ⟨0, none, 0, Nat.zero_le _, rfl, rfl, World.ownsRow_nil _ _ _ _, (fun _ => ⟨rfl, rfl⟩), Below.refl _ _⟩
  case round =>
    obtain ⟨k, q, d, hk, rfl, rfl, HO, hz, HB⟩ := hrel
    by_cases hlt : k < N
    · clear hz
      have hkl : k < ts.length := by rw [HL.out]; exact hlt
      obtain ⟨g, rfl⟩ : ∃ g, a = some ⟨g, 0, none⟩ := by
        rcases HT.out.2 with ⟨h1, h0⟩ | ⟨g, cap, cur, hv, _⟩
        · omega
        · injection hv with e1 _ _
          exact ⟨g, e1⟩
      have HN := hid (flatP_take hkl)
      have HK : Hid (∀ V, Below w.heap.size w V → V.cell? ⟨g, k * 6, none⟩ = some (.bool (tT ts k).n) ∧ V.cell? ⟨g, k * 6 + 1, none⟩ = some (.slice (tT ts k).a (tT ts k).xs.length (tT ts k).ca) ∧ V.cell? ⟨g, k * 6 + 2, none⟩ = some (.slice (tT ts k).b (tT ts k).ys.length (tT ts k).cb) ∧ V.cell? ⟨g, k * 6 + 3, none⟩ = some (.bool (tT ts k).m) ∧ V.cell? ⟨g, k * 6 + 4, none⟩ = some (.slice (tT ts k).c (tT ts k).us.length (tT ts k).cc) ∧ V.cell? ⟨g, k * 6 + 5, none⟩ = some (.slice (tT ts k).d (tT ts k).vs.length (tT ts k).cd)) := fun V hV => by
        have hr := qown_later HT.out hV
        have c : ∀ i, i < 6 → V.cell? ⟨g, k * 6 + i, none⟩ = (tT ts k).six[i]? := fun i hi => by rw [hr.cellAt (k * 6 + i) (by omega), flatP_at hkl hi]
        exact ⟨c 0 (by decide), c 1 (by decide), c 2 (by decide), c 3 (by decide), c 4 (by decide), c 5 (by decide)⟩
      have hk0 : (0 : Int) ≤ (k : Int) := by omega
      have hk1 : (k : Int) < (N : Int) := by omega
      generalize tT ts k = tt at *
      have hs0 := HK.out _ HB.out.drew
      have hbA : Below w.heap.size w (wr.alloc (.cells #[.bool tt.n, .slice tt.a tt.xs.length tt.ca, .slice tt.b tt.ys.length tt.cb, .bool tt.m, .slice tt.c tt.us.length tt.cc, .slice tt.d tt.vs.length tt.cd] 24)).drew := (bt HB.out (alloc_later wr _)).drew
      have HOA : Hid ((wr.alloc (.cells #[.bool tt.n, .slice tt.a tt.xs.length tt.ca, .slice tt.b tt.ys.length tt.cb, .bool tt.m, .slice tt.c tt.us.length tt.cc, .slice tt.d tt.vs.length tt.cd] 24)).drew.ownsRow w.heap.size 24 3 (.slice q (2 * k) d) (2 * k) (flat3 (partsT (ts.take k)))) := qown_later HO.out (bt (alloc_later wr _) (Below.drew (Below.refl _ _)))
      have hsA := HK.out _ hbA
      have hsz := HB.out.size
      obtain ⟨e0, e1, e2, e3, e4, e5⟩ := HK.out wr HB.out
      go_wp2_with fail
      go_region_held3 (fun V : World => V.cell? ⟨g, k * 6, none⟩ = some (.bool tt.n) ∧ V.cell? ⟨g, k * 6 + 1, none⟩ = some (.slice tt.a tt.xs.length tt.ca) ∧ V.cell? ⟨g, k * 6 + 2, none⟩ = some (.slice tt.b tt.ys.length tt.cb) ∧ V.cell? ⟨g, k * 6 + 3, none⟩ = some (.bool tt.m) ∧ V.cell? ⟨g, k * 6 + 4, none⟩ = some (.slice tt.c tt.us.length tt.cc) ∧ V.cell? ⟨g, k * 6 + 5, none⟩ = some (.slice tt.d tt.vs.length tt.cd)) (first | exact hs0 | exact hsA | exact hs1 | go_keep)
        (first | (refine step_append_own_at rfl (.tmp 11) (.tmp 22) 54 rfl w.heap.size 24 i0 (.agg #[.bool false, .slice none 0 0, .slice none 0 0]) 3 56 Tryz.underlying54 hi hz0 hz1 hz2 rfl (by decide) (.slice q (2 * k) d) (2 * k) (flat3 (partsT (ts.take k))) rfl HOA.out ⟨wr.heap.size, 0, none⟩ 2 2 tt.six rfl rfl (kg_six_cells wr _ _ _ _ _ _ _) tt.six_one (by unfold maxLen; omega) (by omega) hbA.size ?_; intro v1 w1 o1 gr1 at1; have hs1 := HK.out _ (hbA.grown gr1 hbA.size (fun k hk => (HOA.out.lt k hk).1))))
      have HB1 := hid (hbA.grown gr1 hbA.size (fun k hk => (HOA.out.lt k hk).1))
      obtain ⟨q1, d1, hv1⟩ := qown_slice o1
      subst hv1
      have HO1 : Hid (w1.ownsRow w.heap.size 24 3 (.slice q1 (2 * (k + 1)) d1) (2 * (k + 1)) (flat3 (partsT (ts.take (k + 1))))) := by
        rw [HN.out]
        exact o1
      clear o1 gr1 HOA hbA hsA hs0 hs1 e0 e1 e2 e3 e4 e5 hsz HO HB HK HN
      go_wp2_with fail
      go_roundw
      case rel => exact ⟨k + 1, q1, d1, by omega, by go_num, rfl, HO1, (fun h => by omega), HB1⟩
      case measure => simp [intOf]; omega
    · obtain rfl : k = N := by omega
      have hk1 : ¬ (k : Int) < (k : Int) := by omega
      have HF : Hid (wr.ownsRow w.heap.size 24 3 (.slice q (2 * k) d) (2 * k) (flat3 (partsT ts))) := by
        have e : ts.take k = ts := by rw [← HL.out]; exact List.take_length
        have := HO.out
        rw [e] at this
        exact this
      have HZ := hid hz
      clear hz
      go_wp2_with fail
      go_ret
      exact ⟨q, d, rfl, HF.out, HZ.out, HB.out⟩
theorem hmv {x y p q : Rat} {K J : Nat} (hx : Hgt x (2 ^ K)) (hy : Hgt y (2 ^ K)) (hp : Hgt p (2 ^ J)) (hq : Hgt q (2 ^ J)) : Hgt (x * p - y * q) (2 ^ (K + J + (K + J) + 1)) ∧ Hgt (x * q + y * p) (2 ^ (K + J + (K + J) + 1)) := by
  have mul : ∀ {a b : Rat}, Hgt a (2 ^ K) → Hgt b (2 ^ J) → Hgt (a * b) (2 ^ (K + J)) := fun ha hb => by rw [Nat.pow_add]; exact ha.mul hb
  have two : ∀ m : Nat, 2 * (2 ^ m * 2 ^ m) = 2 ^ (m + m + 1) := fun m => by rw [← Nat.pow_add, Nat.pow_succ, Nat.mul_comm]
  have s1 := (mul hx hp).sub (mul hy hq)
  have s2 := (mul hx hq).add (mul hy hp)
  rw [two] at s1 s2
  exact ⟨s1, s2⟩
def PrsT (s : ByteArray) (v : PV) (c z : Int) : Prop :=
  (65536 < s.size ∧ v = PV.zero ∧ c = 3 ∧ z = -1) ∨
  (s.size ≤ 65536 ∧ ∃ (u : PV) (c0 z0 : Int), LnsT s.data.toList u c0 z0 ∧ ((c0 ≠ 0 ∧ v = PV.zero ∧ c = c0 ∧ z = z0) ∨ (c0 = 0 ∧ ∃ (q : PL) (ce ze : Int), q.v = u ∧ PChk q.hd q.ts ce ze ∧ ((ce ≠ 0 ∧ v = PV.zero ∧ c = ce ∧ z = ze + 1) ∨ (ce = 0 ∧ v = u ∧ c = 0 ∧ z = 0)))))
theorem PChk.at_ {h : Int} {ts : List TL} {c z : Int} (g : PChk h ts c z) : -1 ≤ z ∧ (z + 1 ≤ (ts.length : Int) ∨ z ≤ 0) := by
  rcases g with ⟨_, _, rfl⟩ | ⟨_, ⟨i, hi, _, rfl, _⟩ | ⟨_, _, rfl⟩⟩
  · omega
  · omega
  · omega
theorem lns_ok {l : List UInt8} {v : PV} {z : Int} (hl : l.length ≤ 65536) (h : LnsT l v 0 z) : v.ok := by
  obtain ⟨h1, h2, h3, h4⟩ := lns_read hl h
  refine ⟨?_, h2, h3, h4⟩
  have e := congrArg List.length h1
  have hv : v.s.size ≤ v.text.length := by
    unfold PV.text PV.head
    simp only [List.length_append]
    have e2 : v.s.data.toList.length = v.s.size := Array.length_toList
    omega
  unfold maxLen
  omega
theorem Made.to {q : PL} {v : PV} {w V W A : World} (hm : Made q v V W) (ho : q.Ow A V.heap.size) (hs : W.heap.size ≤ A.heap.size) (hV : w.heap.size ≤ V.heap.size) (hb : Below w.heap.size w A) : Made q v w A := by
  obtain ⟨c, d, c0, c1, l0, l1, sq⟩ := hm.sep
  exact ⟨hm.v, ho.base hV, ⟨c, d, by omega, c1, fun g e => by have := l0 g e; omega, l1, sq.wide (Nat.le_refl _) hs⟩, hb⟩
theorem PL.Ow.put {p : PL} {W A : World} {base t : Nat} (h : p.Ow W base) (h1 : 52 ≠ t) (h2 : 48 ≠ t) (hA : ∀ base e s v n xs, e ≠ t → W.ownsRow base e s v n xs → A.ownsRow base e s v n xs) : p.Ow A base := by
  refine ⟨hA _ _ _ _ _ _ h1 h.mx, hA _ _ _ _ _ _ h1 h.my, hA _ _ _ _ _ _ h2 h.row, fun u hu => ?_⟩
  have q := h.els u hu
  exact ⟨hA _ _ _ _ _ _ h1 q.1, hA _ _ _ _ _ _ h1 q.2.1, hA _ _ _ _ _ _ h1 q.2.2.1, hA _ _ _ _ _ _ h1 q.2.2.2⟩
theorem fzero2 {W : World} {b t : Nat} (h : Box W b t #[.int .i64 0, .int .i64 0]) : (W.setCell ⟨b, 0, none⟩ (.int .i64 0) = W ∧ W.setCell ⟨b, 1, none⟩ (.int .i64 0) = W) ∧ (W.cell? ⟨b, 0, none⟩ = some (.int .i64 0) ∧ W.cell? ⟨b, 1, none⟩ = some (.int .i64 0)) ∧ (W.frozen? ⟨b, 0, none⟩ = false ∧ W.frozen? ⟨b, 1, none⟩ = false) :=
  ⟨⟨h.same rfl, h.same rfl⟩, ⟨h.cell 0, h.cell 1⟩, h.free 0, h.free 1⟩
set_option maxHeartbeats 6400000 in
set_option maxRecDepth 100000 in
theorem pParse_any (s : ByteArray) (w : World) (htab : Tab w) (herr : ErrT w) : Calls Tryz.prog 8 #[.string s] w (RlnT (PrsT s) w) := by
  obtain ⟨X, hX⟩ : ∃ X, w.alloc (.cells #[.string ⟨#[]⟩, .bool false, .slice none 0 0, .slice none 0 0, .slice none 0 0] 27) = X := ⟨_, rfl⟩
  obtain ⟨Y, hY⟩ : ∃ Y, X.alloc (.cells #[.int .i64 0, .int .i64 0] 34) = Y := ⟨_, rfl⟩
  have hXs : X.heap.size = w.heap.size + 1 := by subst hX; simp
  have HR : Hid (Box Y w.heap.size 27 #[.string ⟨#[]⟩, .bool false, .slice none 0 0, .slice none 0 0, .slice none 0 0]) := by
    subst hY hX
    exact (Box.made w _ _).later (alloc_later _ _) (Box.made w 27 _).lt
  have HF : Hid (Box Y (w.heap.size + 1) 34 #[.int .i64 0, .int .i64 0]) := by
    rw [← hXs]
    subst hY
    exact Box.made X _ _
  have HB : Hid (Below w.heap.size w Y) := by
    subst hY hX
    exact bt (alloc_later _ _) (alloc_later _ _)
  have HRL : Hid (s.size ≤ 65536 → Calls Tryz.prog 22 #[.string s] Y (RlnT (LnsT s.data.toList) Y)) := fun h => pReadLines_any s Y h (htab.later HB.out) (herr.later HB.out)
  clear htab herr
  go_enter Tryz.func8, Tryz.ntmps8
  by_cases hlong : 65536 < s.size
  · have hl' : (65536 : Int) < (s.size : Int) := by omega
    obtain ⟨⟨s0', s1', s2', s3', s4'⟩, ⟨x0, x1, x2, x3, x4⟩, ⟨u0, u1, u2, u3, u4⟩⟩ := pzero5 HR.out
    obtain ⟨A0, A1, q0, q1, ⟨r0, r1⟩, ⟨v0, v1⟩, HA⟩ := rchain2 HF.out (by decide) (.int .i64 3) (.int .i64 (-1))
    have HRA : Hid (Box A1 w.heap.size 27 #[.string ⟨#[]⟩, .bool false, .slice none 0 0, .slice none 0 0, .slice none 0 0]) := HA.out.2.1 _ _ _ (by omega) HR.out
    have HBA : Hid (Below w.heap.size w A1) := HA.out.2.2.2.1 _ _ (by omega) HB.out
    have HFA := hid HA.out.1
    have HLO := hid hlong
    clear HA hlong HRL
    go_wp2_with fail
    exact bodyPost_ret (pres2_run (by rfl) HRA.out HFA.out _ rfl rfl) rfl ⟨PL.zero, PV.zero, 3, -1, rfl, .inl ⟨HLO.out, rfl, rfl, rfl⟩, Made.none HBA.out⟩
  · have hl' : ¬ (65536 : Int) < (s.size : Int) := by omega
    have HSZ : Hid (s.size ≤ 65536) := by show _ ≤ _; omega
    have HLL : Hid (s.data.toList.length ≤ 65536) := by
      have e : s.data.toList.length = s.size := Array.length_toList
      show _ ≤ _
      rw [e]; exact HSZ.out
    have HRL2 := hid (HRL.out HSZ.out)
    clear hlong HRL
    go_wp2_with fail
    refine Calls.mono HRL2.out ?_
    rintro e w1 ⟨q, u, c0, z0, rfl, hln, hm⟩
    have hby := hm.bel
    have HR1 := hid (HR.out.later hby HR.out.lt)
    have HF1 := hid (HF.out.later hby HF.out.lt)
    have HB1 := hid (bt HB.out hby)
    obtain ⟨W2, hW2⟩ : ∃ W2, w1.alloc (.cells #[.string ⟨#[]⟩, .bool false, .slice none 0 0, .slice none 0 0, .slice none 0 0] 27) = W2 := ⟨_, rfl⟩
    obtain ⟨W3, hW3⟩ : ∃ W3, W2.alloc (.cells #[.int .i64 0, .int .i64 0] 34) = W3 := ⟨_, rfl⟩
    have hs2 : W2.heap.size = w1.heap.size + 1 := by subst hW2; simp
    have HQ : Hid (Box W3 w1.heap.size 27 #[.string ⟨#[]⟩, .bool false, .slice none 0 0, .slice none 0 0, .slice none 0 0]) := by
      subst hW3 hW2
      exact (Box.made w1 _ _).later (alloc_later _ _) (Box.made w1 27 _).lt
    have HG : Hid (Box W3 (w1.heap.size + 1) 34 #[.int .i64 0, .int .i64 0]) := by
      rw [← hs2]
      subst hW3
      exact Box.made W2 _ _
    have HB3 : Hid (Below w1.heap.size w1 W3) := by
      subst hW3 hW2
      exact bt (alloc_later _ _) (alloc_later _ _)
    have hy1 : Y.heap.size ≤ w1.heap.size := hby.size
    have hyr : w.heap.size + 1 < Y.heap.size := HF.out.lt
    obtain ⟨A0, A1, A2, A3, A4, p0, p1, p2, p3, p4, ⟨r0, r1, r2, r3, r4⟩, ⟨f0, f1, f2, f3, f4⟩, HA⟩ := pchain5 HQ.out (.string q.s) (.bool q.n) (.slice q.a q.xs.length q.ca) (.slice q.b q.ys.length q.cb) (.slice q.t q.ts.length q.ct)
    have HGA : Hid (Box A4 (w1.heap.size + 1) 34 #[.int .i64 0, .int .i64 0]) := HA.out.2.1 _ _ _ (by omega) HG.out
    obtain ⟨D0, D1, d0, d1, ⟨e0, e1⟩, ⟨g0, g1⟩, HD⟩ := rchain2 HGA.out (by decide) (.int .i64 c0) (.int .i64 z0)
    have HRD : Hid (Box D1 w.heap.size 27 #[.string ⟨#[]⟩, .bool false, .slice none 0 0, .slice none 0 0, .slice none 0 0]) := HD.out.2.1 _ _ _ (by omega) (HA.out.2.1 _ _ _ (by omega) (HR1.out.later HB3.out HR1.out.lt))
    have HFD : Hid (Box D1 (w.heap.size + 1) 34 #[.int .i64 0, .int .i64 0]) := HD.out.2.1 _ _ _ (by omega) (HA.out.2.1 _ _ _ (by omega) (HF1.out.later HB3.out HF1.out.lt))
    have HQD : Hid (Box D1 w1.heap.size 27 #[.string q.s, .bool q.n, .slice q.a q.xs.length q.ca, .slice q.b q.ys.length q.cb, .slice q.t q.ts.length q.ct]) := HD.out.2.1 _ _ _ (by omega) HA.out.1
    have HGD : Hid (Box D1 (w1.heap.size + 1) 34 #[.int .i64 c0, .int .i64 z0]) := HD.out.1
    have HB4 : Hid (Below Y.heap.size Y D1) := HD.out.2.2.2.1 _ _ (by omega) (HA.out.2.2.2.1 _ _ (by omega) (bt hby HB3.out))
    have HM := hid hm
    have HLN := hid hln
    have HOW : Hid (q.Ow D1 Y.heap.size) := by
      exact (hm.ow).later (HD.out.2.2.2.1 _ _ (by omega) (HA.out.2.2.2.1 _ _ (Nat.le_refl _) HB3.out))
    have HB5 := hid (bt HB.out HB4.out)
    have y0 : D1.cell? ⟨w1.heap.size + 1, 0, none⟩ = some (.int .i64 c0) := HGD.out.cell 0
    have y1 : D1.cell? ⟨w1.heap.size + 1, 1, none⟩ = some (.int .i64 z0) := HGD.out.cell 1
    clear hm hln hby HR1 HF1 HB1 HQ HG HB3 HA HGA HD HRL2
    by_cases hc0 : c0 = 0
    · subst hc0
      have HOKU : Hid u.ok := lns_ok HLL.out HLN.out
      have HQK : Hid (q.ok D1) := PL.ok_of (by rw [HM.out.v]; exact HOKU.out) HOW.out
      have HCK := hid (plcheck_any q D1 HQK.out)
      have k0 : D1.cell? ⟨w1.heap.size, 0, none⟩ = some (.string q.s) := HQD.out.cell 0
      have k1 : D1.cell? ⟨w1.heap.size, 1, none⟩ = some (.bool q.n) := HQD.out.cell 1
      have k2 : D1.cell? ⟨w1.heap.size, 2, none⟩ = some (.slice q.a q.xs.length q.ca) := HQD.out.cell 2
      have k3 : D1.cell? ⟨w1.heap.size, 3, none⟩ = some (.slice q.b q.ys.length q.cb) := HQD.out.cell 3
      have k4 : D1.cell? ⟨w1.heap.size, 4, none⟩ = some (.slice q.t q.ts.length q.ct) := HQD.out.cell 4
      go_wp2_with fail
      refine Calls.mono HCK.out ?_
      rintro e w5 ⟨ce, ze, rfl, hck, b5⟩
      clear k0 k1 k2 k3 k4 p0 p1 p2 p3 p4 r0 r1 r2 r3 r4 f0 f1 f2 f3 f4 d0 d1 e0 e1 g0 g1 y0 y1 HCK
      have hs5 : D1.heap.size ≤ w5.heap.size := b5.size
      have hd1 : w1.heap.size + 1 < D1.heap.size := HGD.out.lt
      obtain ⟨W6, hW6⟩ : ∃ W6, w5.alloc (.cells #[.int .i64 0, .int .i64 0] 34) = W6 := ⟨_, rfl⟩
      have HG6 : Hid (Box W6 w5.heap.size 34 #[.int .i64 0, .int .i64 0]) := by
        subst hW6
        exact Box.made w5 _ _
      have HB6 : Hid (Below w5.heap.size w5 W6) := by
        subst hW6
        exact alloc_later _ _
      have HB56 := hid (bt b5 HB6.out)
      obtain ⟨E0, E1, d0, d1, ⟨e0, e1⟩, ⟨g0, g1⟩, HD⟩ := rchain2 HG6.out (by decide) (.int .i64 ce) (.int .i64 ze)
      have HRE : Hid (Box E1 w.heap.size 27 #[.string ⟨#[]⟩, .bool false, .slice none 0 0, .slice none 0 0, .slice none 0 0]) := HD.out.2.1 _ _ _ (by omega) (HRD.out.later HB56.out HRD.out.lt)
      have HFE : Hid (Box E1 (w.heap.size + 1) 34 #[.int .i64 0, .int .i64 0]) := HD.out.2.1 _ _ _ (by omega) (HFD.out.later HB56.out HFD.out.lt)
      have HQE : Hid (Box E1 w1.heap.size 27 #[.string q.s, .bool q.n, .slice q.a q.xs.length q.ca, .slice q.b q.ys.length q.cb, .slice q.t q.ts.length q.ct]) := HD.out.2.1 _ _ _ (by omega) (HQD.out.later HB56.out HQD.out.lt)
      have HGE : Hid (Box E1 w5.heap.size 34 #[.int .i64 ce, .int .i64 ze]) := HD.out.1
      have HBE : Hid (Below w.heap.size w E1) := HD.out.2.2.2.1 _ _ (by omega) (bt HB5.out HB56.out)
      have HOE : Hid (q.Ow E1 Y.heap.size) := HOW.out.later (HD.out.2.2.2.1 _ _ (by omega) HB56.out)
      have hsz : D1.heap.size ≤ E1.heap.size := by
        have h1 := HD.out.2.2.2.2
        have h2 := HB56.out.size
        omega
      have hw1 : w1.heap.size ≤ E1.heap.size := by omega
      have HPK := hid hck
      have y0 : E1.cell? ⟨w5.heap.size, 0, none⟩ = some (.int .i64 ce) := HGE.out.cell 0
      have y1 : E1.cell? ⟨w5.heap.size, 1, none⟩ = some (.int .i64 ze) := HGE.out.cell 1
      clear b5 hck HD HG6 HB6 HB56 HQD HRD HFD HGD
      by_cases hce : ce = 0
      · subst hce
        obtain ⟨_, hz⟩ := HPK.out.good
        subst hz
        have k0 : E1.cell? ⟨w1.heap.size, 0, none⟩ = some (.string q.s) := HQE.out.cell 0
        have k1 : E1.cell? ⟨w1.heap.size, 1, none⟩ = some (.bool q.n) := HQE.out.cell 1
        have k2 : E1.cell? ⟨w1.heap.size, 2, none⟩ = some (.slice q.a q.xs.length q.ca) := HQE.out.cell 2
        have k3 : E1.cell? ⟨w1.heap.size, 3, none⟩ = some (.slice q.b q.ys.length q.cb) := HQE.out.cell 3
        have k4 : E1.cell? ⟨w1.heap.size, 4, none⟩ = some (.slice q.t q.ts.length q.ct) := HQE.out.cell 4
        obtain ⟨A0, A1, A2, A3, A4, p0, p1, p2, p3, p4, ⟨r0, r1, r2, r3, r4⟩, ⟨f0, f1, f2, f3, f4⟩, HA⟩ := pchain5 HRE.out (.string q.s) (.bool q.n) (.slice q.a q.xs.length q.ca) (.slice q.b q.ys.length q.cb) (.slice q.t q.ts.length q.ct)
        have HFA : Hid (Box A4 (w.heap.size + 1) 34 #[.int .i64 0, .int .i64 0]) := HA.out.2.1 _ _ _ (by omega) HFE.out
        obtain ⟨⟨m0, m1⟩, ⟨n0, n1⟩, ⟨l0, l1⟩⟩ := fzero2 HFA.out
        have HRA := hid HA.out.1
        have HMA : Hid (Made q u w A4) := HM.out.to (HOE.out.put (by decide) (by decide) HA.out.2.2.1) (by have := HA.out.2.2.2.2; omega) (by omega) (HA.out.2.2.2.1 _ _ (by omega) HBE.out)
        clear HA HOE HQE HGE
        go_wp2_with fail
        exact bodyPost_ret (pres2_run (by rfl) HRA.out HFA.out _ rfl rfl) rfl ⟨q, u, 0, 0, rfl, .inr ⟨HSZ.out, u, 0, z0, HLN.out, .inr ⟨rfl, q, 0, 0, HM.out.v, HPK.out, .inr ⟨rfl, rfl, rfl, rfl⟩⟩⟩, HMA.out⟩
      · have hw : IntKind.i64.wrap (ze + 1) = ze + 1 := by
          have h1 := HPK.out.at_
          have h2 := HQK.out.len
          have h3 := h2.2.1
          unfold maxLen at h3
          rw [IntKind.wrap_i64]; omega
        have h0' : (ce == 0) = false := by simp [hce]
        have h0'' : (ce != 0) = true := by simp [hce]
        have HCN := hid hce
        obtain ⟨⟨s0', s1', s2', s3', s4'⟩, ⟨x0, x1, x2, x3, x4⟩, ⟨u0, u1, u2, u3, u4⟩⟩ := pzero5 HRE.out
        obtain ⟨A0, A1, q0, q1, ⟨r0, r1⟩, ⟨v0, v1⟩, HA⟩ := rchain2 HFE.out (by decide) (.int .i64 ce) (.int .i64 (ze + 1))
        have HRA : Hid (Box A1 w.heap.size 27 #[.string ⟨#[]⟩, .bool false, .slice none 0 0, .slice none 0 0, .slice none 0 0]) := HA.out.2.1 _ _ _ (by omega) HRE.out
        have HBA : Hid (Below w.heap.size w A1) := HA.out.2.2.2.1 _ _ (by omega) HBE.out
        have HFA := hid HA.out.1
        have HGB : Hid (Box A1 w5.heap.size 34 #[.int .i64 ce, .int .i64 ze]) := HA.out.2.1 _ _ _ (by omega) HGE.out
        have b0 : A1.cell? ⟨w5.heap.size, 0, none⟩ = some (.int .i64 ce) := HGB.out.cell 0
        have b1 : A1.cell? ⟨w5.heap.size, 1, none⟩ = some (.int .i64 ze) := HGB.out.cell 1
        clear HA hce HRE HFE
        go_wp2_with fail
        go_region_held3 (fun V : World => V.cell? ⟨w5.heap.size, 0, none⟩ = some (.int .i64 ce) ∧ V.cell? ⟨w5.heap.size, 1, none⟩ = some (.int .i64 ze)) (first | exact ⟨y0, y1⟩ | exact ⟨b0, b1⟩ | go_keep) (fail)
        all_goals
          go_wp2_with fail
          exact bodyPost_ret (pres2_run (by rfl) (HRA.out.drewN 1) (HFA.out.drewN 1) _ rfl rfl) rfl ⟨PL.zero, PV.zero, ce, ze + 1, rfl, .inr ⟨HSZ.out, u, 0, z0, HLN.out, .inr ⟨rfl, q, ce, ze, HM.out.v, HPK.out, .inl ⟨HCN.out, rfl, rfl, rfl⟩⟩⟩, Made.none HBA.out.drew⟩
    · have h0' : (c0 == 0) = false := by simp [hc0]
      have h0'' : (c0 != 0) = true := by simp [hc0]
      have HCN := hid hc0
      obtain ⟨⟨s0', s1', s2', s3', s4'⟩, ⟨x0, x1, x2, x3, x4⟩, ⟨u0, u1, u2, u3, u4⟩⟩ := pzero5 HRD.out
      obtain ⟨B0, B1, q0, q1, ⟨m0, m1⟩, ⟨v0, v1⟩, HA⟩ := rchain2 HFD.out (by decide) (.int .i64 c0) (.int .i64 z0)
      have HRA : Hid (Box B1 w.heap.size 27 #[.string ⟨#[]⟩, .bool false, .slice none 0 0, .slice none 0 0, .slice none 0 0]) := HA.out.2.1 _ _ _ (by omega) HRD.out
      have HBA : Hid (Below w.heap.size w B1) := HA.out.2.2.2.1 _ _ (by omega) HB5.out
      have HFA := hid HA.out.1
      have HGB : Hid (Box B1 (w1.heap.size + 1) 34 #[.int .i64 c0, .int .i64 z0]) := HA.out.2.1 _ _ _ (by omega) HGD.out
      have b0 : B1.cell? ⟨w1.heap.size + 1, 0, none⟩ = some (.int .i64 c0) := HGB.out.cell 0
      have b1 : B1.cell? ⟨w1.heap.size + 1, 1, none⟩ = some (.int .i64 z0) := HGB.out.cell 1
      clear HA hc0 HRD HFD
      go_wp2_with fail
      go_region_held3 (fun V : World => V.cell? ⟨w1.heap.size + 1, 0, none⟩ = some (.int .i64 c0) ∧ V.cell? ⟨w1.heap.size + 1, 1, none⟩ = some (.int .i64 z0)) (first | exact ⟨y0, y1⟩ | exact ⟨b0, b1⟩ | go_keep) (fail)
      all_goals
        go_wp2_with fail
        exact bodyPost_ret (pres2_run (by rfl) (HRA.out.drewN 1) (HFA.out.drewN 1) _ rfl rfl) rfl ⟨PL.zero, PV.zero, c0, z0, rfl, .inr ⟨HSZ.out, u, c0, z0, HLN.out, .inl ⟨HCN.out, rfl, rfl, rfl⟩⟩, Made.none HBA.out.drew⟩
def WdF (lx ly : Nat) : Prop := (lx ≤ 12 ∧ ly ≤ 12) ∨ 2048 < lx ∨ 2048 < ly
def LaS (p : PV) : Prop := p.ts.length ≤ 30 ∧ WdF p.xs.length p.ys.length ∧ ∀ t ∈ p.ts, WdF t.xs.length t.ys.length ∧ WdF t.us.length t.vs.length
def LaQ (Q : Prop) (w : World) (e : Ending) (w' : World) : Prop := ∃ bo : Bool, e = .returned (.bool bo) ∧ (bo = false → Q) ∧ Below w.heap.size w w'
theorem las_of {p : PL} (h1 : p.ts.length ≤ 30) (h2 : WdF p.xs.length p.ys.length) (h3 : ∀ f ∈ partsT p.ts, WdF f.xs.length f.ys.length) : LaS p.v := by
  refine ⟨by show (p.ts.map TL.v).length ≤ 30; rw [List.length_map]; exact h1, h2, fun t ht => ?_⟩
  obtain ⟨u, hu, rfl⟩ := List.mem_map.1 ht
  exact ⟨h3 u.re (List.mem_flatMap.2 ⟨u, hu, List.mem_cons_self ..⟩), h3 u.im (List.mem_flatMap.2 ⟨u, hu, List.mem_cons_of_mem _ (List.mem_cons_self ..)⟩)⟩
theorem pwide_told (n : Bool) (a : Option Addr) (lx ca : Nat) (b : Option Addr) (ly cb : Nat) (w : World) :
    Calls Tryz.prog 15 #[.agg #[.bool n, .slice a lx ca, .slice b ly cb]] w (LaQ (WdF lx ly) w) := by
  obtain ⟨X, hX⟩ : ∃ X, w.alloc (.cells #[.bool n, .slice a lx ca, .slice b ly cb] 24) = X := ⟨_, rfl⟩
  have HX : Hid (Box X w.heap.size 24 #[.bool n, .slice a lx ca, .slice b ly cb]) := by
    subst hX
    exact Box.made w _ _
  have HB : Hid (Below w.heap.size w X) := by
    subst hX
    exact alloc_later _ _
  have k1 : X.cell? ⟨w.heap.size, 1, none⟩ = some (.slice a lx ca) := HX.out.cell 1
  have k2 : X.cell? ⟨w.heap.size, 2, none⟩ = some (.slice b ly cb) := HX.out.cell 2
  obtain ⟨M, hm1, hM⟩ : ∃ M : Nat, (lx ≤ M ∧ ly ≤ M ∧ (M = lx ∨ M = ly)) ∧ (∀ V ty, (Builtin.max_ #[3, 3] ty #[.int .i64 (lx : Int), .int .i64 (ly : Int)]).run Tryz.prog V = .ok (.int .i64 (M : Int)) V) := by
    by_cases h : lx < ly
    · have h' : (lx : Int) < (ly : Int) := by omega
      exact ⟨ly, ⟨by omega, by omega, .inr rfl⟩, fun V ty => by simp [Builtin.max_, Builtin.max2, h, h']⟩
    · have h' : ¬ (lx : Int) < (ly : Int) := by omega
      exact ⟨lx, ⟨by omega, by omega, .inl rfl⟩, fun V ty => by simp [Builtin.max_, Builtin.max2, h, h']⟩
  have HM := hid hM
  have HMM := hid hm1
  clear hm1
  by_cases h1 : (M : Int) ≤ 12
  · have h1' : ¬ (12 : Int) < (M : Int) := by omega
    go_enter Tryz.func15, Tryz.ntmps15
    go_wp2_with fail
    go_ret
    exact ⟨_, rfl, (fun _ => .inl (by have := HMM.out; omega)), HB.out⟩
  · have h1' : (12 : Int) < (M : Int) := by omega
    by_cases h2 : (M : Int) ≤ 2048
    · go_enter Tryz.func15, Tryz.ntmps15
      go_wp2_with fail
      go_ret
      exact ⟨true, rfl, (fun h => by cases h), HB.out⟩
    · go_enter Tryz.func15, Tryz.ntmps15
      go_wp2_with fail
      go_ret
      exact ⟨_, rfl, (fun _ => .inr (by have := HMM.out; omega)), HB.out⟩
set_option maxHeartbeats 1600000 in
set_option maxRecDepth 100000 in
theorem plarge_told (p : PL) (w : World) (hp : p.ok w) : Calls Tryz.prog 5 #[.agg p.cells] w (LaQ (LaS p.v) w) := by
  obtain ⟨X, hX⟩ : ∃ X, w.alloc (.cells #[.string p.s, .bool p.n, .slice p.a p.xs.length p.ca, .slice p.b p.ys.length p.cb, .slice p.t p.ts.length p.ct] 27) = X := ⟨_, rfl⟩
  have HX : Hid (Box X w.heap.size 27 #[.string p.s, .bool p.n, .slice p.a p.xs.length p.ca, .slice p.b p.ys.length p.cb, .slice p.t p.ts.length p.ct]) := by
    subst hX
    exact Box.made w _ _
  have HB : Hid (Below w.heap.size w X) := by
    subst hX
    exact alloc_later _ _
  have HTS : Hid (∀ V, Below w.heap.size w V → RdT V p.t p.ts) := fun V hV => hp.ts.later hV
  have HWD : Hid (∀ (f : F3) V, Calls Tryz.prog 15 #[.agg #[.bool f.n, .slice f.a f.xs.length f.ca, .slice f.b f.ys.length f.cb]] V (LaQ (WdF f.xs.length f.ys.length) V)) := fun f V => pwide_told f.n f.a f.xs.length f.ca f.b f.ys.length f.cb V
  have k1 : X.cell? ⟨w.heap.size, 1, none⟩ = some (.bool p.n) := HX.out.cell 1
  have k2 : X.cell? ⟨w.heap.size, 2, none⟩ = some (.slice p.a p.xs.length p.ca) := HX.out.cell 2
  have k3 : X.cell? ⟨w.heap.size, 3, none⟩ = some (.slice p.b p.ys.length p.cb) := HX.out.cell 3
  have k4 : X.cell? ⟨w.heap.size, 4, none⟩ = some (.slice p.t p.ts.length p.ct) := HX.out.cell 4
  unfold PL.cells
  clear hp
  obtain ⟨N, hN⟩ : ∃ N, p.ts.length = N := ⟨_, rfl⟩
  have HLN := hid hN
  rw [hN] at k4 ⊢
  rw [hN] at hX
  clear hN
  by_cases h30 : 30 < N
  · have h30' : (30 : Int) < (N : Int) := by omega
    go_enter Tryz.func5, Tryz.ntmps5
    go_wp2_with fail
    go_ret
    exact ⟨true, rfl, (fun h => by cases h), HB.out⟩
  · have h30' : ¬ (30 : Int) < (N : Int) := by omega
    go_enter Tryz.func5, Tryz.ntmps5
    go_wp2_with fail
    refine Calls.mono (HWD.out ⟨p.n, p.a, p.ca, p.xs, p.b, p.cb, p.ys⟩ X) ?_
    rintro e w1 ⟨bo, rfl, q1, b1⟩
    have HX1 := hid (HX.out.later b1 HX.out.lt)
    have HB1 := hid (bt HB.out b1)
    clear b1 k1 k2 k3 k4
    cases bo with
    | true =>
      go_wp2_with fail
      go_ret
      exact ⟨true, rfl, (fun h => by cases h), HB1.out⟩
    | false =>
      have HQ1 := hid (q1 rfl)
      clear q1
      have k4 : w1.cell? ⟨w.heap.size, 4, none⟩ = some (.slice p.t N p.ct) := by
        have q : w1.cell? ⟨w.heap.size, 4, none⟩ = some (.slice p.t p.ts.length p.ct) := HX1.out.cell 4
        rw [HLN.out] at q
        exact q
      go_wp2_with fail
      refine Calls.mono (numbersOf_any p.t N p.ct p.ts w1 (by omega) HLN.out (HTS.out w1 HB1.out)) ?_
      rintro e w2 ⟨a2, c2, rfl, o2, b2⟩
      go_wp2_with fail
      refine Calls.mono (partsOf_any a2 N c2 _ p.ts w2 (by omega) HLN.out o2) ?_
      rintro e w3 ⟨a3, c3, rfl, o3, _, b3⟩
      have HB3 := hid (bt HB1.out (bt b2 b3))
      have HO3 := hid o3
      have HPL : Hid ((partsT p.ts).length = 2 * N) := by rw [partsT_len, HLN.out]; exact rfl
      clear o2 b2 o3 b3 k4 HX1 HX
      go_wp2_with fail
      go_loopw [4] (fun x wr => ∃ k : Nat, k ≤ 2 * N ∧ x = .int .i64 (k : Int) ∧ Hid (∀ j f, j < k → (partsT p.ts)[j]? = some f → WdF f.xs.length f.ys.length) ∧ Hid (Below w3.heap.size w3 wr)) (fun x _ => 2 * N - (intOf x).toNat)
      case atStart => exact ⟨0, Nat.zero_le _, rfl, (fun j f h => absurd h (Nat.not_lt_zero j) : ∀ (j : Nat) (f : F3), j < 0 → (partsT p.ts)[j]? = some f → WdF f.xs.length f.ys.length), Below.refl _ _⟩
      case round =>
        obtain ⟨k, hk, rfl, HF, HBk⟩ := hrel
        by_cases hlt : k < 2 * N
        · obtain ⟨g, rfl⟩ : ∃ g, a3 = some ⟨g, 0, none⟩ := by
            rcases HO3.out.2 with ⟨h1, h0⟩ | ⟨g, cap, cur, hv, _⟩
            · omega
            · injection hv with e1 _ _
              exact ⟨g, e1⟩
          obtain ⟨f, hf⟩ : ∃ f, (partsT p.ts)[k]? = some f := ⟨_, List.getElem?_eq_getElem (by rw [HPL.out]; exact hlt)⟩
          have hr := qown_later HO3.out HBk.out
          have c : ∀ i, i < 3 → wr.cell? ⟨g, k * 3 + i, none⟩ = f.cells[i]? := fun i hi => by rw [hr.cellAt (k * 3 + i) (by omega), flat3_at hf hi]
          have e0 : wr.cell? ⟨g, k * 3, none⟩ = some (.bool f.n) := c 0 (by decide)
          have e1 : wr.cell? ⟨g, k * 3 + 1, none⟩ = some (.slice f.a f.xs.length f.ca) := c 1 (by decide)
          have e2 : wr.cell? ⟨g, k * 3 + 2, none⟩ = some (.slice f.b f.ys.length f.cb) := c 2 (by decide)
          have hk0 : (0 : Int) ≤ (k : Int) := by omega
          have hk1 : (k : Int) < 2 * (N : Int) := by omega
          have HFN : Hid (WdF f.xs.length f.ys.length → ∀ j f', j < k + 1 → (partsT p.ts)[j]? = some f' → WdF f'.xs.length f'.ys.length) := fun h j f' hj hf' => by
            rcases Nat.lt_or_ge j k with g1 | g1
            · exact HF.out j f' g1 hf'
            · obtain rfl : j = k := by omega
              rw [hf] at hf'
              rw [← Option.some.inj hf']
              exact h
          clear c hr hf
          go_wp2_with fail
          refine Calls.mono (HWD.out f wr) ?_
          rintro e w5 ⟨bo, rfl, q5, b5⟩
          have HB5 := hid (bt HBk.out b5)
          clear b5 e0 e1 e2
          cases bo with
          | true =>
            go_wp2_with fail
            go_ret
            exact ⟨true, rfl, (fun h => by cases h), bt HB3.out HB5.out⟩
          | false =>
            have HF2 := hid (HFN.out (q5 rfl))
            clear q5
            go_wp2_with fail
            go_roundw
            case rel => exact ⟨k + 1, by omega, by go_num, HF2, HB5⟩
            case measure => simp [intOf]; omega
        · obtain rfl : k = 2 * N := by omega
          have hk1 : ¬ (((2 * N : Nat) : Int)) < (((2 * N : Nat) : Int)) := by omega
          have HALL : Hid (LaS p.v) := las_of (by rw [HLN.out]; omega) HQ1.out fun f hf => by
            obtain ⟨j, hj⟩ := List.mem_iff_getElem?.1 hf
            have hjl := (List.getElem?_eq_some_iff.1 hj).1
            rw [HPL.out] at hjl
            exact HF.out j f hjl hj
          go_wp2_with fail
          go_ret
          exact ⟨_, rfl, (fun _ => HALL.out), bt HB3.out HBk.out⟩
theorem wdf_few {n : Bool} {xs ys : List Int} (h : WdF xs.length ys.length) (hk : rchk n xs ys = 0) : xs.length ≤ 12 ∧ ys.length ≤ 12 := by
  have h1 := (rchk_ok hk).1
  have h2 := (rchk_ok hk).2.1
  unfold WdF at h
  omega
theorem line_few {t : TV} (hk : t.chk = 0) (ho : t.ok) (h1 : WdF t.xs.length t.ys.length) (h2 : WdF t.us.length t.vs.length) : t.line.length ≤ 600 := by
  obtain ⟨_, _, wx, wy, wu, wv⟩ := ho
  obtain ⟨hn, hoc, hg⟩ := tchk_ok hk
  obtain ⟨g1, g2⟩ := gchk_ok hg
  obtain ⟨b1, b2⟩ := trok_in (trok hoc)
  have n1 := (tname_ok hn).2
  have i1 := zitoa_short t.f b1.1 b1.2
  have i2 := zitoa_short t.r b2.1 b2.2
  have k1 := wdf_few h1 g1
  have k2 := wdf_few h2 g2
  have r1 := zrtext_few (n := t.n) wx wy k1.1 k1.2
  have r2 := zrtext_few (n := t.m) wu wv k2.1 k2.2
  show (t.txt ++ [10]).length ≤ 600
  unfold TV.txt ttext gtext
  simp only [List.length_append, List.length_cons, List.length_nil]
  omega
theorem flat_few {K : Nat} : ∀ {ts : List TV}, (∀ t ∈ ts, t.line.length ≤ K) → (ts.flatMap TV.line).length ≤ K * ts.length
  | [], _ => by simp
  | t :: ts, h => by
    have h1 := h t (List.mem_cons_self ..)
    have h2 := flat_few (fun u hu => h u (List.mem_cons_of_mem _ hu))
    rw [List.flatMap_cons, List.length_append, List.length_cons, Nat.mul_succ]
    omega
theorem PV.Good.mem {v : PV} (hg : v.Good) : ∀ t ∈ v.ts, t.chk = 0 := fun t ht => by
  obtain ⟨j, hj⟩ := List.mem_iff_getElem?.1 ht
  have := hg.chk j (List.getElem?_eq_some_iff.1 hj).1
  rw [vT_of hj] at this
  exact this
theorem text_few {v : PV} (hg : v.Good) (ho : v.ok) (hl : LaS v) : v.text.length ≤ 65536 := by
  obtain ⟨_, wx, wy, hts⟩ := ho
  have k := wdf_few hl.2.1 hg.mean
  have r := zrtext_few (n := v.n) wx wy k.1 k.2
  have n1 := (tname_ok hg.nm).2
  have f := flat_few (K := 600) (ts := v.ts) (fun t ht => line_few (hg.mem t ht) (hts t ht) (hl.2.2 t ht).1 (hl.2.2 t ht).2)
  have h24 := hg.len
  show (v.head ++ _).length ≤ _
  unfold PV.head
  simp only [List.length_append, List.length_cons, List.length_nil]
  have : 600 * v.ts.length ≤ 600 * 24 := Nat.mul_le_mul_left _ h24
  omega
theorem prs_cases {s : ByteArray} {v : PV} {c z : Int} (h : PrsT s v c z) : (c ≠ 0 ∧ v = PV.zero) ∨ (c = 0 ∧ z = 0 ∧ v.Good ∧ v.ok ∧ v.text = s.data.toList ∧ s.size ≤ 65536) := by
  rcases h with ⟨_, h1, rfl, _⟩ | ⟨hs, u, c0, z0, hl, h⟩
  · exact .inl ⟨by decide, h1⟩
  · have hz : s.data.toList.length ≤ 65536 := by
      have e : s.data.toList.length = s.size := Array.length_toList
      omega
    rcases h with ⟨h0, h1, rfl, _⟩ | ⟨rfl, q, ce, ze, hq, hp, h⟩
    · exact .inl ⟨h0, h1⟩
    · rcases h with ⟨h0, h1, rfl, _⟩ | ⟨rfl, rfl, rfl, rfl⟩
      · exact .inl ⟨h0, h1⟩
      · refine .inr ⟨rfl, rfl, ?_, lns_ok hz hl, (lns_read hz hl).1, hs⟩
        rw [← hq]
        exact PL.good_iff.1 hp.good.1
theorem prs_text {v u : PV} {S : ByteArray} {c z : Int} (hg : v.Good) (ho : v.ok) (hl : v.text.length ≤ 65536) (hS : S.data.toList = v.text) (h : PrsT S u c z) : c = 0 ∧ z = 0 ∧ u = v := by
  have hz : S.size ≤ 65536 := by
    have e : S.data.toList.length = S.size := Array.length_toList
    rw [hS] at e
    omega
  rcases h with ⟨h0, _⟩ | ⟨_, u0, c0, z0, hln, h⟩
  · omega
  · rw [hS] at hln
    obtain ⟨rfl, rfl, rfl⟩ := lns_text hg ho.2.1 ho.2.2.1 ho.2.2.2 hl hln
    rcases h with ⟨h0, _⟩ | ⟨_, q, ce, ze, hq, hp, h⟩
    · exact absurd rfl h0
    · have hc : ce = 0 := PCk.one0 hp (by rw [hq]; exact hg)
      rcases h with ⟨h0, _⟩ | ⟨_, rfl, rfl, rfl⟩
      · exact absurd hc h0
      · exact ⟨rfl, rfl, rfl⟩
theorem ppt_good {p : PL} {S : ByteArray} {c : Int} (h : PpT p S c) (hg : p.v.Good) (hl : p.v.text.length ≤ 65536) : c = 0 ∧ S.data.toList = p.v.text := by
  rcases h with ⟨z, h1, h2, _⟩ | ⟨_, ⟨h1, _⟩ | ⟨_, h1, h2⟩⟩
  · exact absurd (PCk.one0 h1 hg) h2
  · omega
  · exact ⟨h1, h2⟩
theorem ppt_bad {p : PL} {S : ByteArray} {c : Int} (h : PpT p S c) (hg : ¬ p.v.Good) : c ≠ 0 := by
  rcases h with ⟨z, h1, h2, _⟩ | ⟨h1, _⟩
  · exact h2
  · exact absurd (PL.good_iff.1 h1) hg
theorem pchk_bad {p : PL} {c z : Int} (h : PChk p.hd p.ts c z) (hg : ¬ p.v.Good) : c ≠ 0 := fun e => by
  subst e
  exact hg (PL.good_iff.1 h.good.1)
theorem ppair (w : World) (q : PL) (c z : Int) : ∃ W2 W3 A0 A1 A2 A3 A4 D0 D1, w.alloc (.cells #[.string ⟨#[]⟩, .bool false, .slice none 0 0, .slice none 0 0, .slice none 0 0] 27) = W2 ∧ W2.alloc (.cells #[.int .i64 0, .int .i64 0] 34) = W3 ∧ W2.heap.size = w.heap.size + 1 ∧ W3.setCell ⟨w.heap.size, 0, none⟩ (.string q.s) = A0 ∧ A0.setCell ⟨w.heap.size, 1, none⟩ (.bool q.n) = A1 ∧ A1.setCell ⟨w.heap.size, 2, none⟩ (.slice q.a q.xs.length q.ca) = A2 ∧ A2.setCell ⟨w.heap.size, 3, none⟩ (.slice q.b q.ys.length q.cb) = A3 ∧ A3.setCell ⟨w.heap.size, 4, none⟩ (.slice q.t q.ts.length q.ct) = A4 ∧ A4.setCell ⟨w.heap.size + 1, 0, none⟩ (.int .i64 c) = D0 ∧ D0.setCell ⟨w.heap.size + 1, 1, none⟩ (.int .i64 z) = D1 ∧
    (W3.cell? ⟨w.heap.size, 0, none⟩ = some (.string ⟨#[]⟩) ∧ A0.cell? ⟨w.heap.size, 1, none⟩ = some (.bool false) ∧ A1.cell? ⟨w.heap.size, 2, none⟩ = some (.slice none 0 0) ∧ A2.cell? ⟨w.heap.size, 3, none⟩ = some (.slice none 0 0) ∧ A3.cell? ⟨w.heap.size, 4, none⟩ = some (.slice none 0 0)) ∧ (A4.cell? ⟨w.heap.size + 1, 0, none⟩ = some (.int .i64 0) ∧ D0.cell? ⟨w.heap.size + 1, 1, none⟩ = some (.int .i64 0)) ∧
    (W3.frozen? ⟨w.heap.size, 0, none⟩ = false ∧ A0.frozen? ⟨w.heap.size, 1, none⟩ = false ∧ A1.frozen? ⟨w.heap.size, 2, none⟩ = false ∧ A2.frozen? ⟨w.heap.size, 3, none⟩ = false ∧ A3.frozen? ⟨w.heap.size, 4, none⟩ = false) ∧ (A4.frozen? ⟨w.heap.size + 1, 0, none⟩ = false ∧ D0.frozen? ⟨w.heap.size + 1, 1, none⟩ = false) ∧
    Hid (Box D1 w.heap.size 27 #[.string q.s, .bool q.n, .slice q.a q.xs.length q.ca, .slice q.b q.ys.length q.cb, .slice q.t q.ts.length q.ct] ∧ Box D1 (w.heap.size + 1) 34 #[.int .i64 c, .int .i64 z] ∧ Below w.heap.size w D1) := by
  obtain ⟨W2, hW2⟩ : ∃ W2, w.alloc (.cells #[.string ⟨#[]⟩, .bool false, .slice none 0 0, .slice none 0 0, .slice none 0 0] 27) = W2 := ⟨_, rfl⟩
  obtain ⟨W3, hW3⟩ : ∃ W3, W2.alloc (.cells #[.int .i64 0, .int .i64 0] 34) = W3 := ⟨_, rfl⟩
  have hs2 : W2.heap.size = w.heap.size + 1 := by subst hW2; simp
  have HQ : Box W3 w.heap.size 27 #[.string ⟨#[]⟩, .bool false, .slice none 0 0, .slice none 0 0, .slice none 0 0] := by
    subst hW3 hW2
    exact (Box.made w _ _).later (alloc_later _ _) (Box.made w 27 _).lt
  have HG : Box W3 (w.heap.size + 1) 34 #[.int .i64 0, .int .i64 0] := by
    rw [← hs2]
    subst hW3
    exact Box.made W2 _ _
  have HB3 : Below w.heap.size w W3 := by
    subst hW3 hW2
    exact bt (alloc_later _ _) (alloc_later _ _)
  obtain ⟨A0, A1, A2, A3, A4, p0, p1, p2, p3, p4, hr, hf, HA⟩ := pchain5 HQ (.string q.s) (.bool q.n) (.slice q.a q.xs.length q.ca) (.slice q.b q.ys.length q.cb) (.slice q.t q.ts.length q.ct)
  have HGA : Box A4 (w.heap.size + 1) 34 #[.int .i64 0, .int .i64 0] := HA.out.2.1 _ _ _ (by omega) HG
  obtain ⟨D0, D1, d0, d1, he, hg, HD⟩ := rchain2 HGA (by decide) (.int .i64 c) (.int .i64 z)
  exact ⟨W2, W3, A0, A1, A2, A3, A4, D0, D1, hW2, hW3, hs2, p0, p1, p2, p3, p4, d0, d1, hr, he, hf, hg, HD.out.2.1 _ _ _ (by omega) HA.out.1, HD.out.1, HD.out.2.2.2.1 _ _ (by omega) (HA.out.2.2.2.1 _ _ (Nat.le_refl _) HB3)⟩
set_option maxHeartbeats 12800000 in
set_option maxRecDepth 100000 in
theorem portBack_in (p : PL) (s : ByteArray) (w : World) (hp : p.ok w) (htab : Tab w) (herr : ErrT w) : Calls Tryz.prog 3 #[.agg #[.string p.s, .bool p.n, .slice p.a p.xs.length p.ca, .slice p.b p.ys.length p.cb, .slice p.t p.ts.length p.ct], .string s] w fun e w' => e = .returned (.bool true) ∧ Below w.heap.size w w' := by
  obtain ⟨Y, hY⟩ : ∃ Y, w.alloc (.cells #[.string p.s, .bool p.n, .slice p.a p.xs.length p.ca, .slice p.b p.ys.length p.cb, .slice p.t p.ts.length p.ct] 27) = Y := ⟨_, rfl⟩
  have HPb : Hid (Box Y w.heap.size 27 #[.string p.s, .bool p.n, .slice p.a p.xs.length p.ca, .slice p.b p.ys.length p.cb, .slice p.t p.ts.length p.ct]) := by
    subst hY
    exact Box.made w _ _
  have HB : Hid (Below w.heap.size w Y) := by
    subst hY
    exact alloc_later _ _
  have KP := hid (hp.later HB.out)
  have KPV : Hid p.v.ok := hp.v
  have HTAB : Hid (∀ V, Below w.heap.size w V → Tab V) := fun V hv => htab.later hv
  have HERR : Hid (∀ V, Below w.heap.size w V → ErrT V) := fun V hv => herr.later hv
  clear hp htab herr
  go_enter Tryz.func3, Tryz.ntmps3
  go_wp2_with fail
  refine Calls.mono (plives_any Y (HTAB.out Y HB.out)) ?_
  rintro e w1 ⟨rfl, b1⟩
  have HW1 := hid (bt HB.out b1)
  have Hp1 := hid (HPb.out.later b1 HPb.out.lt)
  have Kp1 := hid (KP.out.later b1)
  clear HB HPb KP
  clear b1
  have cp0 : w1.cell? ⟨w.heap.size, 0, none⟩ = some (.string p.s) := Hp1.out.cell 0
  have cp1 : w1.cell? ⟨w.heap.size, 1, none⟩ = some (.bool p.n) := Hp1.out.cell 1
  have cp2 : w1.cell? ⟨w.heap.size, 2, none⟩ = some (.slice p.a p.xs.length p.ca) := Hp1.out.cell 2
  have cp3 : w1.cell? ⟨w.heap.size, 3, none⟩ = some (.slice p.b p.ys.length p.cb) := Hp1.out.cell 3
  have cp4 : w1.cell? ⟨w.heap.size, 4, none⟩ = some (.slice p.t p.ts.length p.ct) := Hp1.out.cell 4
  go_wp2_with fail
  refine Calls.mono (plarge_told p w1 Kp1.out) ?_
  rintro e w2 ⟨bo, rfl, hla, b2⟩
  clear cp0 cp1 cp2 cp3 cp4
  have HW2 := hid (bt HW1.out b2)
  have Hp2 := hid (Hp1.out.later b2 Hp1.out.lt)
  have Kp2 := hid (Kp1.out.later b2)
  clear HW1 Hp1 Kp1
  clear b2
  by_cases hbt : bo = true
  · subst hbt
    go_wp2_with fail
    go_ret
    exact ⟨rfl, HW2.out⟩
  obtain rfl : bo = false := by simpa using hbt
  have HLA := hid (hla rfl)
  clear hbt hla
  by_cases hlen : 3000 < s.size
  · have hlen2 : (3000 : Int) < (s.size : Int) := by omega
    clear hlen
    go_wp2_with fail
    go_ret
    exact ⟨rfl, HW2.out⟩
  have hlen2 : ¬ (3000 : Int) < (s.size : Int) := by omega
  have HSL : Hid (s.size ≤ 3000) := by show _ ≤ _; omega
  clear hlen
  have cp0 : w2.cell? ⟨w.heap.size, 0, none⟩ = some (.string p.s) := Hp2.out.cell 0
  have cp1 : w2.cell? ⟨w.heap.size, 1, none⟩ = some (.bool p.n) := Hp2.out.cell 1
  have cp2 : w2.cell? ⟨w.heap.size, 2, none⟩ = some (.slice p.a p.xs.length p.ca) := Hp2.out.cell 2
  have cp3 : w2.cell? ⟨w.heap.size, 3, none⟩ = some (.slice p.b p.ys.length p.cb) := Hp2.out.cell 3
  have cp4 : w2.cell? ⟨w.heap.size, 4, none⟩ = some (.slice p.t p.ts.length p.ct) := Hp2.out.cell 4
  go_wp2_with fail
  refine Calls.mono (pPrint_any p w2 Kp2.out (HTAB.out w2 HW2.out)) ?_
  rintro e w3 ⟨S, c, rfl, hpp, b3⟩
  clear cp0 cp1 cp2 cp3 cp4
  have HW3 := hid (bt HW2.out b3)
  have Hp3 := hid (Hp2.out.later b3 Hp2.out.lt)
  have Kp3 := hid (Kp2.out.later b3)
  clear HW2 Hp2 Kp2
  have HPP := hid hpp
  clear b3 hpp
  have cp0 : w3.cell? ⟨w.heap.size, 0, none⟩ = some (.string p.s) := Hp3.out.cell 0
  have cp1 : w3.cell? ⟨w.heap.size, 1, none⟩ = some (.bool p.n) := Hp3.out.cell 1
  have cp2 : w3.cell? ⟨w.heap.size, 2, none⟩ = some (.slice p.a p.xs.length p.ca) := Hp3.out.cell 2
  have cp3 : w3.cell? ⟨w.heap.size, 3, none⟩ = some (.slice p.b p.ys.length p.cb) := Hp3.out.cell 3
  have cp4 : w3.cell? ⟨w.heap.size, 4, none⟩ = some (.slice p.t p.ts.length p.ct) := Hp3.out.cell 4
  go_wp2_with fail
  refine Calls.mono (plcheck_any p w3 Kp3.out) ?_
  rintro e w4 ⟨cc, cz, rfl, hck, b4⟩
  clear cp0 cp1 cp2 cp3 cp4
  have HW4 := hid (bt HW3.out b4)
  have Hp4 := hid (Hp3.out.later b4 Hp3.out.lt)
  have Kp4 := hid (Kp3.out.later b4)
  clear HW3 Hp3 Kp3
  have HCK := hid hck
  clear b4 hck
  by_cases hg : p.v.Good
  · obtain ⟨hc, hS⟩ := ppt_good HPP.out hg (text_few hg (KPV.out) HLA.out)
    subst hc
    obtain rfl : cc = 0 := PCk.one0 HCK.out hg
    obtain ⟨_, hz0⟩ := HCK.out.good
    subst hz0
    have HG := hid hg
    have HST := hid hS
    clear hg hS
    go_wp2_with fail
    refine Calls.mono (pParse_any S w4 (HTAB.out _ HW4.out) (HERR.out _ HW4.out)) ?_
    rintro e x1 ⟨q1, v1, c1, z1, rfl, hr1, hm1⟩
    have HW5 := hid (bt HW4.out hm1.bel)
    have Hp5 := hid (Hp4.out.later hm1.bel Hp4.out.lt)
    have Kp5 := hid (Kp4.out.later hm1.bel)
    clear HW4 Hp4 Kp4
    obtain ⟨e1, e2, e3⟩ := prs_text HG.out KPV.out (text_few HG.out KPV.out HLA.out) HST.out hr1
    subst e1 e2 e3
    have HM1 : Hid (q1.v = p.v) := hm1.v
    have HOW1 := hid hm1.ow
    clear hm1 hr1
    obtain ⟨W12, W13, A10, A11, A12, A13, A14, D10, D11, hw12, hw13, hz1, p10, p11, p12, p13, p14, d10, d11, ⟨r10, r11, r12, r13, r14⟩, ⟨e10, e11⟩, ⟨f10, f11, f12, f13, f14⟩, ⟨g10, g11⟩, HD1⟩ := ppair x1 q1 (0) (0)
    have Gc : Hid (Box D11 x1.heap.size 27 #[.string q1.s, .bool q1.n, .slice q1.a q1.xs.length q1.ca, .slice q1.b q1.ys.length q1.cb, .slice q1.t q1.ts.length q1.ct]) := HD1.out.1
    have Gd : Hid (Box D11 (x1.heap.size + 1) 34 #[.int .i64 (0), .int .i64 (0)]) := HD1.out.2.1
    have HW6 := hid (bt HW5.out HD1.out.2.2)
    have Hp6 := hid (Hp5.out.later HD1.out.2.2 Hp5.out.lt)
    have Kp6 := hid (Kp5.out.later HD1.out.2.2)
    clear HW5 Hp5 Kp5
    have HQ1 : Hid (q1.ok D11) := PL.ok.later (PL.ok_of (by rw [HM1.out]; exact KPV.out) HOW1.out) HD1.out.2.2
    have cd0 : D11.cell? ⟨(x1.heap.size + 1), 0, none⟩ = some (.int .i64 (0)) := Gd.out.cell 0
    have cd1 : D11.cell? ⟨(x1.heap.size + 1), 1, none⟩ = some (.int .i64 (0)) := Gd.out.cell 1
    have cc0 : D11.cell? ⟨x1.heap.size, 0, none⟩ = some (.string q1.s) := Gc.out.cell 0
    have cc1 : D11.cell? ⟨x1.heap.size, 1, none⟩ = some (.bool q1.n) := Gc.out.cell 1
    have cc2 : D11.cell? ⟨x1.heap.size, 2, none⟩ = some (.slice q1.a q1.xs.length q1.ca) := Gc.out.cell 2
    have cc3 : D11.cell? ⟨x1.heap.size, 3, none⟩ = some (.slice q1.b q1.ys.length q1.cb) := Gc.out.cell 3
    have cc4 : D11.cell? ⟨x1.heap.size, 4, none⟩ = some (.slice q1.t q1.ts.length q1.ct) := Gc.out.cell 4
    have cp0 : D11.cell? ⟨w.heap.size, 0, none⟩ = some (.string p.s) := Hp6.out.cell 0
    have cp1 : D11.cell? ⟨w.heap.size, 1, none⟩ = some (.bool p.n) := Hp6.out.cell 1
    have cp2 : D11.cell? ⟨w.heap.size, 2, none⟩ = some (.slice p.a p.xs.length p.ca) := Hp6.out.cell 2
    have cp3 : D11.cell? ⟨w.heap.size, 3, none⟩ = some (.slice p.b p.ys.length p.cb) := Hp6.out.cell 3
    have cp4 : D11.cell? ⟨w.heap.size, 4, none⟩ = some (.slice p.t p.ts.length p.ct) := Hp6.out.cell 4
    go_wp2_with fail
    refine Calls.mono (psame_eq p q1 D11 Kp6.out HQ1.out HG.out HM1.out) ?_
    rintro e w6 ⟨rfl, b6⟩
    clear p10 p11 p12 p13 p14 d10 d11 r10 r11 r12 r13 r14 e10 e11 f10 f11 f12 f13 f14 g10 g11 hz1 cd0 cd1 cc0 cc1 cc2 cc3 cc4 cp0 cp1 cp2 cp3 cp4
    have HW7 := hid (bt HW6.out b6)
    have Hp7 := hid (Hp6.out.later b6 Hp6.out.lt)
    have Hc7 := hid (Gc.out.later b6 Gc.out.lt)
    have Hd7 := hid (Gd.out.later b6 Gd.out.lt)
    have Kp7 := hid (Kp6.out.later b6)
    have Kq17 := hid (HQ1.out.later b6)
    clear HW6 Hp6 Gc Gd Kp6 HQ1
    clear b6
    go_wp2_with fail
    refine Calls.mono (pParse_any s w6 (HTAB.out _ HW7.out) (HERR.out _ HW7.out)) ?_
    rintro e x2 ⟨q2, v2, c2, z2, rfl, hr2, hm2⟩
    have HW8 := hid (bt HW7.out hm2.bel)
    have Hp8 := hid (Hp7.out.later hm2.bel Hp7.out.lt)
    have Hc8 := hid (Hc7.out.later hm2.bel Hc7.out.lt)
    have Hd8 := hid (Hd7.out.later hm2.bel Hd7.out.lt)
    have Kp8 := hid (Kp7.out.later hm2.bel)
    have Kq18 := hid (Kq17.out.later hm2.bel)
    clear HW7 Hp7 Hc7 Hd7 Kp7 Kq17
    have HM2 : Hid (q2.v = v2) := hm2.v
    have HRT2 := hid (prs_cases hr2)
    have HOW2 := hid hm2.ow
    clear hm2 hr2
    obtain ⟨W22, W23, A20, A21, A22, A23, A24, D20, D21, hw22, hw23, hz2, p20, p21, p22, p23, p24, d20, d21, ⟨r20, r21, r22, r23, r24⟩, ⟨e20, e21⟩, ⟨f20, f21, f22, f23, f24⟩, ⟨g20, g21⟩, HD2⟩ := ppair x2 q2 (c2) (z2)
    have Gb : Hid (Box D21 x2.heap.size 27 #[.string q2.s, .bool q2.n, .slice q2.a q2.xs.length q2.ca, .slice q2.b q2.ys.length q2.cb, .slice q2.t q2.ts.length q2.ct]) := HD2.out.1
    have Gf : Hid (Box D21 (x2.heap.size + 1) 34 #[.int .i64 (c2), .int .i64 (z2)]) := HD2.out.2.1
    have HW9 := hid (bt HW8.out HD2.out.2.2)
    have Hp9 := hid (Hp8.out.later HD2.out.2.2 Hp8.out.lt)
    have Hc9 := hid (Hc8.out.later HD2.out.2.2 Hc8.out.lt)
    have Hd9 := hid (Hd8.out.later HD2.out.2.2 Hd8.out.lt)
    have Kp9 := hid (Kp8.out.later HD2.out.2.2)
    have Kq19 := hid (Kq18.out.later HD2.out.2.2)
    clear HW8 Hp8 Hc8 Hd8 Kp8 Kq18
    rcases HRT2.out with ⟨hc, hv⟩ | ⟨hc, hz, hgd, hok, htx, hsz⟩
    · have cf0 : D21.cell? ⟨(x2.heap.size + 1), 0, none⟩ = some (.int .i64 (c2)) := Gf.out.cell 0
      have cf1 : D21.cell? ⟨(x2.heap.size + 1), 1, none⟩ = some (.int .i64 (z2)) := Gf.out.cell 1
      have cb0 : D21.cell? ⟨x2.heap.size, 0, none⟩ = some (.string q2.s) := Gb.out.cell 0
      have cb1 : D21.cell? ⟨x2.heap.size, 1, none⟩ = some (.bool q2.n) := Gb.out.cell 1
      have cb2 : D21.cell? ⟨x2.heap.size, 2, none⟩ = some (.slice q2.a q2.xs.length q2.ca) := Gb.out.cell 2
      have cb3 : D21.cell? ⟨x2.heap.size, 3, none⟩ = some (.slice q2.b q2.ys.length q2.cb) := Gb.out.cell 3
      have cb4 : D21.cell? ⟨x2.heap.size, 4, none⟩ = some (.slice q2.t q2.ts.length q2.ct) := Gb.out.cell 4
      have hs0 : q2.s = ⟨#[]⟩ := by
        have e := congrArg PV.s HM2.out
        rw [hv] at e
        exact e
      have hts : q2.ts.length = 0 := by
        have e := congrArg List.length (congrArg PV.ts HM2.out)
        rw [hv] at e
        have e2 : (q2.ts.map TL.v).length = 0 := e
        rw [List.length_map] at e2
        exact e2
      rw [hs0] at p20 cb0
      rw [hts] at p24 cb4
      have hc1 : (c2 == 0) = false := by simp [hc]
      have hc2 : (c2 != 0) = true := by simp [hc]
      clear hc
      go_wp2_with fail
      go_ret
      exact ⟨rfl, HW9.out⟩
    · subst hc hz
      have HGD := hid hgd
      have HTX := hid htx
      have HQV : Hid (q2.v.Good) := by
        show q2.v.Good
        rw [HM2.out]
        exact hgd
      have HQK : Hid (q2.ok D21) := PL.ok.later (PL.ok_of (by rw [HM2.out]; exact hok) HOW2.out) HD2.out.2.2
      clear hgd hok htx hsz
      have cf0 : D21.cell? ⟨(x2.heap.size + 1), 0, none⟩ = some (.int .i64 0) := Gf.out.cell 0
      have cf1 : D21.cell? ⟨(x2.heap.size + 1), 1, none⟩ = some (.int .i64 0) := Gf.out.cell 1
      have cb0 : D21.cell? ⟨x2.heap.size, 0, none⟩ = some (.string q2.s) := Gb.out.cell 0
      have cb1 : D21.cell? ⟨x2.heap.size, 1, none⟩ = some (.bool q2.n) := Gb.out.cell 1
      have cb2 : D21.cell? ⟨x2.heap.size, 2, none⟩ = some (.slice q2.a q2.xs.length q2.ca) := Gb.out.cell 2
      have cb3 : D21.cell? ⟨x2.heap.size, 3, none⟩ = some (.slice q2.b q2.ys.length q2.cb) := Gb.out.cell 3
      have cb4 : D21.cell? ⟨x2.heap.size, 4, none⟩ = some (.slice q2.t q2.ts.length q2.ct) := Gb.out.cell 4
      go_wp2_with fail
      refine Calls.mono (pPrint_any q2 D21 HQK.out (HTAB.out _ HW9.out)) ?_
      rintro e y9 ⟨S2, u2, rfl, hpq, b9⟩
      clear p20 p21 p22 p23 p24 d20 d21 r20 r21 r22 r23 r24 e20 e21 f20 f21 f22 f23 f24 g20 g21 hz2 cf0 cf1 cb0 cb1 cb2 cb3 cb4
      have HW10 := hid (bt HW9.out b9)
      have Hp10 := hid (Hp9.out.later b9 Hp9.out.lt)
      have Hc10 := hid (Hc9.out.later b9 Hc9.out.lt)
      have Hd10 := hid (Hd9.out.later b9 Hd9.out.lt)
      have Hb10 := hid (Gb.out.later b9 Gb.out.lt)
      have Hf10 := hid (Gf.out.later b9 Gf.out.lt)
      have Kp10 := hid (Kp9.out.later b9)
      have Kq110 := hid (Kq19.out.later b9)
      have Kq10 := hid (HQK.out.later b9)
      clear HW9 Hp9 Hc9 Hd9 Gb Gf Kp9 Kq19 HQK
      obtain ⟨hu, hS⟩ := ppt_good hpq HQV.out (by
        have e : s.data.toList.length = s.size := Array.length_toList
        rw [HM2.out, HTX.out, e]
        have := HSL.out
        omega)
      subst hu
      have hSS : S2 = s := nmEq'.1 (by rw [hS, HM2.out, HTX.out])
      subst hSS
      clear hpq hS b9
      go_wp2_with fail
      go_ret
      exact ⟨rfl, HW10.out⟩
  · have hc := ppt_bad HPP.out hg
    have hcc := pchk_bad HCK.out hg
    have hc1' : (c == 0) = false := by simp [hc]
    have hc2' : (c != 0) = true := by simp [hc]
    have hd1' : (cc == 0) = false := by simp [hcc]
    have hd2' : (cc != 0) = true := by simp [hcc]
    clear hc hcc hg
    go_wp2_with fail
    refine Calls.mono (pParse_any s w4 (HTAB.out _ HW4.out) (HERR.out _ HW4.out)) ?_
    rintro e x2 ⟨q2, v2, c2, z2, rfl, hr2, hm2⟩
    have HW11 := hid (bt HW4.out hm2.bel)
    have Hp11 := hid (Hp4.out.later hm2.bel Hp4.out.lt)
    have Kp11 := hid (Kp4.out.later hm2.bel)
    clear HW4 Hp4 Kp4
    have HM2 : Hid (q2.v = v2) := hm2.v
    have HRT2 := hid (prs_cases hr2)
    have HOW2 := hid hm2.ow
    clear hm2 hr2
    obtain ⟨W22, W23, A20, A21, A22, A23, A24, D20, D21, hw22, hw23, hz2, p20, p21, p22, p23, p24, d20, d21, ⟨r20, r21, r22, r23, r24⟩, ⟨e20, e21⟩, ⟨f20, f21, f22, f23, f24⟩, ⟨g20, g21⟩, HD2⟩ := ppair x2 q2 (c2) (z2)
    have Gb : Hid (Box D21 x2.heap.size 27 #[.string q2.s, .bool q2.n, .slice q2.a q2.xs.length q2.ca, .slice q2.b q2.ys.length q2.cb, .slice q2.t q2.ts.length q2.ct]) := HD2.out.1
    have Gf : Hid (Box D21 (x2.heap.size + 1) 34 #[.int .i64 (c2), .int .i64 (z2)]) := HD2.out.2.1
    have HW12 := hid (bt HW11.out HD2.out.2.2)
    have Hp12 := hid (Hp11.out.later HD2.out.2.2 Hp11.out.lt)
    have Kp12 := hid (Kp11.out.later HD2.out.2.2)
    clear HW11 Hp11 Kp11
    rcases HRT2.out with ⟨hc, hv⟩ | ⟨hc, hz, hgd, hok, htx, hsz⟩
    · have cf0 : D21.cell? ⟨(x2.heap.size + 1), 0, none⟩ = some (.int .i64 (c2)) := Gf.out.cell 0
      have cf1 : D21.cell? ⟨(x2.heap.size + 1), 1, none⟩ = some (.int .i64 (z2)) := Gf.out.cell 1
      have cb0 : D21.cell? ⟨x2.heap.size, 0, none⟩ = some (.string q2.s) := Gb.out.cell 0
      have cb1 : D21.cell? ⟨x2.heap.size, 1, none⟩ = some (.bool q2.n) := Gb.out.cell 1
      have cb2 : D21.cell? ⟨x2.heap.size, 2, none⟩ = some (.slice q2.a q2.xs.length q2.ca) := Gb.out.cell 2
      have cb3 : D21.cell? ⟨x2.heap.size, 3, none⟩ = some (.slice q2.b q2.ys.length q2.cb) := Gb.out.cell 3
      have cb4 : D21.cell? ⟨x2.heap.size, 4, none⟩ = some (.slice q2.t q2.ts.length q2.ct) := Gb.out.cell 4
      have hs0 : q2.s = ⟨#[]⟩ := by
        have e := congrArg PV.s HM2.out
        rw [hv] at e
        exact e
      have hts : q2.ts.length = 0 := by
        have e := congrArg List.length (congrArg PV.ts HM2.out)
        rw [hv] at e
        have e2 : (q2.ts.map TL.v).length = 0 := e
        rw [List.length_map] at e2
        exact e2
      rw [hs0] at p20 cb0
      rw [hts] at p24 cb4
      have hc1 : (c2 == 0) = false := by simp [hc]
      have hc2 : (c2 != 0) = true := by simp [hc]
      clear hc
      go_wp2_with fail
      go_ret
      exact ⟨rfl, HW12.out⟩
    · subst hc hz
      have HGD := hid hgd
      have HTX := hid htx
      have HQV : Hid (q2.v.Good) := by
        show q2.v.Good
        rw [HM2.out]
        exact hgd
      have HQK : Hid (q2.ok D21) := PL.ok.later (PL.ok_of (by rw [HM2.out]; exact hok) HOW2.out) HD2.out.2.2
      clear hgd hok htx hsz
      have cf0 : D21.cell? ⟨(x2.heap.size + 1), 0, none⟩ = some (.int .i64 0) := Gf.out.cell 0
      have cf1 : D21.cell? ⟨(x2.heap.size + 1), 1, none⟩ = some (.int .i64 0) := Gf.out.cell 1
      have cb0 : D21.cell? ⟨x2.heap.size, 0, none⟩ = some (.string q2.s) := Gb.out.cell 0
      have cb1 : D21.cell? ⟨x2.heap.size, 1, none⟩ = some (.bool q2.n) := Gb.out.cell 1
      have cb2 : D21.cell? ⟨x2.heap.size, 2, none⟩ = some (.slice q2.a q2.xs.length q2.ca) := Gb.out.cell 2
      have cb3 : D21.cell? ⟨x2.heap.size, 3, none⟩ = some (.slice q2.b q2.ys.length q2.cb) := Gb.out.cell 3
      have cb4 : D21.cell? ⟨x2.heap.size, 4, none⟩ = some (.slice q2.t q2.ts.length q2.ct) := Gb.out.cell 4
      go_wp2_with fail
      refine Calls.mono (pPrint_any q2 D21 HQK.out (HTAB.out _ HW12.out)) ?_
      rintro e y9 ⟨S2, u2, rfl, hpq, b9⟩
      clear p20 p21 p22 p23 p24 d20 d21 r20 r21 r22 r23 r24 e20 e21 f20 f21 f22 f23 f24 g20 g21 hz2 cf0 cf1 cb0 cb1 cb2 cb3 cb4
      have HW13 := hid (bt HW12.out b9)
      have Hp13 := hid (Hp12.out.later b9 Hp12.out.lt)
      have Hb13 := hid (Gb.out.later b9 Gb.out.lt)
      have Hf13 := hid (Gf.out.later b9 Gf.out.lt)
      have Kp13 := hid (Kp12.out.later b9)
      have Kq13 := hid (HQK.out.later b9)
      clear HW12 Hp12 Gb Gf Kp12 HQK
      obtain ⟨hu, hS⟩ := ppt_good hpq HQV.out (by
        have e : s.data.toList.length = s.size := Array.length_toList
        rw [HM2.out, HTX.out, e]
        have := HSL.out
        omega)
      subst hu
      have hSS : S2 = s := nmEq'.1 (by rw [hS, HM2.out, HTX.out])
      subst hSS
      clear hpq hS b9
      go_wp2_with fail
      go_ret
      exact ⟨rfl, HW13.out⟩
end Go.Proofs.YthaggppcbaeokaaGreatDoor
namespace Go.Proofs.YthaggppcbaeokaaGreatDoor
open Go.RowKit Go.ChangeShapes Go.WideShapes Go.ChangeAt Go.Joins Go.Deep
set_option linter.unusedVariables false
end Go.Proofs.YthaggppcbaeokaaGreatDoor
namespace Go.Proofs.YthaggppcbaeokaaGreatDoor
open Go.RowKit
theorem portBack_of (p : PL) (s : ByteArray) (w : World) (hp : p.ok w) (htab : Tab w) (herr : ErrT w) : Calls Tryz.prog 3 #[.agg p.cells, .string s] w fun e w' => e = .returned (.bool true) ∧ Below w.heap.size w w' :=
  portBack_in p s w hp htab herr
end Go.Proofs.YthaggppcbaeokaaGreatDoor
