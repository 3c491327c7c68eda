/- My texts on the way to GaussTexts, one behind the other: contracts of the program and of the document's answers. -/
import Derived.Test.YtdgecalkhbbkoaaGreatDoorJ1
import Derived.Test.YtdgecalkhbbkoaaGreatDoorJ2
import Derived.Test.YtdgecalkhbbkoaaGreatDoorJ3
import Derived.Test.YtdgecalkhbbkoaaGreatDoorJ4
import Derived.Test.YtdgecalkhbbkoaaGreatDoorJ5
import Derived.Test.YtdgecalkhbbkoaaGreatDoorJ6
import Derived.Test.YtdgecalkhbbkoaaGreatDoorShelf
import Derived.Lib.IndexBytes
import Derived.Lib.CutLaws
import Derived.Shelf.RegionOpenPlain
/- strings.Cut at one byte. -/
namespace Go.Proofs.YtdgecalkhbbkoaaGreatDoor
open Go.RowKit Go.Lib
set_option linter.unusedVariables false
set_option linter.unusedSimpArgs false

set_option maxHeartbeats 1600000 in
set_option maxRecDepth 100000 in
theorem zcut0_any (s : ByteArray) (c : UInt8) (w : World) (hs : s.size ≤ 281474976710656) :
    Calls Tryz.prog 36 #[.string s, .string ⟨#[c]⟩] w fun e w' => e = .returned (.tuple #[.string ⟨(Lib.cut s.data.toList [c]).1.toArray⟩, .string ⟨(Lib.cut s.data.toList [c]).2.1.toArray⟩, .bool (Lib.cut s.data.toList [c]).2.2]) ∧ Below w.heap.size w w' := by
  have HI := hid (Tryz.stringslite_Index_one s c w)
  rw [← Lib.index_one] at HI
  rcases Lib.indexB_cases s ⟨#[c]⟩ with hix | ⟨i, hix, hroom⟩
  · obtain ⟨e1, e2, e3⟩ := Lib.cutB_miss s ⟨#[c]⟩ hix
    have e1' : (⟨(Lib.cut s.data.toList [c]).1.toArray⟩ : ByteArray) = _ := e1
    have e2' : (⟨(Lib.cut s.data.toList [c]).2.1.toArray⟩ : ByteArray) = _ := e2
    have e3' : (Lib.cut s.data.toList [c]).2.2 = _ := e3
    have hix' : Lib.index s.data.toList [c] = -1 := hix
    rw [hix'] at HI
    rw [e1', e2', e3']
    clear e1 e2 e3 e1' e2' e3' hix hix'
    go_enter Tryz.func36, Tryz.ntmps36
    go_wp2_with fail
    refine Calls.mono HI.out ?_
    rintro e w1 ⟨rfl, rfl⟩
    go_wp2_with fail
    go_returns
    exact ⟨rfl, Below.refl _ _⟩
  · obtain ⟨e1, e2, e3⟩ := Lib.cutB_hit s ⟨#[c]⟩ i hix
    have e1' : (⟨(Lib.cut s.data.toList [c]).1.toArray⟩ : ByteArray) = _ := e1
    have e2' : (⟨(Lib.cut s.data.toList [c]).2.1.toArray⟩ : ByteArray) = _ := e2
    have e3' : (Lib.cut s.data.toList [c]).2.2 = _ := e3
    have hix' : Lib.index s.data.toList [c] = (i : Int) := hix
    rw [hix'] at HI
    rw [e1', e2', e3']
    have hr : i + 1 ≤ s.size := hroom
    have c1 : (0 : Int) ≤ ↑i := by omega
    have c2 : (↑i : Int) ≤ ↑s.size := by omega
    have c3 : (0 : Int) ≤ ↑i + 1 := by omega
    have c4 : (↑i + 1 : Int) ≤ ↑s.size := by omega
    have hw : IntKind.i64.wrap ((i : Int) + 1) = (i : Int) + 1 := by rw [IntKind.wrap_i64]; omega
    have ht : ((i : Int) + 1).toNat = i + 1 := by omega
    clear e1 e2 e3 e1' e2' e3' hix hix' hroom
    go_enter Tryz.func36, Tryz.ntmps36
    go_wp2_with fail
    refine Calls.mono HI.out ?_
    rintro e w1 ⟨rfl, rfl⟩
    go_wp2_with fail
    go_region
    go_wp2_with fail
    go_returns
    exact ⟨rfl, (Below.refl _ _).drew⟩
set_option maxHeartbeats 1600000 in
set_option maxRecDepth 100000 in
theorem zcut_any (s : ByteArray) (c : UInt8) (w : World) (hs : s.size ≤ 281474976710656) :
    Calls Tryz.prog 18 #[.string s, .string ⟨#[c]⟩] w fun e w' => e = .returned (.tuple #[.string ⟨(Lib.cut s.data.toList [c]).1.toArray⟩, .string ⟨(Lib.cut s.data.toList [c]).2.1.toArray⟩, .bool (Lib.cut s.data.toList [c]).2.2]) ∧ Below w.heap.size w w' := by
  have HC := hid (zcut0_any s c w hs)
  generalize (Lib.cut s.data.toList [c]).1.toArray = A at *
  generalize (Lib.cut s.data.toList [c]).2.1.toArray = B at *
  generalize (Lib.cut s.data.toList [c]).2.2 = C at *
  go_enter Tryz.func18, Tryz.ntmps18
  go_wp2_with fail
  refine Calls.mono HC.out ?_
  rintro e w1 ⟨rfl, hb⟩
  go_wp2_with fail
  go_returns
  exact ⟨rfl, hb⟩
theorem zcut_len (l : List UInt8) (c : UInt8) : (Lib.cut l [c]).1.length ≤ l.length ∧ (Lib.cut l [c]).2.1.length ≤ l.length := by
  unfold Lib.cut
  split
  · simp
    omega
  · simp
end Go.Proofs.YtdgecalkhbbkoaaGreatDoor

/- Complex fractions: gauss.Parse: of any text. -/
namespace Go.Proofs.YtdgecalkhbbkoaaGreatDoor
open Go.RowKit Go.Lib
set_option linter.unusedVariables false

/-- A complex fraction told in new memory, all four rows apart. -/
def GToldC (w : World) (E : Int) (L : Prop) (q1 q2 : Rat) (x : Ending) (w' : World) : Prop :=
  ∃ n a ca xs b cb ys m c cc us d cd vs code, x = .returned (.tuple #[.agg #[.bool n, .slice a (List.length xs) ca, .slice b (List.length ys) cb, .bool m, .slice c (List.length us) cc, .slice d (List.length vs) cd], .int .i64 code]) ∧ (w'.ownsRow w.heap.size 71 1 (.slice a xs.length ca) xs.length (xs.map (Value.int .u32)) ∧ w'.ownsRow w.heap.size 71 1 (.slice b ys.length cb) ys.length (ys.map (Value.int .u32)) ∧ w'.ownsRow w.heap.size 71 1 (.slice c us.length cc) us.length (us.map (Value.int .u32)) ∧ w'.ownsRow w.heap.size 71 1 (.slice d vs.length cd) vs.length (vs.map (Value.int .u32))) ∧ GTells E L q1 q2 n xs ys m us vs code ∧ Below w.heap.size w w' ∧ ∃ W1, Cut w (.slice a xs.length ca) (.slice b ys.length cb) W1 ∧ Cut W1 (.slice c us.length cc) (.slice d vs.length cd) w'
theorem GToldC.told {w w' : World} {E : Int} {L : Prop} {q1 q2 : Rat} {x : Ending} (h : GToldC w E L q1 q2 x w') : GTold w E L q1 q2 x w' := by
  obtain ⟨n, a, ca, xs, b, cb, ys, m, c, cc, us, d, cd, vs, code, e, o, t, hb, _⟩ := h
  exact ⟨n, a, ca, xs, b, cb, ys, m, c, cc, us, d, cd, vs, code, e, o, t, hb⟩
theorem cut_nil (w w' : World) (h : w.heap.size ≤ w'.heap.size) : Cut w (.slice none 0 0) (.slice none 0 0) w' := ⟨w.heap.size, Nat.le_refl _, h, fun g hg => by simp [Value.ownBlock] at hg, fun g hg => by simp [Value.ownBlock] at hg⟩
theorem gtoldc_zero {w W : World} {E : Int} {L : Prop} {q1 q2 : Rat} {code : Int} (h : E ≠ 0 ∧ code = E ∨ E = 0 ∧ L ∧ code = 3) (hb : Below w.heap.size w W) : GToldC w E L q1 q2 (.returned (.tuple #[.agg #[.bool false, .slice none 0 0, .slice none 0 0, .bool false, .slice none 0 0, .slice none 0 0], .int .i64 code])) W := by
  refine ⟨false, none, 0, [], none, 0, [], false, none, 0, [], none, 0, [], code, rfl, ⟨World.ownsRow_nil _ _ _ _, World.ownsRow_nil _ _ _ _, World.ownsRow_nil _ _ _ _, World.ownsRow_nil _ _ _ _⟩, ⟨⟨Wd.nil, Wd.nil, Wd.nil, Wd.nil⟩, fun he => ⟨⟨rfl, rfl, rfl, rfl, rfl, rfl⟩, ?_⟩, fun he hl => ⟨⟨rfl, rfl, rfl, rfl, rfl, rfl⟩, ?_⟩, fun he hl => ?_⟩, hb, W, cut_nil _ _ hb.size, cut_nil _ _ (Nat.le_refl _)⟩
  · rcases h with h | h
    · exact h.2
    · exact absurd h.1 he
  · rcases h with h | h
    · exact absurd he h.1
    · exact h.2.2
  · rcases h with h | h
    · exact absurd he h.1
    · exact absurd h.2.1 hl

/-- The two pieces of a text. -/
def gp1 (l : List UInt8) : List UInt8 := (Lib.cut l [32]).1
def gp2 (l : List UInt8) : List UInt8 := (Lib.cut l [32]).2.1
def ggood (l : List UInt8) : Prop := rgood (gp1 l) ∧ rgood (gp2 l)
def gplong (l : List UInt8) : Prop := rlong (rpq (gp1 l)) ∨ rlong (rpq (gp2 l))
open Classical in
/-- What is refused of a text, but for numbers that are too long. -/
noncomputable def gpE (s : ByteArray) : Int := if 65536 < s.size then 3 else if ggood s.data.toList then 0 else 140
theorem gpE_long {s : ByteArray} (h : 65536 < s.size) : gpE s = 3 := by unfold gpE; rw [if_pos h]
theorem gpE_good {s : ByteArray} (hs : s.size ≤ 65536) (h : ggood s.data.toList) : gpE s = 0 := by unfold gpE; rw [if_neg (by omega), if_pos h]
theorem gpE_bad {s : ByteArray} (hs : s.size ≤ 65536) (h : ¬ ggood s.data.toList) : gpE s = 140 := by unfold gpE; rw [if_neg (by omega), if_neg h]
/-- The codes of both pieces, and what is told of them. -/
theorem gpar_codes {l1 l2 : List UInt8} (z1 : l1.length ≤ 65536) (z2 : l2.length ≤ 65536) {n m : Bool} {xs ys us vs : List Int} {c1 c2 : Int} (h1 : RTells (prErr ⟨l1.toArray⟩) (rpq l1) n xs ys c1) (h2 : RTells (prErr ⟨l2.toArray⟩) (rpq l2) m us vs c2) :
    (c1 = 130 ∧ ¬ (rgood l1 ∧ rgood l2)) ∨ (c1 ≠ 130 ∧ c2 = 130 ∧ ¬ (rgood l1 ∧ rgood l2)) ∨ ((rgood l1 ∧ rgood l2) ∧ c1 = 3 ∧ c2 ≠ 130 ∧ (rlong (rpq l1) ∨ rlong (rpq l2))) ∨ ((rgood l1 ∧ rgood l2) ∧ c1 = 0 ∧ c2 = 3 ∧ (rlong (rpq l1) ∨ rlong (rpq l2))) ∨ ((rgood l1 ∧ rgood l2) ∧ c1 = 0 ∧ c2 = 0 ∧ ¬ (rlong (rpq l1) ∨ rlong (rpq l2)) ∧ (rchk n xs ys = 0 ∧ rq n xs ys = rpq l1) ∧ rchk m us vs = 0 ∧ rq m us vs = rpq l2) := by
  have s1 : (⟨l1.toArray⟩ : ByteArray).size ≤ 65536 := by show l1.toArray.size ≤ 65536; simpa using z1
  have s2 : (⟨l2.toArray⟩ : ByteArray).size ≤ 65536 := by show l2.toArray.size ≤ 65536; simpa using z2
  have g1 : (⟨l1.toArray⟩ : ByteArray).data.toList = l1 := by simp
  have g2 : (⟨l2.toArray⟩ : ByteArray).data.toList = l2 := by simp
  have c2f : ¬ rgood l2 → c2 = 130 := fun h => by
    have e := prErr_bad s2 (by rw [g2]; exact h)
    rw [e] at h2
    exact (h2.bad (by decide)).2.2.2
  have c2t : rgood l2 → (c2 = 3 ∧ rlong (rpq l2)) ∨ (c2 = 0 ∧ ¬ rlong (rpq l2) ∧ rchk m us vs = 0 ∧ rq m us vs = rpq l2) := fun h => by
    have e := prErr_good s2 (by rw [g2]; exact h)
    rw [e] at h2
    by_cases hl : rlong (rpq l2)
    · exact .inl ⟨(h2.long rfl hl).2.2.2, hl⟩
    · exact .inr ⟨(h2.good rfl hl).1, hl, (h2.good rfl hl).2⟩
  by_cases k1 : rgood l1
  · have e := prErr_good s1 (by rw [g1]; exact k1)
    rw [e] at h1
    by_cases k2 : rgood l2
    · rcases c2t k2 with ⟨d, hl2⟩ | ⟨d, hl2, hk⟩
      · by_cases hl : rlong (rpq l1)
        · exact .inr (.inr (.inl ⟨⟨k1, k2⟩, (h1.long rfl hl).2.2.2, by omega, .inl hl⟩))
        · exact .inr (.inr (.inr (.inl ⟨⟨k1, k2⟩, (h1.good rfl hl).1, d, .inr hl2⟩)))
      · by_cases hl : rlong (rpq l1)
        · exact .inr (.inr (.inl ⟨⟨k1, k2⟩, (h1.long rfl hl).2.2.2, by omega, .inl hl⟩))
        · exact .inr (.inr (.inr (.inr ⟨⟨k1, k2⟩, (h1.good rfl hl).1, d, fun h => h.elim hl hl2, (h1.good rfl hl).2, hk⟩)))
    · refine .inr (.inl ⟨?_, c2f k2, fun h => k2 h.2⟩)
      by_cases hl : rlong (rpq l1)
      · have := (h1.long rfl hl).2.2.2; omega
      · have := (h1.good rfl hl).1; omega
  · have e := prErr_bad s1 (by rw [g1]; exact k1)
    rw [e] at h1
    exact .inl ⟨(h1.bad (by decide)).2.2.2, fun h => k1 h.1⟩

set_option maxHeartbeats 1600000 in
set_option maxRecDepth 100000 in
theorem gParse_long (s : ByteArray) (w : World) (hs : 65536 < s.size) (hm : s.size ≤ 281474976710656) (L : Prop) (q1 q2 : Rat) : Calls Tryz.prog 8 #[.string s] w (GToldC w 3 L q1 q2) := by
  have HX := hid (Box.made w 26 #[.bool false, .slice none 0 0, .slice none 0 0, .bool false, .slice none 0 0, .slice none 0 0])
  have HB := hid (alloc_later w (.cells #[.bool false, .slice none 0 0, .slice none 0 0, .bool false, .slice none 0 0, .slice none 0 0] 26))
  obtain ⟨X, hX⟩ : ∃ X, w.alloc (.cells #[.bool false, .slice none 0 0, .slice none 0 0, .bool false, .slice none 0 0, .slice none 0 0] 26) = X := ⟨_, rfl⟩
  rw [hX] at HX HB
  have m0 : X.cell? ⟨w.heap.size, 0, none⟩ = some (.bool false) := HX.out.cell 0
  have m1 : X.cell? ⟨w.heap.size, 1, none⟩ = some (.slice none 0 0) := HX.out.cell 1
  have m2 : X.cell? ⟨w.heap.size, 2, none⟩ = some (.slice none 0 0) := HX.out.cell 2
  have m3 : X.cell? ⟨w.heap.size, 3, none⟩ = some (.bool false) := HX.out.cell 3
  have m4 : X.cell? ⟨w.heap.size, 4, none⟩ = some (.slice none 0 0) := HX.out.cell 4
  have m5 : X.cell? ⟨w.heap.size, 5, none⟩ = some (.slice none 0 0) := HX.out.cell 5
  have f0 := HX.out.free 0
  have f1 := HX.out.free 1
  have f2 := HX.out.free 2
  have f3 := HX.out.free 3
  have f4 := HX.out.free 4
  have f5 := HX.out.free 5
  have hs' : (65536 : Int) < (s.size : Int) := by omega
  clear hs
  go_enter Tryz.func8, Tryz.ntmps8
  go_wp2_with fail
  have B1 := box_put6 HX.out (.bool false) (.slice none 0 0) (.slice none 0 0) (.bool false) (.slice none 0 0) (.slice none 0 0)
  have G1 := below_put6 HB.out w.heap.size (Nat.le_refl _) (.bool false) (.slice none 0 0) (.slice none 0 0) (.bool false) (.slice none 0 0) (.slice none 0 0)
  clear m0 m1 m2 m3 m4 m5 f0 f1 f2 f3 f4 f5
  exact bodyPost_ret (gres_run (by rfl) B1 _ rfl) rfl (gtoldc_zero (E := 3) (.inl ⟨by decide, rfl⟩) G1)

set_option maxHeartbeats 3200000 in
set_option maxRecDepth 100000 in
theorem gParse_any (s : ByteArray) (w : World) (hm : s.size ≤ 281474976710656) : Calls Tryz.prog 8 #[.string s] w (GToldC w (gpE s) (gplong s.data.toList) (rpq (gp1 s.data.toList)) (rpq (gp2 s.data.toList))) := by
  by_cases hs : 65536 < s.size
  · rw [gpE_long hs]
    exact gParse_long s w hs hm _ _ _
  have HX := hid (Box.made w 26 #[.bool false, .slice none 0 0, .slice none 0 0, .bool false, .slice none 0 0, .slice none 0 0])
  have HB := hid (alloc_later w (.cells #[.bool false, .slice none 0 0, .slice none 0 0, .bool false, .slice none 0 0, .slice none 0 0] 26))
  obtain ⟨X, hX⟩ : ∃ X, w.alloc (.cells #[.bool false, .slice none 0 0, .slice none 0 0, .bool false, .slice none 0 0, .slice none 0 0] 26) = X := ⟨_, rfl⟩
  rw [hX] at HX HB
  have hs' : ¬ (65536 : Int) < (s.size : Int) := by omega
  have HC := hid (zcut_any s 32 X hm)
  have hl : s.data.toList.length = s.size := Array.length_toList
  have hz1 : (Lib.cut s.data.toList [32]).1.length ≤ 65536 := by have := (zcut_len s.data.toList 32).1; omega
  have hz2 : (Lib.cut s.data.toList [32]).2.1.length ≤ 65536 := by have := (zcut_len s.data.toList 32).2; omega
  have HEG : Hid (ggood s.data.toList → gpE s = 0) := gpE_good (by omega)
  have HEB : Hid (¬ ggood s.data.toList → gpE s = 140) := gpE_bad (by omega)
  have HGG : Hid (ggood s.data.toList ↔ (rgood (gp1 s.data.toList) ∧ rgood (gp2 s.data.toList))) := Iff.rfl
  have HLL : Hid (gplong s.data.toList ↔ (rlong (rpq (gp1 s.data.toList)) ∨ rlong (rpq (gp2 s.data.toList)))) := Iff.rfl
  have e1 : gp1 s.data.toList = (Lib.cut s.data.toList [32]).1 := rfl
  have e2 : gp2 s.data.toList = (Lib.cut s.data.toList [32]).2.1 := rfl
  rw [← e1] at hz1 HC
  rw [← e2] at hz2 HC
  clear e1 e2 hl hs
  generalize gp1 s.data.toList = l1 at *
  generalize gp2 s.data.toList = l2 at *
  generalize ggood s.data.toList = GG at *
  generalize gplong s.data.toList = GL at *
  generalize gpE s = E at *
  have H1 : Hid (∀ V, Calls Tryz.prog 19 #[.string ⟨l1.toArray⟩] V (RToldA V (prErr ⟨l1.toArray⟩) (rpq l1))) := fun V => rparse_any ⟨l1.toArray⟩ V (by show l1.toArray.size ≤ 65536; simpa using hz1)
  have H2 : Hid (∀ V, Calls Tryz.prog 19 #[.string ⟨l2.toArray⟩] V (RToldA V (prErr ⟨l2.toArray⟩) (rpq l2))) := fun V => rparse_any ⟨l2.toArray⟩ V (by show l2.toArray.size ≤ 65536; simpa using hz2)
  have HP : Hid (∀ {n m : Bool} {xs ys us vs : List Int} {c1 c2 : Int}, RTells (prErr ⟨l1.toArray⟩) (rpq l1) n xs ys c1 → RTells (prErr ⟨l2.toArray⟩) (rpq l2) m us vs c2 → _) := fun h1 h2 => gpar_codes hz1 hz2 h1 h2
  generalize prErr ⟨l1.toArray⟩ = p1 at *
  generalize prErr ⟨l2.toArray⟩ = p2 at *
  generalize rpq l1 = q1 at *
  generalize rpq l2 = q2 at *
  generalize (rgood l1 ∧ rgood l2) = GD at *
  generalize (Lib.cut s.data.toList [32]).2.2 = fnd at *
  generalize l1.toArray = A1 at *
  generalize l2.toArray = A2 at *
  clear hz1 hz2
  go_enter Tryz.func8, Tryz.ntmps8
  go_wp2_with fail
  refine Calls.mono HC.out ?_
  rintro e w1 ⟨rfl, hb1⟩
  have HW1 := hid (bt HB.out hb1)
  have HR1 := hid (HX.out.later hb1 HX.out.lt)
  clear hb1 HC
  go_wp2_with fail
  refine Calls.mono (H1.out _) ?_
  rintro x w2 ⟨n, v, xs, u, ys, code1, rfl, ov1, ou1, ht1, hb2, hcut1⟩
  obtain ⟨av1, cv1, rfl⟩ := own_slice' ov1
  obtain ⟨au1, cu1, rfl⟩ := own_slice' ou1
  have HW2 := hid (bt HW1.out hb2)
  have HR2 := hid (HR1.out.later hb2 HR1.out.lt)
  have HN := hid (Box.made w2 24 #[.bool n, .slice av1 xs.length cv1, .slice au1 ys.length cu1])
  have HNB := hid (alloc_later w2 (.cells #[.bool n, .slice av1 xs.length cv1, .slice au1 ys.length cu1] 24))
  obtain ⟨Z, hZ⟩ : ∃ Z, w2.alloc (.cells #[.bool n, .slice av1 xs.length cv1, .slice au1 ys.length cu1] 24) = Z := ⟨_, rfl⟩
  rw [hZ] at HN HNB
  have HV1 := hid ov1
  have HU1 := hid ou1
  have HT1 := hid ht1
  have HC1 := hid hcut1
  have h12 : w1.heap.size ≤ w2.heap.size := hb2.size
  clear ov1 ou1 ht1 hcut1 hb2 H1
  go_wp2_with fail
  refine Calls.mono (H2.out _) ?_
  rintro x w3 ⟨m, v, us, u, vs, code2, rfl, ov2, ou2, ht2, hb3, hcut2⟩
  obtain ⟨av2, cv2, rfl⟩ := own_slice' ov2
  obtain ⟨au2, cu2, rfl⟩ := own_slice' ou2
  have HM := hid (Box.made w3 24 #[.bool m, .slice av2 us.length cv2, .slice au2 vs.length cu2])
  have HMB := hid (alloc_later w3 (.cells #[.bool m, .slice av2 us.length cv2, .slice au2 vs.length cu2] 24))
  obtain ⟨Q, hQ⟩ : ∃ Q, w3.alloc (.cells #[.bool m, .slice av2 us.length cv2, .slice au2 vs.length cu2] 24) = Q := ⟨_, rfl⟩
  rw [hQ] at HM HMB
  have hb2Q : Below w2.heap.size w2 Q := bt HNB.out (bt hb3 HMB.out)
  have HW3 := hid (bt HW2.out hb2Q)
  have HR3 := hid (HR2.out.later hb2Q HR2.out.lt)
  have HN3 := hid (HN.out.later (bt hb3 HMB.out) HN.out.lt)
  have HOO := hid (And.intro (owns_later HV1.out hb2Q) (And.intro (owns_later HU1.out hb2Q) (And.intro (owns_later ov2 HMB.out) (owns_later ou2 HMB.out))))
  have HC2 : Hid (Cut w2 (.slice av2 us.length cv2) (.slice au2 vs.length cu2) Q) := hcut2.up HNB.out.size HMB.out.size
  have HTT := hid (HP.out HT1.out ht2)
  have HWD := hid (And.intro HT1.out.wx (And.intro HT1.out.wy (And.intro ht2.wx ht2.wy)))
  have hsz1 : w.heap.size ≤ w1.heap.size := HW1.out.size
  have hszZ : w2.heap.size ≤ Z.heap.size := HNB.out.size
  clear ov2 ou2 ht2 hcut2 H2 HP hb2Q hb3 HT1
  have m0 : Q.cell? ⟨w.heap.size, 0, none⟩ = some (.bool false) := HR3.out.cell 0
  have m1 : Q.cell? ⟨w.heap.size, 1, none⟩ = some (.slice none 0 0) := HR3.out.cell 1
  have m2 : Q.cell? ⟨w.heap.size, 2, none⟩ = some (.slice none 0 0) := HR3.out.cell 2
  have m3 : Q.cell? ⟨w.heap.size, 3, none⟩ = some (.bool false) := HR3.out.cell 3
  have m4 : Q.cell? ⟨w.heap.size, 4, none⟩ = some (.slice none 0 0) := HR3.out.cell 4
  have m5 : Q.cell? ⟨w.heap.size, 5, none⟩ = some (.slice none 0 0) := HR3.out.cell 5
  have f0 := HR3.out.free 0
  have f1 := HR3.out.free 1
  have f2 := HR3.out.free 2
  have f3 := HR3.out.free 3
  have f4 := HR3.out.free 4
  have f5 := HR3.out.free 5
  rcases HTT.out with ⟨rfl, hg⟩ | ⟨d1, rfl, hg⟩ | ⟨hg, rfl, d2, hL⟩ | ⟨hg, rfl, rfl, hL⟩ | ⟨hg, rfl, rfl, hL, hk⟩
  · have HE := hid (HEB.out (fun h => hg (HGG.out.1 h)))
    clear HTT
    go_wp2_with fail
    have B1 := box_put6 HR3.out (.bool false) (.slice none 0 0) (.slice none 0 0) (.bool false) (.slice none 0 0) (.slice none 0 0)
    have G1 := below_put6 HW3.out w.heap.size (Nat.le_refl _) (.bool false) (.slice none 0 0) (.slice none 0 0) (.bool false) (.slice none 0 0) (.slice none 0 0)
    clear m0 m1 m2 m3 m4 m5 f0 f1 f2 f3 f4 f5
    exact bodyPost_ret (gres_run (by rfl) B1 _ rfl) rfl (gtoldc_zero (E := E) (.inl ⟨by rw [HE.out]; decide, HE.out.symm⟩) G1)
  · have HE := hid (HEB.out (fun h => hg (HGG.out.1 h)))
    have d1' : (code1 == 130) = false := by simp [d1]
    clear d1
    clear HTT
    go_wp2_with fail
    have B1 := box_put6 HR3.out (.bool false) (.slice none 0 0) (.slice none 0 0) (.bool false) (.slice none 0 0) (.slice none 0 0)
    have G1 := below_put6 HW3.out w.heap.size (Nat.le_refl _) (.bool false) (.slice none 0 0) (.slice none 0 0) (.bool false) (.slice none 0 0) (.slice none 0 0)
    clear m0 m1 m2 m3 m4 m5 f0 f1 f2 f3 f4 f5
    exact bodyPost_ret (gres_run (by rfl) B1 _ rfl) rfl (gtoldc_zero (E := E) (.inl ⟨by rw [HE.out]; decide, HE.out.symm⟩) G1)
  · have HE := hid (HEG.out (HGG.out.2 hg))
    have d2' : (code2 == 130) = false := by simp [d2]
    have HLo := hid (HLL.out.2 hL)
    clear d2 hL hg
    clear HTT
    go_wp2_with fail
    have B1 := box_put6 HR3.out (.bool false) (.slice none 0 0) (.slice none 0 0) (.bool false) (.slice none 0 0) (.slice none 0 0)
    have G1 := below_put6 HW3.out w.heap.size (Nat.le_refl _) (.bool false) (.slice none 0 0) (.slice none 0 0) (.bool false) (.slice none 0 0) (.slice none 0 0)
    clear m0 m1 m2 m3 m4 m5 f0 f1 f2 f3 f4 f5
    exact bodyPost_ret (gres_run (by rfl) B1 _ rfl) rfl (gtoldc_zero (E := E) (.inr ⟨HE.out, HLo.out, rfl⟩) G1)
  · have HE := hid (HEG.out (HGG.out.2 hg))
    have HLo := hid (HLL.out.2 hL)
    clear hL hg
    clear HTT
    go_wp2_with fail
    have B1 := box_put6 HR3.out (.bool false) (.slice none 0 0) (.slice none 0 0) (.bool false) (.slice none 0 0) (.slice none 0 0)
    have G1 := below_put6 HW3.out w.heap.size (Nat.le_refl _) (.bool false) (.slice none 0 0) (.slice none 0 0) (.bool false) (.slice none 0 0) (.slice none 0 0)
    clear m0 m1 m2 m3 m4 m5 f0 f1 f2 f3 f4 f5
    exact bodyPost_ret (gres_run (by rfl) B1 _ rfl) rfl (gtoldc_zero (E := E) (.inr ⟨HE.out, HLo.out, rfl⟩) G1)
  · have HE := hid (HEG.out (HGG.out.2 hg))
    have HLo := hid (fun h => hL (HLL.out.1 h))
    have HKK := hid hk
    have ka0 : Q.cell? ⟨w2.heap.size, 0, none⟩ = some (.bool n) := HN3.out.cell 0
    have ka1 : Q.cell? ⟨w2.heap.size, 1, none⟩ = some (.slice av1 xs.length cv1) := HN3.out.cell 1
    have ka2 : Q.cell? ⟨w2.heap.size, 2, none⟩ = some (.slice au1 ys.length cu1) := HN3.out.cell 2
    have kb0 : Q.cell? ⟨w3.heap.size, 0, none⟩ = some (.bool m) := HM.out.cell 0
    have kb1 : Q.cell? ⟨w3.heap.size, 1, none⟩ = some (.slice av2 us.length cv2) := HM.out.cell 1
    have kb2 : Q.cell? ⟨w3.heap.size, 2, none⟩ = some (.slice au2 vs.length cu2) := HM.out.cell 2
    clear HTT hL hk hg
    go_wp2_with fail
    have B1 := box_put6 HR3.out (.bool n) (.slice av1 xs.length cv1) (.slice au1 ys.length cu1) (.bool m) (.slice av2 us.length cv2) (.slice au2 vs.length cu2)
    have G1 := below_put6 HW3.out w.heap.size (Nat.le_refl _) (.bool n) (.slice av1 xs.length cv1) (.slice au1 ys.length cu1) (.bool m) (.slice av2 us.length cv2) (.slice au2 vs.length cu2)
    have hwX : w.heap.size < X.heap.size := HX.out.lt
    have hX1 : w.heap.size < w1.heap.size := HR1.out.lt
    have hput : ∀ {base k : Nat} {v : Value} {l : List Value}, Q.ownsRow base 71 1 v k l → (∀ g, v.ownBlock = some g → w1.heap.size ≤ g) → ((((((Q.setCell ⟨w.heap.size, 0, none⟩ (.bool n)).setCell ⟨w.heap.size, 1, none⟩ (.slice av1 xs.length cv1)).setCell ⟨w.heap.size, 2, none⟩ (.slice au1 ys.length cu1)).setCell ⟨w.heap.size, 3, none⟩ (.bool m)).setCell ⟨w.heap.size, 4, none⟩ (.slice av2 us.length cv2)).setCell ⟨w.heap.size, 5, none⟩ (.slice au2 vs.length cu2)).ownsRow base 71 1 v k l := fun h hb => own_put6 h _ (fun g hg => by have := hb g hg; omega) _ _ _ _ _ _
    clear m0 m1 m2 m3 m4 m5 f0 f1 f2 f3 f4 f5
    refine bodyPost_ret (gres_run (by rfl) B1 _ rfl) rfl ?_
    have hszQ : w.heap.size ≤ Z.heap.size := by omega
    refine ⟨n, av1, cv1, xs, au1, cu1, ys, m, av2, cv2, us, au2, cu2, vs, 0, rfl, ⟨owns_base (hput HOO.out.1 (fun g hg => (HOO.out.1.lt g hg).1)) hsz1, owns_base (hput HOO.out.2.1 (fun g hg => (HOO.out.2.1.lt g hg).1)) hsz1, owns_base (hput HOO.out.2.2.1 (fun g hg => by have := (HOO.out.2.2.1.lt g hg).1; omega)) hszQ, owns_base (hput HOO.out.2.2.2 (fun g hg => by have := (HOO.out.2.2.2.lt g hg).1; omega)) hszQ⟩, ⟨HWD.out, fun h => absurd HE.out h, fun _ h => absurd h HLo.out, fun _ _ => ⟨rfl, HKK.out⟩⟩, G1, w2, HC1.out.up hsz1 (Nat.le_refl _), HC2.out.up (Nat.le_refl _) (by simp [World.setCell])⟩
end Go.Proofs.YtdgecalkhbbkoaaGreatDoor

/- The document's Parse of complex fractions, of any text. (tools/mkgd2.py) -/
namespace Go.Proofs.YtdgecalkhbbkoaaGreatDoor
open Go.RowKit Go.Lib
set_option linter.unusedVariables false

set_option maxHeartbeats 1600000 in
set_option maxRecDepth 100000 in
theorem d4Parse_long (s : ByteArray) (w : World) (hs : 65536 < s.size) (hm : s.size ≤ 281474976710656) (L : Prop) (q1 q2 : Rat) : Calls Tryz.prog 9 #[.string s] w (GTold w 3 L q1 q2) := by
  have HX := hid (Box.made w 26 #[.bool false, .slice none 0 0, .slice none 0 0, .bool false, .slice none 0 0, .slice none 0 0])
  have HB := hid (alloc_later w (.cells #[.bool false, .slice none 0 0, .slice none 0 0, .bool false, .slice none 0 0, .slice none 0 0] 26))
  obtain ⟨X, hX⟩ : ∃ X, w.alloc (.cells #[.bool false, .slice none 0 0, .slice none 0 0, .bool false, .slice none 0 0, .slice none 0 0] 26) = X := ⟨_, rfl⟩
  rw [hX] at HX HB
  have m0 : X.cell? ⟨w.heap.size, 0, none⟩ = some (.bool false) := HX.out.cell 0
  have m1 : X.cell? ⟨w.heap.size, 1, none⟩ = some (.slice none 0 0) := HX.out.cell 1
  have m2 : X.cell? ⟨w.heap.size, 2, none⟩ = some (.slice none 0 0) := HX.out.cell 2
  have m3 : X.cell? ⟨w.heap.size, 3, none⟩ = some (.bool false) := HX.out.cell 3
  have m4 : X.cell? ⟨w.heap.size, 4, none⟩ = some (.slice none 0 0) := HX.out.cell 4
  have m5 : X.cell? ⟨w.heap.size, 5, none⟩ = some (.slice none 0 0) := HX.out.cell 5
  have f0 := HX.out.free 0
  have f1 := HX.out.free 1
  have f2 := HX.out.free 2
  have f3 := HX.out.free 3
  have f4 := HX.out.free 4
  have f5 := HX.out.free 5
  have hs' : (65536 : Int) < (s.size : Int) := by omega
  clear hs
  go_enter Tryz.func9, Tryz.ntmps9
  go_wp2_with fail
  have B1 := box_put6 HX.out (.bool false) (.slice none 0 0) (.slice none 0 0) (.bool false) (.slice none 0 0) (.slice none 0 0)
  have G1 := below_put6 HB.out w.heap.size (Nat.le_refl _) (.bool false) (.slice none 0 0) (.slice none 0 0) (.bool false) (.slice none 0 0) (.slice none 0 0)
  clear m0 m1 m2 m3 m4 m5 f0 f1 f2 f3 f4 f5
  exact bodyPost_ret (gres_run (by rfl) B1 _ rfl) rfl (gtoldc_zero (E := 3) (.inl ⟨by decide, rfl⟩) G1).told

set_option maxHeartbeats 3200000 in
set_option maxRecDepth 100000 in
theorem d4Parse_any (s : ByteArray) (w : World) (hm : s.size ≤ 281474976710656) : Calls Tryz.prog 9 #[.string s] w (GTold w (gpE s) (gplong s.data.toList) (rpq (gp1 s.data.toList)) (rpq (gp2 s.data.toList))) := by
  by_cases hs : 65536 < s.size
  · rw [gpE_long hs]
    exact d4Parse_long s w hs hm _ _ _
  have HX := hid (Box.made w 26 #[.bool false, .slice none 0 0, .slice none 0 0, .bool false, .slice none 0 0, .slice none 0 0])
  have HB := hid (alloc_later w (.cells #[.bool false, .slice none 0 0, .slice none 0 0, .bool false, .slice none 0 0, .slice none 0 0] 26))
  obtain ⟨X, hX⟩ : ∃ X, w.alloc (.cells #[.bool false, .slice none 0 0, .slice none 0 0, .bool false, .slice none 0 0, .slice none 0 0] 26) = X := ⟨_, rfl⟩
  rw [hX] at HX HB
  have hs' : ¬ (65536 : Int) < (s.size : Int) := by omega
  have HC := hid (d4blank_any s X (by omega))
  have hl : s.data.toList.length = s.size := Array.length_toList
  have HEB : Hid (¬ ggood s.data.toList → gpE s = 140) := gpE_bad (by omega)
  have HEG : Hid (ggood s.data.toList → gpE s = 0) := gpE_good (by omega)
  have HSZ := hid hs
  go_enter Tryz.func9, Tryz.ntmps9
  go_wp2_with fail
  refine Calls.mono HC.out ?_
  rintro e w1 ⟨r, rfl, HBL, hw1⟩
  subst hw1
  have hidx := bl_index HBL.out
  rcases HBL.out with ⟨hr, _⟩ | ⟨k, hr, hk, _, _⟩
  · subst hr
    have HE : Hid (gpE s = 140) := HEB.out (fun h => by
      have e2 : gp2 s.data.toList = [] := by unfold gp2 Lib.cut; rw [hidx, if_neg (by omega)]
      have h2 := h.2
      rw [e2] at h2
      exact absurd h2.1 (fun h3 => absurd h3.1 (by decide)))
    obtain ⟨m0, m1, m2, m3, m4, m5⟩ := Kl6.of HX.out
    have f0 := HX.out.free 0
    have f1 := HX.out.free 1
    have f2 := HX.out.free 2
    have f3 := HX.out.free 3
    have f4 := HX.out.free 4
    have f5 := HX.out.free 5
    clear hidx HC hl hs hX
    go_wp2_with fail
    have B1 := box_put6 HX.out (.bool false) (.slice none 0 0) (.slice none 0 0) (.bool false) (.slice none 0 0) (.slice none 0 0)
    have G1 := below_put6 HB.out w.heap.size (Nat.le_refl _) (.bool false) (.slice none 0 0) (.slice none 0 0) (.bool false) (.slice none 0 0) (.slice none 0 0)
    clear m0 m1 m2 m3 m4 m5 f0 f1 f2 f3 f4 f5
    refine bodyPost_ret (gres_run (by rfl) B1 _ rfl) rfl ?_
    rw [HE.out]
    exact (gtoldc_zero (E := 140) (.inl ⟨by decide, rfl⟩) G1).told
  subst hr
  have hz1 : (gp1 s.data.toList).length ≤ 65536 := by have h1 := (zcut_len s.data.toList 32).1; have h2 := HSZ.out; show (Lib.cut s.data.toList [32]).1.length ≤ _; omega
  have hz2 : (gp2 s.data.toList).length ≤ 65536 := by have h1 := (zcut_len s.data.toList 32).2; have h2 := HSZ.out; show (Lib.cut s.data.toList [32]).2.1.length ≤ _; omega
  have HGG : Hid (ggood s.data.toList ↔ (rgood (gp1 s.data.toList) ∧ rgood (gp2 s.data.toList))) := Iff.rfl
  have HLL : Hid (gplong s.data.toList ↔ (rlong (rpq (gp1 s.data.toList)) ∨ rlong (rpq (gp2 s.data.toList)))) := Iff.rfl
  obtain ⟨x1, x2, _⟩ := Lib.cutB_hit s ⟨#[32]⟩ k hidx
  have x1' : s.extract 0 k = ⟨(gp1 s.data.toList).toArray⟩ := x1.symm
  have x2' : s.extract (k + 1) s.size = ⟨(gp2 s.data.toList).toArray⟩ := x2.symm
  have hks : k < s.size := by omega
  clear x1 x2 hidx HC hl hs hk
  generalize gp1 s.data.toList = l1 at *
  generalize gp2 s.data.toList = l2 at *
  generalize ggood s.data.toList = GG at *
  generalize gplong s.data.toList = GL at *
  generalize gpE s = E at *
  have H1 : Hid (∀ V, Calls Tryz.prog 21 #[.string ⟨l1.toArray⟩] V (RTold V (prErr ⟨l1.toArray⟩) (rpq l1))) := fun V => by
    have hq : l1.toArray.size ≤ 65536 := by simpa using hz1
    have h := dparse_any ⟨l1.toArray⟩ V (by show l1.toArray.size ≤ _; omega)
    rw [show (⟨l1.toArray⟩ : ByteArray).data.toList = l1 by simp] at h
    exact h
  have H2 : Hid (∀ V, Calls Tryz.prog 21 #[.string ⟨l2.toArray⟩] V (RTold V (prErr ⟨l2.toArray⟩) (rpq l2))) := fun V => by
    have hq : l2.toArray.size ≤ 65536 := by simpa using hz2
    have h := dparse_any ⟨l2.toArray⟩ V (by show l2.toArray.size ≤ _; omega)
    rw [show (⟨l2.toArray⟩ : ByteArray).data.toList = l2 by simp] at h
    exact h
  have HP : Hid (∀ {n m : Bool} {xs ys us vs : List Int} {c1 c2 : Int}, RTells (prErr ⟨l1.toArray⟩) (rpq l1) n xs ys c1 → RTells (prErr ⟨l2.toArray⟩) (rpq l2) m us vs c2 → _) := fun h1 h2 => gpar_codes hz1 hz2 h1 h2
  generalize prErr ⟨l1.toArray⟩ = p1 at *
  generalize prErr ⟨l2.toArray⟩ = p2 at *
  generalize rpq l1 = q1 at *
  generalize rpq l2 = q2 at *
  generalize (rgood l1 ∧ rgood l2) = GD at *
  generalize l1.toArray = A1 at *
  generalize l2.toArray = A2 at *
  have hk1 : (k : Int) ≤ (s.size : Int) := by omega
  have hk2 : (k : Int) + 1 ≤ (s.size : Int) := by omega
  have hk0 : (0 : Int) ≤ (k : Int) := by omega
  have hw : IntKind.i64.wrap ((k : Int) + 1) = (k : Int) + 1 := by rw [IntKind.wrap_i64]; have := HSZ.out; omega
  have ht1 : ((k : Int) + 1).toNat = k + 1 := by omega
  have HW1 := hid HB.out
  have HR1 := hid HX.out
  clear hz1 hz2
  go_wp2_with fail
  refine Calls.mono (H1.out _) ?_
  rintro x w2 ⟨n, v, xs, u, ys, code1, rfl, ov1, ou1, ht1, hb2⟩
  obtain ⟨av1, cv1, rfl⟩ := own_slice' ov1
  obtain ⟨au1, cu1, rfl⟩ := own_slice' ou1
  have HW2 := hid (bt HW1.out hb2)
  have HR2 := hid (HR1.out.later hb2 HR1.out.lt)
  have HN := hid (Box.made w2 24 #[.bool n, .slice av1 xs.length cv1, .slice au1 ys.length cu1])
  have HNB := hid (alloc_later w2 (.cells #[.bool n, .slice av1 xs.length cv1, .slice au1 ys.length cu1] 24))
  obtain ⟨Z, hZ⟩ : ∃ Z, w2.alloc (.cells #[.bool n, .slice av1 xs.length cv1, .slice au1 ys.length cu1] 24) = Z := ⟨_, rfl⟩
  rw [hZ] at HN HNB
  have HV1 := hid ov1
  have HU1 := hid ou1
  have HT1 := hid ht1
  have h12 : X.heap.size ≤ w2.heap.size := hb2.size
  clear ov1 ou1 ht1 hb2 H1
  go_wp2_with fail
  refine Calls.mono (H2.out _) ?_
  rintro x w3 ⟨m, v, us, u, vs, code2, rfl, ov2, ou2, ht2, hb3⟩
  obtain ⟨av2, cv2, rfl⟩ := own_slice' ov2
  obtain ⟨au2, cu2, rfl⟩ := own_slice' ou2
  have HM := hid (Box.made w3 24 #[.bool m, .slice av2 us.length cv2, .slice au2 vs.length cu2])
  have HMB := hid (alloc_later w3 (.cells #[.bool m, .slice av2 us.length cv2, .slice au2 vs.length cu2] 24))
  obtain ⟨Q, hQ⟩ : ∃ Q, w3.alloc (.cells #[.bool m, .slice av2 us.length cv2, .slice au2 vs.length cu2] 24) = Q := ⟨_, rfl⟩
  rw [hQ] at HM HMB
  have hb2Q : Below w2.heap.size w2 Q := bt HNB.out (bt hb3 HMB.out)
  have HW3 := hid (bt HW2.out hb2Q)
  have HR3 := hid (HR2.out.later hb2Q HR2.out.lt)
  have HN3 := hid (HN.out.later (bt hb3 HMB.out) HN.out.lt)
  have HOO := hid (And.intro (owns_later HV1.out hb2Q) (And.intro (owns_later HU1.out hb2Q) (And.intro (owns_later ov2 HMB.out) (owns_later ou2 HMB.out))))
  have HTT := hid (HP.out HT1.out ht2)
  have HWD := hid (And.intro HT1.out.wx (And.intro HT1.out.wy (And.intro ht2.wx ht2.wy)))
  have hsz1 : w.heap.size ≤ X.heap.size := HW1.out.size
  have hszZ : w2.heap.size ≤ Z.heap.size := HNB.out.size
  clear ov2 ou2 ht2 H2 HP hb2Q hb3 HT1
  have m0 : Q.cell? ⟨w.heap.size, 0, none⟩ = some (.bool false) := HR3.out.cell 0
  have m1 : Q.cell? ⟨w.heap.size, 1, none⟩ = some (.slice none 0 0) := HR3.out.cell 1
  have m2 : Q.cell? ⟨w.heap.size, 2, none⟩ = some (.slice none 0 0) := HR3.out.cell 2
  have m3 : Q.cell? ⟨w.heap.size, 3, none⟩ = some (.bool false) := HR3.out.cell 3
  have m4 : Q.cell? ⟨w.heap.size, 4, none⟩ = some (.slice none 0 0) := HR3.out.cell 4
  have m5 : Q.cell? ⟨w.heap.size, 5, none⟩ = some (.slice none 0 0) := HR3.out.cell 5
  have f0 := HR3.out.free 0
  have f1 := HR3.out.free 1
  have f2 := HR3.out.free 2
  have f3 := HR3.out.free 3
  have f4 := HR3.out.free 4
  have f5 := HR3.out.free 5
  rcases HTT.out with ⟨rfl, hg⟩ | ⟨d1, rfl, hg⟩ | ⟨hg, rfl, d2, hL⟩ | ⟨hg, rfl, rfl, hL⟩ | ⟨hg, rfl, rfl, hL, hk⟩
  · have HE := hid (HEB.out (fun h => hg (HGG.out.1 h)))
    clear HTT
    go_wp2_with fail
    have B1 := box_put6 HR3.out (.bool false) (.slice none 0 0) (.slice none 0 0) (.bool false) (.slice none 0 0) (.slice none 0 0)
    have G1 := below_put6 HW3.out w.heap.size (Nat.le_refl _) (.bool false) (.slice none 0 0) (.slice none 0 0) (.bool false) (.slice none 0 0) (.slice none 0 0)
    clear m0 m1 m2 m3 m4 m5 f0 f1 f2 f3 f4 f5
    exact bodyPost_ret (gres_run (by rfl) B1 _ rfl) rfl (gtoldc_zero (E := E) (.inl ⟨by rw [HE.out]; decide, HE.out.symm⟩) G1).told
  · have HE := hid (HEB.out (fun h => hg (HGG.out.1 h)))
    have d1' : (code1 == 130) = false := by simp [d1]
    clear d1
    clear HTT
    go_wp2_with fail
    have B1 := box_put6 HR3.out (.bool false) (.slice none 0 0) (.slice none 0 0) (.bool false) (.slice none 0 0) (.slice none 0 0)
    have G1 := below_put6 HW3.out w.heap.size (Nat.le_refl _) (.bool false) (.slice none 0 0) (.slice none 0 0) (.bool false) (.slice none 0 0) (.slice none 0 0)
    clear m0 m1 m2 m3 m4 m5 f0 f1 f2 f3 f4 f5
    exact bodyPost_ret (gres_run (by rfl) B1 _ rfl) rfl (gtoldc_zero (E := E) (.inl ⟨by rw [HE.out]; decide, HE.out.symm⟩) G1).told
  · have HE := hid (HEG.out (HGG.out.2 hg))
    have d2' : (code2 == 130) = false := by simp [d2]
    have HLo := hid (HLL.out.2 hL)
    clear d2 hL hg
    clear HTT
    go_wp2_with fail
    have B1 := box_put6 HR3.out (.bool false) (.slice none 0 0) (.slice none 0 0) (.bool false) (.slice none 0 0) (.slice none 0 0)
    have G1 := below_put6 HW3.out w.heap.size (Nat.le_refl _) (.bool false) (.slice none 0 0) (.slice none 0 0) (.bool false) (.slice none 0 0) (.slice none 0 0)
    clear m0 m1 m2 m3 m4 m5 f0 f1 f2 f3 f4 f5
    exact bodyPost_ret (gres_run (by rfl) B1 _ rfl) rfl (gtoldc_zero (E := E) (.inr ⟨HE.out, HLo.out, rfl⟩) G1).told
  · have HE := hid (HEG.out (HGG.out.2 hg))
    have HLo := hid (HLL.out.2 hL)
    clear hL hg
    clear HTT
    go_wp2_with fail
    have B1 := box_put6 HR3.out (.bool false) (.slice none 0 0) (.slice none 0 0) (.bool false) (.slice none 0 0) (.slice none 0 0)
    have G1 := below_put6 HW3.out w.heap.size (Nat.le_refl _) (.bool false) (.slice none 0 0) (.slice none 0 0) (.bool false) (.slice none 0 0) (.slice none 0 0)
    clear m0 m1 m2 m3 m4 m5 f0 f1 f2 f3 f4 f5
    exact bodyPost_ret (gres_run (by rfl) B1 _ rfl) rfl (gtoldc_zero (E := E) (.inr ⟨HE.out, HLo.out, rfl⟩) G1).told
  · have HE := hid (HEG.out (HGG.out.2 hg))
    have HLo := hid (fun h => hL (HLL.out.1 h))
    have HKK := hid hk
    have ka0 : Q.cell? ⟨w2.heap.size, 0, none⟩ = some (.bool n) := HN3.out.cell 0
    have ka1 : Q.cell? ⟨w2.heap.size, 1, none⟩ = some (.slice av1 xs.length cv1) := HN3.out.cell 1
    have ka2 : Q.cell? ⟨w2.heap.size, 2, none⟩ = some (.slice au1 ys.length cu1) := HN3.out.cell 2
    have kb0 : Q.cell? ⟨w3.heap.size, 0, none⟩ = some (.bool m) := HM.out.cell 0
    have kb1 : Q.cell? ⟨w3.heap.size, 1, none⟩ = some (.slice av2 us.length cv2) := HM.out.cell 1
    have kb2 : Q.cell? ⟨w3.heap.size, 2, none⟩ = some (.slice au2 vs.length cu2) := HM.out.cell 2
    clear HTT hL hk hg
    go_wp2_with fail
    have B1 := box_put6 HR3.out (.bool n) (.slice av1 xs.length cv1) (.slice au1 ys.length cu1) (.bool m) (.slice av2 us.length cv2) (.slice au2 vs.length cu2)
    have G1 := below_put6 HW3.out w.heap.size (Nat.le_refl _) (.bool n) (.slice av1 xs.length cv1) (.slice au1 ys.length cu1) (.bool m) (.slice av2 us.length cv2) (.slice au2 vs.length cu2)
    have hwX : w.heap.size < X.heap.size := HX.out.lt
    have hX1 : w.heap.size < X.heap.size := HR1.out.lt
    have hput : ∀ {base k : Nat} {v : Value} {l : List Value}, Q.ownsRow base 71 1 v k l → (∀ g, v.ownBlock = some g → X.heap.size ≤ g) → ((((((Q.setCell ⟨w.heap.size, 0, none⟩ (.bool n)).setCell ⟨w.heap.size, 1, none⟩ (.slice av1 xs.length cv1)).setCell ⟨w.heap.size, 2, none⟩ (.slice au1 ys.length cu1)).setCell ⟨w.heap.size, 3, none⟩ (.bool m)).setCell ⟨w.heap.size, 4, none⟩ (.slice av2 us.length cv2)).setCell ⟨w.heap.size, 5, none⟩ (.slice au2 vs.length cu2)).ownsRow base 71 1 v k l := fun h hb => own_put6 h _ (fun g hg => by have := hb g hg; omega) _ _ _ _ _ _
    clear m0 m1 m2 m3 m4 m5 f0 f1 f2 f3 f4 f5
    refine bodyPost_ret (gres_run (by rfl) B1 _ rfl) rfl ?_
    have hszQ : w.heap.size ≤ Z.heap.size := by omega
    refine ⟨n, av1, cv1, xs, au1, cu1, ys, m, av2, cv2, us, au2, cu2, vs, 0, rfl, ⟨owns_base (hput HOO.out.1 (fun g hg => (HOO.out.1.lt g hg).1)) hsz1, owns_base (hput HOO.out.2.1 (fun g hg => (HOO.out.2.1.lt g hg).1)) hsz1, owns_base (hput HOO.out.2.2.1 (fun g hg => by have := (HOO.out.2.2.1.lt g hg).1; omega)) hszQ, owns_base (hput HOO.out.2.2.2 (fun g hg => by have := (HOO.out.2.2.2.lt g hg).1; omega)) hszQ⟩, ⟨HWD.out, fun h => absurd HE.out h, fun _ h => absurd h HLo.out, fun _ _ => ⟨rfl, HKK.out⟩⟩, G1⟩
end Go.Proofs.YtdgecalkhbbkoaaGreatDoor

/- The law GaussTexts answers true, and writes nothing that was there: whatever complex fraction and text come in. (tools/mkgausstexts.py) -/
namespace Go.Proofs.YtdgecalkhbbkoaaGreatDoor
open Go.RowKit
set_option linter.unusedVariables false

theorem kp4_of_cuts {W0 W1 W2 : World} {v u p q : Value} (h1 : Cut W0 v u W1) (h2 : Cut W1 p q W2) : Kp4 v u p q := by
  obtain ⟨c, c0, c1, l0, l1⟩ := h1
  obtain ⟨d, d0, d1, m0, m1⟩ := h2
  exact ⟨Kp.far l0 l1 (.inl (Nat.le_refl _)), Kp.far m0 m1 (.inl (Nat.le_refl _)), Kp.far l0 m0 (.inl c1), Kp.far l0 m1 (.inl (by omega)), Kp.far l1 m0 (.inl (Nat.le_refl _)), Kp.far l1 m1 (.inl d0)⟩
set_option maxHeartbeats 6400000 in
set_option maxRecDepth 100000 in
theorem gaussTexts_short (n : Bool) (a : Option Addr) (ca : Nat) (xs : List Int) (b : Option Addr) (cb : Nat) (ys : List Int) (m : Bool) (c : Option Addr) (cc : Nat) (us : List Int) (d : Option Addr) (cd : Nat) (vs : List Int) (s : ByteArray) (w : World) (hT : Tab w) (sx : Sl w (.slice a xs.length ca) xs) (sy : Sl w (.slice b ys.length cb) ys) (su : Sl w (.slice c us.length cc) us) (sw : Sl w (.slice d vs.length cd) vs) (lx : xs.length ≤ 3000) (ly : ys.length ≤ 3000) (lu : us.length ≤ 3000) (lv : vs.length ≤ 3000) (q1 : (smH xs.length && smH ys.length) = true) (q2 : (smH us.length && smH vs.length) = true) (hs : s.size ≤ 3000) :
    Calls Tryz.prog 3 #[.agg #[.bool n, .slice a xs.length ca, .slice b ys.length cb, .bool m, .slice c us.length cc, .slice d vs.length cd], .string s] w fun e w' => e = .returned (.bool true) ∧ Below w.heap.size w w' := by
  obtain ⟨P, hP⟩ : ∃ P, w.alloc (.cells #[.bool n, .slice a xs.length ca, .slice b ys.length cb, .bool m, .slice c us.length cc, .slice d vs.length cd] 26) = P := ⟨_, rfl⟩
  have b1 : Below w.heap.size w P := by rw [← hP]; exact alloc_later _ _
  have HW0 := hid b1
  have HZP := hid b1.size
  have HA0 : Hid (Box P w.heap.size 26 #[.bool n, .slice a xs.length ca, .slice b ys.length cb, .bool m, .slice c us.length cc, .slice d vs.length cd]) := by rw [← hP]; exact Box.made w _ _
  have SR0 := hid (And.intro (sx.later b1) (And.intro (sy.later b1) (And.intro (su.later b1) (sw.later b1))))
  have ST0 := hid (hT.later b1)
  have HWD := hid (And.intro sx.wd (And.intro sy.wd (And.intro su.wd sw.wd)))
  have HSZ : Hid (s.size ≤ 281474976710656) := by show _ ≤ _; omega
  have HLN : Hid (xs.length ≤ 3000 ∧ ys.length ≤ 3000 ∧ us.length ≤ 3000 ∧ vs.length ≤ 3000) := ⟨lx, ly, lu, lv⟩
  have z1_ : decide ((3000 : Int) < (s.size : Int)) = false := decide_eq_false (by omega)
  have z3_ : decide ((65545 : Int) < (s.size : Int)) = false := decide_eq_false (by omega)
  clear sx sy su sw hT b1 lx ly lu lv hs
  have HS1 := hid (kheavy_any n a xs.length ca b ys.length cb m c us.length cc d vs.length cd P)
  rw [q1, q2] at HS1
  clear q1 q2
  go_enter Tryz.func3, Tryz.ntmps3
  have HC := hid (HS1.out)
  have clA_0 : P.cell? ⟨w.heap.size, 0, none⟩ = some (.bool n) := HA0.out.cell 0
  have clA_1 : P.cell? ⟨w.heap.size, 1, none⟩ = some (.slice a xs.length ca) := HA0.out.cell 1
  have clA_2 : P.cell? ⟨w.heap.size, 2, none⟩ = some (.slice b ys.length cb) := HA0.out.cell 2
  have clA_3 : P.cell? ⟨w.heap.size, 3, none⟩ = some (.bool m) := HA0.out.cell 3
  have clA_4 : P.cell? ⟨w.heap.size, 4, none⟩ = some (.slice c us.length cc) := HA0.out.cell 4
  have clA_5 : P.cell? ⟨w.heap.size, 5, none⟩ = some (.slice d vs.length cd) := HA0.out.cell 5
  go_wp2_with fail
  clear hP
  refine Calls.mono HC.out ?_
  rintro e w2 ⟨rfl, hb⟩
  clear clA_0 clA_1 clA_2 clA_3 clA_4 clA_5
  clear HC
  have HW1 := hid (bt HW0.out hb)
  have Z1 := hid (Below.size hb)
  have HA1 := hid (HA0.out.later hb HA0.out.lt)
  have SR1 := hid (And.intro (SR0.out.1.later hb) (And.intro (SR0.out.2.1.later hb) (And.intro (SR0.out.2.2.1.later hb) (SR0.out.2.2.2.later hb))))
  have ST1 := hid (ST0.out.later hb)
  clear HW0 HA0 SR0 ST0
  clear hb HS1
  have HC := hid (klentGauss_any n a ca xs b cb ys m c cc us d cd vs w2 SR1.out.1 SR1.out.2.1 SR1.out.2.2.1 SR1.out.2.2.2 (by have := HLN.out.1; omega) (by have := HLN.out.2.1; omega) (by have := HLN.out.2.2.1; omega) (by have := HLN.out.2.2.2; omega))
  have clA_0 : w2.cell? ⟨w.heap.size, 0, none⟩ = some (.bool n) := HA1.out.cell 0
  have clA_1 : w2.cell? ⟨w.heap.size, 1, none⟩ = some (.slice a xs.length ca) := HA1.out.cell 1
  have clA_2 : w2.cell? ⟨w.heap.size, 2, none⟩ = some (.slice b ys.length cb) := HA1.out.cell 2
  have clA_3 : w2.cell? ⟨w.heap.size, 3, none⟩ = some (.bool m) := HA1.out.cell 3
  have clA_4 : w2.cell? ⟨w.heap.size, 4, none⟩ = some (.slice c us.length cc) := HA1.out.cell 4
  have clA_5 : w2.cell? ⟨w.heap.size, 5, none⟩ = some (.slice d vs.length cd) := HA1.out.cell 5
  go_wp2_with fail
  refine Calls.mono HC.out ?_
  rintro e w3 ⟨g1, c1, g2, c2, g3, c3, g4, c4, rfl, ho, hg, hb⟩
  clear clA_0 clA_1 clA_2 clA_3 clA_4 clA_5
  clear HC
  have HW2 := hid (bt HW1.out hb)
  have Z2 := hid (Below.size hb)
  have HA2 := hid (HA1.out.later hb HA1.out.lt)
  have SR2 := hid (And.intro (SR1.out.1.later hb) (And.intro (SR1.out.2.1.later hb) (And.intro (SR1.out.2.2.1.later hb) (SR1.out.2.2.2.later hb))))
  have ST2 := hid (ST1.out.later hb)
  clear HW1 HA1 SR1 ST1
  have HG : Hid (w2.heap.size ≤ g1 ∧ g1 < g2 ∧ g2 < g3 ∧ g3 < g4 ∧ g4 < w3.heap.size) := ⟨(ho.1.lt g1 rfl).1, hg.1, hg.2.1, hg.2.2, (ho.2.2.2.lt g4 rfl).2⟩
  have SL0 := hid ho
  clear z1_ z3_
  clear ho hg hb
  have GP := hid (Box.made w3 26 #[.bool n, .slice (some ⟨g1, 0, none⟩) xs.length c1, .slice (some ⟨g2, 0, none⟩) ys.length c2, .bool m, .slice (some ⟨g3, 0, none⟩) us.length c3, .slice (some ⟨g4, 0, none⟩) vs.length c4])
  have LP := hid (alloc_later w3 (.cells #[.bool n, .slice (some ⟨g1, 0, none⟩) xs.length c1, .slice (some ⟨g2, 0, none⟩) ys.length c2, .bool m, .slice (some ⟨g3, 0, none⟩) us.length c3, .slice (some ⟨g4, 0, none⟩) vs.length c4] 26))
  obtain ⟨YP, hYP⟩ : ∃ YP, w3.alloc (.cells #[.bool n, .slice (some ⟨g1, 0, none⟩) xs.length c1, .slice (some ⟨g2, 0, none⟩) ys.length c2, .bool m, .slice (some ⟨g3, 0, none⟩) us.length c3, .slice (some ⟨g4, 0, none⟩) vs.length c4] 26) = YP := ⟨_, rfl⟩
  rw [hYP] at GP LP
  have HW3 := hid (bt HW2.out LP.out)
  have Z3 := hid (Below.size LP.out)
  have HA3 := hid (HA2.out.later LP.out HA2.out.lt)
  have SR3 := hid (And.intro (SR2.out.1.later LP.out) (And.intro (SR2.out.2.1.later LP.out) (And.intro (SR2.out.2.2.1.later LP.out) (SR2.out.2.2.2.later LP.out))))
  have ST3 := hid (ST2.out.later LP.out)
  have SL3 := hid (And.intro (owns_later SL0.out.1 LP.out) (And.intro (owns_later SL0.out.2.1 LP.out) (And.intro (owns_later SL0.out.2.2.1 LP.out) (owns_later SL0.out.2.2.2 LP.out))))
  clear HW2 HA2 SR2 ST2 SL0
  have HC := hid (gPrint_any n (some ⟨g1, 0, none⟩) c1 xs (some ⟨g2, 0, none⟩) c2 ys m (some ⟨g3, 0, none⟩) c3 us (some ⟨g4, 0, none⟩) c4 vs YP (Sl.own (klentf SL3.out.1) HWD.out.1) (Sl.own (klentf SL3.out.2.1) HWD.out.2.1) (Sl.own (klentf SL3.out.2.2.1) HWD.out.2.2.1) (Sl.own (klentf SL3.out.2.2.2) HWD.out.2.2.2) ST3.out)
  have clP_0 : YP.cell? ⟨w3.heap.size, 0, none⟩ = some (.bool n) := GP.out.cell 0
  have clP_1 : YP.cell? ⟨w3.heap.size, 1, none⟩ = some (.slice (some ⟨g1, 0, none⟩) xs.length c1) := GP.out.cell 1
  have clP_2 : YP.cell? ⟨w3.heap.size, 2, none⟩ = some (.slice (some ⟨g2, 0, none⟩) ys.length c2) := GP.out.cell 2
  have clP_3 : YP.cell? ⟨w3.heap.size, 3, none⟩ = some (.bool m) := GP.out.cell 3
  have clP_4 : YP.cell? ⟨w3.heap.size, 4, none⟩ = some (.slice (some ⟨g3, 0, none⟩) us.length c3) := GP.out.cell 4
  have clP_5 : YP.cell? ⟨w3.heap.size, 5, none⟩ = some (.slice (some ⟨g4, 0, none⟩) vs.length c4) := GP.out.cell 5
  go_wp2_with fail
  clear hYP
  refine Calls.mono HC.out ?_
  rintro e w4 ⟨T1, rfl, h1, h2, hb⟩
  clear clP_0 clP_1 clP_2 clP_3 clP_4 clP_5
  clear HC
  have HW4 := hid (bt HW3.out hb)
  have Z4 := hid (Below.size hb)
  have HA4 := hid (HA3.out.later hb HA3.out.lt)
  have HP4 := hid (GP.out.later hb GP.out.lt)
  have SR4 := hid (And.intro (SR3.out.1.later hb) (And.intro (SR3.out.2.1.later hb) (And.intro (SR3.out.2.2.1.later hb) (SR3.out.2.2.2.later hb))))
  have ST4 := hid (ST3.out.later hb)
  have SL4 := hid (And.intro (owns_later SL3.out.1 hb) (And.intro (owns_later SL3.out.2.1 hb) (And.intro (owns_later SL3.out.2.2.1 hb) (owns_later SL3.out.2.2.2 hb))))
  clear HW3 HA3 GP SR3 ST3 SL3
  have HN1 := hid (And.intro h1 h2)
  clear h1 h2 hb
  have HC := hid (d4Print_any n a ca xs b cb ys m c cc us d cd vs w4 SR4.out.1 SR4.out.2.1 SR4.out.2.2.1 SR4.out.2.2.2 (by have := HLN.out.1; omega) (by have := HLN.out.2.1; omega) (by have := HLN.out.2.2.1; omega) (by have := HLN.out.2.2.2; omega))
  have clA_0 : w4.cell? ⟨w.heap.size, 0, none⟩ = some (.bool n) := HA4.out.cell 0
  have clA_1 : w4.cell? ⟨w.heap.size, 1, none⟩ = some (.slice a xs.length ca) := HA4.out.cell 1
  have clA_2 : w4.cell? ⟨w.heap.size, 2, none⟩ = some (.slice b ys.length cb) := HA4.out.cell 2
  have clA_3 : w4.cell? ⟨w.heap.size, 3, none⟩ = some (.bool m) := HA4.out.cell 3
  have clA_4 : w4.cell? ⟨w.heap.size, 4, none⟩ = some (.slice c us.length cc) := HA4.out.cell 4
  have clA_5 : w4.cell? ⟨w.heap.size, 5, none⟩ = some (.slice d vs.length cd) := HA4.out.cell 5
  go_wp2_with fail
  refine Calls.mono HC.out ?_
  rintro e w5 ⟨T2, rfl, h1, h2, hb⟩
  clear clA_0 clA_1 clA_2 clA_3 clA_4 clA_5
  clear HC
  have HW5 := hid (bt HW4.out hb)
  have Z5 := hid (Below.size hb)
  have HA5 := hid (HA4.out.later hb HA4.out.lt)
  have HP5 := hid (HP4.out.later hb HP4.out.lt)
  have SR5 := hid (And.intro (SR4.out.1.later hb) (And.intro (SR4.out.2.1.later hb) (And.intro (SR4.out.2.2.1.later hb) (SR4.out.2.2.2.later hb))))
  have ST5 := hid (ST4.out.later hb)
  have SL5 := hid (And.intro (owns_later SL4.out.1 hb) (And.intro (owns_later SL4.out.2.1 hb) (And.intro (owns_later SL4.out.2.2.1 hb) (owns_later SL4.out.2.2.2 hb))))
  clear HW4 HA4 HP4 SR4 ST4 SL4
  have hT12 : T1 = T2 := by
    by_cases hz : gpErr n xs ys m us vs = 0
    · exact ByteArray.ext (Array.ext' ((HN1.out.1 hz).trans (h1 hz).symm))
    · exact (HN1.out.2 hz).trans (h2 hz).symm
  subst hT12
  clear h1 h2 hb HN1
  generalize gpErr n xs ys m us vs = GE at *
  have HC := hid (gParse_any s w5 HSZ.out)
  go_wp2_with fail
  refine Calls.mono HC.out ?_
  rintro e w7 ⟨s1, e1, k1, z1, f1, l1, d1, t1, p1, q1, z2, o1, r1, d2, u1, rfl, ho, ht, hb, W1_, hc1, hc2⟩
  clear HC
  have HW6 := hid (bt HW5.out hb)
  have Z6 := hid (Below.size hb)
  have HA6 := hid (HA5.out.later hb HA5.out.lt)
  have HP6 := hid (HP5.out.later hb HP5.out.lt)
  have SR6 := hid (And.intro (SR5.out.1.later hb) (And.intro (SR5.out.2.1.later hb) (And.intro (SR5.out.2.2.1.later hb) (SR5.out.2.2.2.later hb))))
  have ST6 := hid (ST5.out.later hb)
  have SL6 := hid (And.intro (owns_later SL5.out.1 hb) (And.intro (owns_later SL5.out.2.1 hb) (And.intro (owns_later SL5.out.2.2.1 hb) (owns_later SL5.out.2.2.2 hb))))
  clear HW5 HA5 HP5 SR5 ST5 SL5
  have HT1 := hid ht
  have SO1 := hid ho
  have HI1 := hid (And.intro (kp4_of_cuts hc1 hc2) (And.intro (kg_within ho.1) (And.intro (kg_within ho.2.1) (And.intro (kg_within ho.2.2.1) (kg_within ho.2.2.2)))))
  clear hc1 hc2
  clear ho ht hb
  have GB := hid (Box.made w7 26 #[.bool s1, .slice e1 z1.length k1, .slice f1 d1.length l1, .bool t1, .slice p1 z2.length q1, .slice o1 d2.length r1])
  have LB := hid (alloc_later w7 (.cells #[.bool s1, .slice e1 z1.length k1, .slice f1 d1.length l1, .bool t1, .slice p1 z2.length q1, .slice o1 d2.length r1] 26))
  obtain ⟨YB, hYB⟩ : ∃ YB, w7.alloc (.cells #[.bool s1, .slice e1 z1.length k1, .slice f1 d1.length l1, .bool t1, .slice p1 z2.length q1, .slice o1 d2.length r1] 26) = YB := ⟨_, rfl⟩
  rw [hYB] at GB LB
  have HW7 := hid (bt HW6.out LB.out)
  have Z7 := hid (Below.size LB.out)
  have HA7 := hid (HA6.out.later LB.out HA6.out.lt)
  have HP7 := hid (HP6.out.later LB.out HP6.out.lt)
  have SR7 := hid (And.intro (SR6.out.1.later LB.out) (And.intro (SR6.out.2.1.later LB.out) (And.intro (SR6.out.2.2.1.later LB.out) (SR6.out.2.2.2.later LB.out))))
  have ST7 := hid (ST6.out.later LB.out)
  have SL7 := hid (And.intro (owns_later SL6.out.1 LB.out) (And.intro (owns_later SL6.out.2.1 LB.out) (And.intro (owns_later SL6.out.2.2.1 LB.out) (owns_later SL6.out.2.2.2 LB.out))))
  have SO17 := hid (And.intro (owns_later SO1.out.1 LB.out) (And.intro (owns_later SO1.out.2.1 LB.out) (And.intro (owns_later SO1.out.2.2.1 LB.out) (owns_later SO1.out.2.2.2 LB.out))))
  clear HW6 HA6 HP6 SR6 ST6 SL6 SO1
  have HC := hid (gParse_any s YB HSZ.out)
  go_wp2_with fail
  clear hYB
  refine Calls.mono HC.out ?_
  rintro e w9 ⟨s2_, e2, k2, z2_, f2, l2, d2_, t2_, p2, q2, y2_, o2, r2, v2_, u2_, rfl, ho, ht, hb, W1_, hc1, hc2⟩
  clear HC
  have HW8 := hid (bt HW7.out hb)
  have Z8 := hid (Below.size hb)
  have HA8 := hid (HA7.out.later hb HA7.out.lt)
  have HP8 := hid (HP7.out.later hb HP7.out.lt)
  have HB8 := hid (GB.out.later hb GB.out.lt)
  have SR8 := hid (And.intro (SR7.out.1.later hb) (And.intro (SR7.out.2.1.later hb) (And.intro (SR7.out.2.2.1.later hb) (SR7.out.2.2.2.later hb))))
  have ST8 := hid (ST7.out.later hb)
  have SL8 := hid (And.intro (owns_later SL7.out.1 hb) (And.intro (owns_later SL7.out.2.1 hb) (And.intro (owns_later SL7.out.2.2.1 hb) (owns_later SL7.out.2.2.2 hb))))
  have SO18 := hid (And.intro (owns_later SO17.out.1 hb) (And.intro (owns_later SO17.out.2.1 hb) (And.intro (owns_later SO17.out.2.2.1 hb) (owns_later SO17.out.2.2.2 hb))))
  clear HW7 HA7 HP7 GB SR7 ST7 SL7 SO17
  obtain ⟨rfl, rfl, rfl, rfl, rfl, rfl, rfl⟩ := HT1.out.one ht
  have SO2 := hid ho
  have HI2 := hid (And.intro (kp4_of_cuts hc1 hc2) (And.intro (kg_within ho.1) (And.intro (kg_within ho.2.1) (And.intro (kg_within ho.2.2.1) (kg_within ho.2.2.2)))))
  clear hc1 hc2
  clear ho ht hb
  have GC := hid (Box.made w9 26 #[.bool s1, .slice e2 z1.length k2, .slice f2 d1.length l2, .bool t1, .slice p2 z2.length q2, .slice o2 d2.length r2])
  have LC := hid (alloc_later w9 (.cells #[.bool s1, .slice e2 z1.length k2, .slice f2 d1.length l2, .bool t1, .slice p2 z2.length q2, .slice o2 d2.length r2] 26))
  obtain ⟨YC, hYC⟩ : ∃ YC, w9.alloc (.cells #[.bool s1, .slice e2 z1.length k2, .slice f2 d1.length l2, .bool t1, .slice p2 z2.length q2, .slice o2 d2.length r2] 26) = YC := ⟨_, rfl⟩
  rw [hYC] at GC LC
  have HW9 := hid (bt HW8.out LC.out)
  have Z9 := hid (Below.size LC.out)
  have HA9 := hid (HA8.out.later LC.out HA8.out.lt)
  have HP9 := hid (HP8.out.later LC.out HP8.out.lt)
  have HB9 := hid (HB8.out.later LC.out HB8.out.lt)
  have SR9 := hid (And.intro (SR8.out.1.later LC.out) (And.intro (SR8.out.2.1.later LC.out) (And.intro (SR8.out.2.2.1.later LC.out) (SR8.out.2.2.2.later LC.out))))
  have ST9 := hid (ST8.out.later LC.out)
  have SL9 := hid (And.intro (owns_later SL8.out.1 LC.out) (And.intro (owns_later SL8.out.2.1 LC.out) (And.intro (owns_later SL8.out.2.2.1 LC.out) (owns_later SL8.out.2.2.2 LC.out))))
  have SO19 := hid (And.intro (owns_later SO18.out.1 LC.out) (And.intro (owns_later SO18.out.2.1 LC.out) (And.intro (owns_later SO18.out.2.2.1 LC.out) (owns_later SO18.out.2.2.2 LC.out))))
  have SO29 := hid (And.intro (owns_later SO2.out.1 LC.out) (And.intro (owns_later SO2.out.2.1 LC.out) (And.intro (owns_later SO2.out.2.2.1 LC.out) (owns_later SO2.out.2.2.2 LC.out))))
  clear HW8 HA8 HP8 HB8 SR8 ST8 SL8 SO18 SO2
  have HC := hid (d4Parse_any s YC HSZ.out)
  go_wp2_with fail
  clear hYC
  refine Calls.mono HC.out ?_
  rintro e wB ⟨s3_, e3, k3, z3_, f3, l3, d3_, t3_, p3, q3, y3_, o3, r3, v3_, u3_, rfl, ho, ht, hb⟩
  clear HC
  have HW10 := hid (bt HW9.out hb)
  have Z10 := hid (Below.size hb)
  have HA10 := hid (HA9.out.later hb HA9.out.lt)
  have HP10 := hid (HP9.out.later hb HP9.out.lt)
  have HB10 := hid (HB9.out.later hb HB9.out.lt)
  have HC10 := hid (GC.out.later hb GC.out.lt)
  have SR10 := hid (And.intro (SR9.out.1.later hb) (And.intro (SR9.out.2.1.later hb) (And.intro (SR9.out.2.2.1.later hb) (SR9.out.2.2.2.later hb))))
  have ST10 := hid (ST9.out.later hb)
  have SL10 := hid (And.intro (owns_later SL9.out.1 hb) (And.intro (owns_later SL9.out.2.1 hb) (And.intro (owns_later SL9.out.2.2.1 hb) (owns_later SL9.out.2.2.2 hb))))
  have SO110 := hid (And.intro (owns_later SO19.out.1 hb) (And.intro (owns_later SO19.out.2.1 hb) (And.intro (owns_later SO19.out.2.2.1 hb) (owns_later SO19.out.2.2.2 hb))))
  have SO210 := hid (And.intro (owns_later SO29.out.1 hb) (And.intro (owns_later SO29.out.2.1 hb) (And.intro (owns_later SO29.out.2.2.1 hb) (owns_later SO29.out.2.2.2 hb))))
  clear HW9 HA9 HP9 HB9 GC SR9 ST9 SL9 SO19 SO29
  obtain ⟨rfl, rfl, rfl, rfl, rfl, rfl, rfl⟩ := HT1.out.one ht
  have SD3 := hid (And.intro (Sl.own ho.1 HT1.out.wd.1) (And.intro (Sl.own ho.2.1 HT1.out.wd.2.1) (And.intro (Sl.own ho.2.2.1 HT1.out.wd.2.2.1) (Sl.own ho.2.2.2 HT1.out.wd.2.2.2))))
  clear ho ht hb
  have GD := hid (Box.made wB 26 #[.bool s1, .slice e3 z1.length k3, .slice f3 d1.length l3, .bool t1, .slice p3 z2.length q3, .slice o3 d2.length r3])
  have LD := hid (alloc_later wB (.cells #[.bool s1, .slice e3 z1.length k3, .slice f3 d1.length l3, .bool t1, .slice p3 z2.length q3, .slice o3 d2.length r3] 26))
  obtain ⟨YD, hYD⟩ : ∃ YD, wB.alloc (.cells #[.bool s1, .slice e3 z1.length k3, .slice f3 d1.length l3, .bool t1, .slice p3 z2.length q3, .slice o3 d2.length r3] 26) = YD := ⟨_, rfl⟩
  rw [hYD] at GD LD
  have HW11 := hid (bt HW10.out LD.out)
  have Z11 := hid (Below.size LD.out)
  have HA11 := hid (HA10.out.later LD.out HA10.out.lt)
  have HP11 := hid (HP10.out.later LD.out HP10.out.lt)
  have HB11 := hid (HB10.out.later LD.out HB10.out.lt)
  have HC11 := hid (HC10.out.later LD.out HC10.out.lt)
  have SR11 := hid (And.intro (SR10.out.1.later LD.out) (And.intro (SR10.out.2.1.later LD.out) (And.intro (SR10.out.2.2.1.later LD.out) (SR10.out.2.2.2.later LD.out))))
  have ST11 := hid (ST10.out.later LD.out)
  have SL11 := hid (And.intro (owns_later SL10.out.1 LD.out) (And.intro (owns_later SL10.out.2.1 LD.out) (And.intro (owns_later SL10.out.2.2.1 LD.out) (owns_later SL10.out.2.2.2 LD.out))))
  have SO111 := hid (And.intro (owns_later SO110.out.1 LD.out) (And.intro (owns_later SO110.out.2.1 LD.out) (And.intro (owns_later SO110.out.2.2.1 LD.out) (owns_later SO110.out.2.2.2 LD.out))))
  have SO211 := hid (And.intro (owns_later SO210.out.1 LD.out) (And.intro (owns_later SO210.out.2.1 LD.out) (And.intro (owns_later SO210.out.2.2.1 LD.out) (owns_later SO210.out.2.2.2 LD.out))))
  have SD311 := hid (And.intro (SD3.out.1.later LD.out) (And.intro (SD3.out.2.1.later LD.out) (And.intro (SD3.out.2.2.1.later LD.out) (SD3.out.2.2.2.later LD.out))))
  clear HW10 HA10 HP10 HB10 HC10 SR10 ST10 SL10 SO110 SO210 SD3
  have HF := hid HT1.out.few
  have HFW := hid HT1.out.wd
  clear HT1
  have HC := hid (kone_any s1 t1 z1 d1 z2 d2 e1 k1 f1 l1 p1 q1 o1 r1 e2 k2 f2 l2 p2 q2 o2 r2 e3 k3 f3 l3 p3 q3 o3 r3 u1 YD ⟨Sl.own SO111.out.1 HFW.out.1, Sl.own SO111.out.2.1 HFW.out.2.1, Sl.own SO111.out.2.2.1 HFW.out.2.2.1, Sl.own SO111.out.2.2.2 HFW.out.2.2.2⟩ ⟨Sl.own SO211.out.1 HFW.out.1, Sl.own SO211.out.2.1 HFW.out.2.1, Sl.own SO211.out.2.2.1 HFW.out.2.2.1, Sl.own SO211.out.2.2.2 HFW.out.2.2.2⟩ SD311.out (by have := HF.out.1; omega) (by have := HF.out.2.1; omega) (by have := HF.out.2.2.1; omega) (by have := HF.out.2.2.2; omega))
  have clB_0 : YD.cell? ⟨w7.heap.size, 0, none⟩ = some (.bool s1) := HB11.out.cell 0
  have clB_1 : YD.cell? ⟨w7.heap.size, 1, none⟩ = some (.slice e1 z1.length k1) := HB11.out.cell 1
  have clB_2 : YD.cell? ⟨w7.heap.size, 2, none⟩ = some (.slice f1 d1.length l1) := HB11.out.cell 2
  have clB_3 : YD.cell? ⟨w7.heap.size, 3, none⟩ = some (.bool t1) := HB11.out.cell 3
  have clB_4 : YD.cell? ⟨w7.heap.size, 4, none⟩ = some (.slice p1 z2.length q1) := HB11.out.cell 4
  have clB_5 : YD.cell? ⟨w7.heap.size, 5, none⟩ = some (.slice o1 d2.length r1) := HB11.out.cell 5
  have clC_0 : YD.cell? ⟨w9.heap.size, 0, none⟩ = some (.bool s1) := HC11.out.cell 0
  have clC_1 : YD.cell? ⟨w9.heap.size, 1, none⟩ = some (.slice e2 z1.length k2) := HC11.out.cell 1
  have clC_2 : YD.cell? ⟨w9.heap.size, 2, none⟩ = some (.slice f2 d1.length l2) := HC11.out.cell 2
  have clC_3 : YD.cell? ⟨w9.heap.size, 3, none⟩ = some (.bool t1) := HC11.out.cell 3
  have clC_4 : YD.cell? ⟨w9.heap.size, 4, none⟩ = some (.slice p2 z2.length q2) := HC11.out.cell 4
  have clC_5 : YD.cell? ⟨w9.heap.size, 5, none⟩ = some (.slice o2 d2.length r2) := HC11.out.cell 5
  have clD_0 : YD.cell? ⟨wB.heap.size, 0, none⟩ = some (.bool s1) := GD.out.cell 0
  have clD_1 : YD.cell? ⟨wB.heap.size, 1, none⟩ = some (.slice e3 z1.length k3) := GD.out.cell 1
  have clD_2 : YD.cell? ⟨wB.heap.size, 2, none⟩ = some (.slice f3 d1.length l3) := GD.out.cell 2
  have clD_3 : YD.cell? ⟨wB.heap.size, 3, none⟩ = some (.bool t1) := GD.out.cell 3
  have clD_4 : YD.cell? ⟨wB.heap.size, 4, none⟩ = some (.slice p3 z2.length q3) := GD.out.cell 4
  have clD_5 : YD.cell? ⟨wB.heap.size, 5, none⟩ = some (.slice o3 d2.length r3) := GD.out.cell 5
  go_wp2_with fail
  clear hYD
  refine Calls.mono HC.out ?_
  rintro e wD ⟨rfl, hb⟩
  clear clB_0 clB_1 clB_2 clB_3 clB_4 clB_5 clC_0 clC_1 clC_2 clC_3 clC_4 clC_5 clD_0 clD_1 clD_2 clD_3 clD_4 clD_5
  clear HC
  have HW12 := hid (bt HW11.out hb)
  have Z12 := hid (Below.size hb)
  have HA12 := hid (HA11.out.later hb HA11.out.lt)
  have HP12 := hid (HP11.out.later hb HP11.out.lt)
  have HB12 := hid (HB11.out.later hb HB11.out.lt)
  have HC12 := hid (HC11.out.later hb HC11.out.lt)
  have HD12 := hid (GD.out.later hb GD.out.lt)
  have SR12 := hid (And.intro (SR11.out.1.later hb) (And.intro (SR11.out.2.1.later hb) (And.intro (SR11.out.2.2.1.later hb) (SR11.out.2.2.2.later hb))))
  have ST12 := hid (ST11.out.later hb)
  have SL12 := hid (And.intro (owns_later SL11.out.1 hb) (And.intro (owns_later SL11.out.2.1 hb) (And.intro (owns_later SL11.out.2.2.1 hb) (owns_later SL11.out.2.2.2 hb))))
  have SO112 := hid (And.intro (owns_later SO111.out.1 hb) (And.intro (owns_later SO111.out.2.1 hb) (And.intro (owns_later SO111.out.2.2.1 hb) (owns_later SO111.out.2.2.2 hb))))
  have SO212 := hid (And.intro (owns_later SO211.out.1 hb) (And.intro (owns_later SO211.out.2.1 hb) (And.intro (owns_later SO211.out.2.2.1 hb) (owns_later SO211.out.2.2.2 hb))))
  have SD312 := hid (And.intro (SD311.out.1.later hb) (And.intro (SD311.out.2.1.later hb) (And.intro (SD311.out.2.2.1.later hb) (SD311.out.2.2.2.later hb))))
  clear HW11 HA11 HP11 HB11 HC11 GD SR11 ST11 SL11 SO111 SO211 SD311
  clear hb
  have HC := hid (kkeptGauss_any n a ca xs b cb ys m c cc us d cd vs g1 c1 g2 c2 g3 c3 g4 c4 _ wD SR12.out.1 SR12.out.2.1 SR12.out.2.2.1 SR12.out.2.2.2 (by have := HLN.out.1; omega) (by have := HLN.out.2.1; omega) (by have := HLN.out.2.2.1; omega) (by have := HLN.out.2.2.2; omega) SL12.out.1 SL12.out.2.1 SL12.out.2.2.1 SL12.out.2.2.2)
  have clP_0 : wD.cell? ⟨w3.heap.size, 0, none⟩ = some (.bool n) := HP12.out.cell 0
  have clP_1 : wD.cell? ⟨w3.heap.size, 1, none⟩ = some (.slice (some ⟨g1, 0, none⟩) xs.length c1) := HP12.out.cell 1
  have clP_2 : wD.cell? ⟨w3.heap.size, 2, none⟩ = some (.slice (some ⟨g2, 0, none⟩) ys.length c2) := HP12.out.cell 2
  have clP_3 : wD.cell? ⟨w3.heap.size, 3, none⟩ = some (.bool m) := HP12.out.cell 3
  have clP_4 : wD.cell? ⟨w3.heap.size, 4, none⟩ = some (.slice (some ⟨g3, 0, none⟩) us.length c3) := HP12.out.cell 4
  have clP_5 : wD.cell? ⟨w3.heap.size, 5, none⟩ = some (.slice (some ⟨g4, 0, none⟩) vs.length c4) := HP12.out.cell 5
  have clA_0 : wD.cell? ⟨w.heap.size, 0, none⟩ = some (.bool n) := HA12.out.cell 0
  have clA_1 : wD.cell? ⟨w.heap.size, 1, none⟩ = some (.slice a xs.length ca) := HA12.out.cell 1
  have clA_2 : wD.cell? ⟨w.heap.size, 2, none⟩ = some (.slice b ys.length cb) := HA12.out.cell 2
  have clA_3 : wD.cell? ⟨w.heap.size, 3, none⟩ = some (.bool m) := HA12.out.cell 3
  have clA_4 : wD.cell? ⟨w.heap.size, 4, none⟩ = some (.slice c us.length cc) := HA12.out.cell 4
  have clA_5 : wD.cell? ⟨w.heap.size, 5, none⟩ = some (.slice d vs.length cd) := HA12.out.cell 5
  go_wp2_with fail
  refine Calls.mono HC.out ?_
  rintro e wE ⟨rfl, hb⟩
  clear clP_0 clP_1 clP_2 clP_3 clP_4 clP_5 clA_0 clA_1 clA_2 clA_3 clA_4 clA_5
  clear HC
  have HW13 := hid (bt HW12.out hb)
  have Z13 := hid (Below.size hb)
  have HA13 := hid (HA12.out.later hb HA12.out.lt)
  have HP13 := hid (HP12.out.later hb HP12.out.lt)
  have HB13 := hid (HB12.out.later hb HB12.out.lt)
  have HC13 := hid (HC12.out.later hb HC12.out.lt)
  have HD13 := hid (HD12.out.later hb HD12.out.lt)
  have SR13 := hid (And.intro (SR12.out.1.later hb) (And.intro (SR12.out.2.1.later hb) (And.intro (SR12.out.2.2.1.later hb) (SR12.out.2.2.2.later hb))))
  have ST13 := hid (ST12.out.later hb)
  have SL13 := hid (And.intro (owns_later SL12.out.1 hb) (And.intro (owns_later SL12.out.2.1 hb) (And.intro (owns_later SL12.out.2.2.1 hb) (owns_later SL12.out.2.2.2 hb))))
  have SO113 := hid (And.intro (owns_later SO112.out.1 hb) (And.intro (owns_later SO112.out.2.1 hb) (And.intro (owns_later SO112.out.2.2.1 hb) (owns_later SO112.out.2.2.2 hb))))
  have SO213 := hid (And.intro (owns_later SO212.out.1 hb) (And.intro (owns_later SO212.out.2.1 hb) (And.intro (owns_later SO212.out.2.2.1 hb) (owns_later SO212.out.2.2.2 hb))))
  have SD313 := hid (And.intro (SD312.out.1.later hb) (And.intro (SD312.out.2.1.later hb) (And.intro (SD312.out.2.2.1.later hb) (SD312.out.2.2.2.later hb))))
  clear HW12 HA12 HP12 HB12 HC12 HD12 SR12 ST12 SL12 SO112 SO212 SD312
  clear hb
  have hszB := HW13.out.size
  have hF := HF.out
  have hL := HLN.out
  have z1_ := Z1.out
  have z2_ := Z2.out
  have z3_ := Z3.out
  have z4_ := Z4.out
  have z5_ := Z5.out
  have z6_ := Z6.out
  have z7_ := Z7.out
  have z8_ := Z8.out
  have z9_ := Z9.out
  have z10_ := Z10.out
  have z11_ := Z11.out
  have z12_ := Z12.out
  have z13_ := Z13.out
  have zP := HZP.out
  have hwd : ∀ j, j < 12 → Wd (([xs, ys, us, vs, z1, d1, z2, d2, z1, d1, z2, d2] : List (List Int))[j]?.getD []) := fun j hj => by
    match j, hj with
    | 0, _ => exact HWD.out.1
    | 1, _ => exact HWD.out.2.1
    | 2, _ => exact HWD.out.2.2.1
    | 3, _ => exact HWD.out.2.2.2
    | 4, _ => exact HFW.out.1
    | 5, _ => exact HFW.out.2.1
    | 6, _ => exact HFW.out.2.2.1
    | 7, _ => exact HFW.out.2.2.2
    | 8, _ => exact HFW.out.1
    | 9, _ => exact HFW.out.2.1
    | 10, _ => exact HFW.out.2.2.1
    | 11, _ => exact HFW.out.2.2.2
  have hbig : ∀ j, j < 12 → (([xs, ys, us, vs, z1, d1, z2, d2, z1, d1, z2, d2] : List (List Int))[j]?.getD []).length ≤ 1099511627776 := fun j hj => by
    match j, hj with
    | 0, _ => show xs.length ≤ _; omega
    | 1, _ => show ys.length ≤ _; omega
    | 2, _ => show us.length ≤ _; omega
    | 3, _ => show vs.length ≤ _; omega
    | 4, _ => show z1.length ≤ _; omega
    | 5, _ => show d1.length ≤ _; omega
    | 6, _ => show z2.length ≤ _; omega
    | 7, _ => show d2.length ≤ _; omega
    | 8, _ => show z1.length ≤ _; omega
    | 9, _ => show d1.length ≤ _; omega
    | 10, _ => show z2.length ≤ _; omega
    | 11, _ => show d2.length ≤ _; omega
  have hown : ∀ j, j < 12 → wE.ownsRow w.heap.size 71 1 (([.slice (some ⟨g1, 0, none⟩) xs.length c1, .slice (some ⟨g2, 0, none⟩) ys.length c2, .slice (some ⟨g3, 0, none⟩) us.length c3, .slice (some ⟨g4, 0, none⟩) vs.length c4, .slice e1 z1.length k1, .slice f1 d1.length l1, .slice p1 z2.length q1, .slice o1 d2.length r1, .slice e2 z1.length k2, .slice f2 d1.length l2, .slice p2 z2.length q2, .slice o2 d2.length r2] : List Value)[j]?.getD undef) (([xs, ys, us, vs, z1, d1, z2, d2, z1, d1, z2, d2] : List (List Int))[j]?.getD []).length ((([xs, ys, us, vs, z1, d1, z2, d2, z1, d1, z2, d2] : List (List Int))[j]?.getD []).map (Value.int .u32)) := fun j hj => by
    match j, hj with
    | 0, _ => exact owns_base (klentf SL13.out.1) (by omega)
    | 1, _ => exact owns_base (klentf SL13.out.2.1) (by omega)
    | 2, _ => exact owns_base (klentf SL13.out.2.2.1) (by omega)
    | 3, _ => exact owns_base (klentf SL13.out.2.2.2) (by omega)
    | 4, _ => exact owns_base SO113.out.1 (by omega)
    | 5, _ => exact owns_base SO113.out.2.1 (by omega)
    | 6, _ => exact owns_base SO113.out.2.2.1 (by omega)
    | 7, _ => exact owns_base SO113.out.2.2.2 (by omega)
    | 8, _ => exact owns_base SO213.out.1 (by omega)
    | 9, _ => exact owns_base SO213.out.2.1 (by omega)
    | 10, _ => exact owns_base SO213.out.2.2.1 (by omega)
    | 11, _ => exact owns_base SO213.out.2.2.2 (by omega)
  have iw0 : Within (.slice (some ⟨g1, 0, none⟩) xs.length c1) w2.heap.size w3.heap.size := fun g hg => by have h1 := HG.out; simp [Value.ownBlock] at hg; omega
  have iw1 : Within (.slice (some ⟨g2, 0, none⟩) ys.length c2) w2.heap.size w3.heap.size := fun g hg => by have h1 := HG.out; simp [Value.ownBlock] at hg; omega
  have iw2 : Within (.slice (some ⟨g3, 0, none⟩) us.length c3) w2.heap.size w3.heap.size := fun g hg => by have h1 := HG.out; simp [Value.ownBlock] at hg; omega
  have iw3 : Within (.slice (some ⟨g4, 0, none⟩) vs.length c4) w2.heap.size w3.heap.size := fun g hg => by have h1 := HG.out; simp [Value.ownBlock] at hg; omega
  have pa : Kp4 (.slice (some ⟨g1, 0, none⟩) xs.length c1) (.slice (some ⟨g2, 0, none⟩) ys.length c2) (.slice (some ⟨g3, 0, none⟩) us.length c3) (.slice (some ⟨g4, 0, none⟩) vs.length c4) := by
    have h1 := HG.out
    refine ⟨.inr ?_, .inr ?_, .inr ?_, .inr ?_, .inr ?_, .inr ?_⟩ <;> simp [Value.ownBlock] <;> omega
  have hap := kp_twelve (v := fun j => ([.slice (some ⟨g1, 0, none⟩) xs.length c1, .slice (some ⟨g2, 0, none⟩) ys.length c2, .slice (some ⟨g3, 0, none⟩) us.length c3, .slice (some ⟨g4, 0, none⟩) vs.length c4, .slice e1 z1.length k1, .slice f1 d1.length l1, .slice p1 z2.length q1, .slice o1 d2.length r1, .slice e2 z1.length k2, .slice f2 d1.length l2, .slice p2 z2.length q2, .slice o2 d2.length r2] : List Value)[j]?.getD undef) _ _ _ _ _ _ (fun j hj => by
    match j, hj with
    | 0, _ => exact iw0
    | 1, _ => exact iw1
    | 2, _ => exact iw2
    | 3, _ => exact iw3) (fun j hj => by
    match j, hj with
    | 0, _ => exact HI1.out.2.1
    | 1, _ => exact HI1.out.2.2.1
    | 2, _ => exact HI1.out.2.2.2.1
    | 3, _ => exact HI1.out.2.2.2.2) (fun j hj => by
    match j, hj with
    | 0, _ => exact HI2.out.2.1
    | 1, _ => exact HI2.out.2.2.1
    | 2, _ => exact HI2.out.2.2.2.1
    | 3, _ => exact HI2.out.2.2.2.2) (by omega) (by omega) (by omega) pa HI1.out.1 HI2.out.1
  have HAP := hid (kapartGausses3 w.heap.size n m s1 t1 s1 t1 (some ⟨g1, 0, none⟩) (some ⟨g2, 0, none⟩) (some ⟨g3, 0, none⟩) (some ⟨g4, 0, none⟩) e1 f1 p1 o1 e2 f2 p2 o2 xs.length ys.length us.length vs.length z1.length d1.length z2.length d2.length z1.length d1.length z2.length d2.length c1 c2 c3 c4 k1 l1 q1 r1 k2 l2 q2 r2 wE.heap.size (fun j => ([xs, ys, us, vs, z1, d1, z2, d2, z1, d1, z2, d2] : List (List Int))[j]?.getD []) (wE.alloc (.cells #[.bool n, .slice (some ⟨g1, 0, none⟩) xs.length c1, .slice (some ⟨g2, 0, none⟩) ys.length c2, .bool m, .slice (some ⟨g3, 0, none⟩) us.length c3, .slice (some ⟨g4, 0, none⟩) vs.length c4, .bool s1, .slice e1 z1.length k1, .slice f1 d1.length l1, .bool t1, .slice p1 z2.length q1, .slice o1 d2.length r1, .bool s1, .slice e2 z1.length k2, .slice f2 d1.length l2, .bool t1, .slice p2 z2.length q2, .slice o2 d2.length r2] 26)) (Box.made wE _ _) (by simp; omega) hwd hbig (fun j hj => owns_later (hown j hj) (alloc_later _ _)) hap)
  clear hap hown hwd hbig iw0 iw1 iw2 iw3 pa hF hL hszB zP z1_ z2_ z3_ z4_ z5_ z6_ z7_ z8_ z9_ z10_ z11_ z12_ z13_
  have HBB := hid HW13.out
  obtain ⟨YE, hYE⟩ : ∃ YE, wE.alloc (.cells #[.bool n, .slice (some ⟨g1, 0, none⟩) xs.length c1, .slice (some ⟨g2, 0, none⟩) ys.length c2, .bool m, .slice (some ⟨g3, 0, none⟩) us.length c3, .slice (some ⟨g4, 0, none⟩) vs.length c4, .bool s1, .slice e1 z1.length k1, .slice f1 d1.length l1, .bool t1, .slice p1 z2.length q1, .slice o1 d2.length r1, .bool s1, .slice e2 z1.length k2, .slice f2 d1.length l2, .bool t1, .slice p2 z2.length q2, .slice o2 d2.length r2] 26) = YE := ⟨_, rfl⟩
  rw [hYE] at HAP
  have hlE : Below w.heap.size w YE := by rw [← hYE]; exact bt HBB.out (alloc_later _ _)
  have HLE := hid hlE
  clear hlE
  have clP_0 : wE.cell? ⟨w3.heap.size, 0, none⟩ = some (.bool n) := HP13.out.cell 0
  have clP_1 : wE.cell? ⟨w3.heap.size, 1, none⟩ = some (.slice (some ⟨g1, 0, none⟩) xs.length c1) := HP13.out.cell 1
  have clP_2 : wE.cell? ⟨w3.heap.size, 2, none⟩ = some (.slice (some ⟨g2, 0, none⟩) ys.length c2) := HP13.out.cell 2
  have clP_3 : wE.cell? ⟨w3.heap.size, 3, none⟩ = some (.bool m) := HP13.out.cell 3
  have clP_4 : wE.cell? ⟨w3.heap.size, 4, none⟩ = some (.slice (some ⟨g3, 0, none⟩) us.length c3) := HP13.out.cell 4
  have clP_5 : wE.cell? ⟨w3.heap.size, 5, none⟩ = some (.slice (some ⟨g4, 0, none⟩) vs.length c4) := HP13.out.cell 5
  have clB_0 : wE.cell? ⟨w7.heap.size, 0, none⟩ = some (.bool s1) := HB13.out.cell 0
  have clB_1 : wE.cell? ⟨w7.heap.size, 1, none⟩ = some (.slice e1 z1.length k1) := HB13.out.cell 1
  have clB_2 : wE.cell? ⟨w7.heap.size, 2, none⟩ = some (.slice f1 d1.length l1) := HB13.out.cell 2
  have clB_3 : wE.cell? ⟨w7.heap.size, 3, none⟩ = some (.bool t1) := HB13.out.cell 3
  have clB_4 : wE.cell? ⟨w7.heap.size, 4, none⟩ = some (.slice p1 z2.length q1) := HB13.out.cell 4
  have clB_5 : wE.cell? ⟨w7.heap.size, 5, none⟩ = some (.slice o1 d2.length r1) := HB13.out.cell 5
  have clC_0 : wE.cell? ⟨w9.heap.size, 0, none⟩ = some (.bool s1) := HC13.out.cell 0
  have clC_1 : wE.cell? ⟨w9.heap.size, 1, none⟩ = some (.slice e2 z1.length k2) := HC13.out.cell 1
  have clC_2 : wE.cell? ⟨w9.heap.size, 2, none⟩ = some (.slice f2 d1.length l2) := HC13.out.cell 2
  have clC_3 : wE.cell? ⟨w9.heap.size, 3, none⟩ = some (.bool t1) := HC13.out.cell 3
  have clC_4 : wE.cell? ⟨w9.heap.size, 4, none⟩ = some (.slice p2 z2.length q2) := HC13.out.cell 4
  have clC_5 : wE.cell? ⟨w9.heap.size, 5, none⟩ = some (.slice o2 d2.length r2) := HC13.out.cell 5
  go_wp2_with fail
  refine Calls.mono HAP.out ?_
  rintro e wF ⟨rfl, hbE⟩
  have HBE := hid (HLE.out.trans hbE)
  clear hbE HAP
  clear clP_0 clP_1 clP_2 clP_3 clP_4 clP_5 clB_0 clB_1 clB_2 clB_3 clB_4 clB_5 clC_0 clC_1 clC_2 clC_3 clC_4 clC_5
  go_wp2_with fail
  go_ret
  exact ⟨rfl, HBE.out⟩
set_option maxHeartbeats 6400000 in
set_option maxRecDepth 100000 in
theorem gaussTexts_long (n : Bool) (a : Option Addr) (ca : Nat) (xs : List Int) (b : Option Addr) (cb : Nat) (ys : List Int) (m : Bool) (c : Option Addr) (cc : Nat) (us : List Int) (d : Option Addr) (cd : Nat) (vs : List Int) (s : ByteArray) (w : World) (hT : Tab w) (sx : Sl w (.slice a xs.length ca) xs) (sy : Sl w (.slice b ys.length cb) ys) (su : Sl w (.slice c us.length cc) us) (sw : Sl w (.slice d vs.length cd) vs) (lx : xs.length ≤ 3000) (ly : ys.length ≤ 3000) (lu : us.length ≤ 3000) (lv : vs.length ≤ 3000) (q1 : (smH xs.length && smH ys.length) = true) (q2 : (smH us.length && smH vs.length) = true) (hs : 65536 < s.size) (hs' : s.size ≤ 65545) :
    Calls Tryz.prog 3 #[.agg #[.bool n, .slice a xs.length ca, .slice b ys.length cb, .bool m, .slice c us.length cc, .slice d vs.length cd], .string s] w fun e w' => e = .returned (.bool true) ∧ Below w.heap.size w w' := by
  obtain ⟨P, hP⟩ : ∃ P, w.alloc (.cells #[.bool n, .slice a xs.length ca, .slice b ys.length cb, .bool m, .slice c us.length cc, .slice d vs.length cd] 26) = P := ⟨_, rfl⟩
  have b1 : Below w.heap.size w P := by rw [← hP]; exact alloc_later _ _
  have HW0 := hid b1
  have HZP := hid b1.size
  have HA0 : Hid (Box P w.heap.size 26 #[.bool n, .slice a xs.length ca, .slice b ys.length cb, .bool m, .slice c us.length cc, .slice d vs.length cd]) := by rw [← hP]; exact Box.made w _ _
  have SR0 := hid (And.intro (sx.later b1) (And.intro (sy.later b1) (And.intro (su.later b1) (sw.later b1))))
  have ST0 := hid (hT.later b1)
  have HWD := hid (And.intro sx.wd (And.intro sy.wd (And.intro su.wd sw.wd)))
  have HSZ : Hid (s.size ≤ 281474976710656) := by show _ ≤ _; omega
  have HLN : Hid (xs.length ≤ 3000 ∧ ys.length ≤ 3000 ∧ us.length ≤ 3000 ∧ vs.length ≤ 3000) := ⟨lx, ly, lu, lv⟩
  have z1_ : decide ((3000 : Int) < (s.size : Int)) = true := decide_eq_true (by omega)
  have z2_ : decide ((s.size : Int) ≤ (65536 : Int)) = false := decide_eq_false (by omega)
  have z3_ : decide ((65545 : Int) < (s.size : Int)) = false := decide_eq_false (by omega)
  clear sx sy su sw hT b1 lx ly lu lv hs hs'
  have HS1 := hid (kheavy_any n a xs.length ca b ys.length cb m c us.length cc d vs.length cd P)
  rw [q1, q2] at HS1
  clear q1 q2
  go_enter Tryz.func3, Tryz.ntmps3
  have HC := hid (HS1.out)
  have clA_0 : P.cell? ⟨w.heap.size, 0, none⟩ = some (.bool n) := HA0.out.cell 0
  have clA_1 : P.cell? ⟨w.heap.size, 1, none⟩ = some (.slice a xs.length ca) := HA0.out.cell 1
  have clA_2 : P.cell? ⟨w.heap.size, 2, none⟩ = some (.slice b ys.length cb) := HA0.out.cell 2
  have clA_3 : P.cell? ⟨w.heap.size, 3, none⟩ = some (.bool m) := HA0.out.cell 3
  have clA_4 : P.cell? ⟨w.heap.size, 4, none⟩ = some (.slice c us.length cc) := HA0.out.cell 4
  have clA_5 : P.cell? ⟨w.heap.size, 5, none⟩ = some (.slice d vs.length cd) := HA0.out.cell 5
  go_wp2_with fail
  clear hP
  refine Calls.mono HC.out ?_
  rintro e w2 ⟨rfl, hb⟩
  clear clA_0 clA_1 clA_2 clA_3 clA_4 clA_5
  clear HC
  have HW1 := hid (bt HW0.out hb)
  have Z1 := hid (Below.size hb)
  have HA1 := hid (HA0.out.later hb HA0.out.lt)
  have SR1 := hid (And.intro (SR0.out.1.later hb) (And.intro (SR0.out.2.1.later hb) (And.intro (SR0.out.2.2.1.later hb) (SR0.out.2.2.2.later hb))))
  have ST1 := hid (ST0.out.later hb)
  clear HW0 HA0 SR0 ST0
  clear hb HS1
  have HC := hid (klentGauss_any n a ca xs b cb ys m c cc us d cd vs w2 SR1.out.1 SR1.out.2.1 SR1.out.2.2.1 SR1.out.2.2.2 (by have := HLN.out.1; omega) (by have := HLN.out.2.1; omega) (by have := HLN.out.2.2.1; omega) (by have := HLN.out.2.2.2; omega))
  have clA_0 : w2.cell? ⟨w.heap.size, 0, none⟩ = some (.bool n) := HA1.out.cell 0
  have clA_1 : w2.cell? ⟨w.heap.size, 1, none⟩ = some (.slice a xs.length ca) := HA1.out.cell 1
  have clA_2 : w2.cell? ⟨w.heap.size, 2, none⟩ = some (.slice b ys.length cb) := HA1.out.cell 2
  have clA_3 : w2.cell? ⟨w.heap.size, 3, none⟩ = some (.bool m) := HA1.out.cell 3
  have clA_4 : w2.cell? ⟨w.heap.size, 4, none⟩ = some (.slice c us.length cc) := HA1.out.cell 4
  have clA_5 : w2.cell? ⟨w.heap.size, 5, none⟩ = some (.slice d vs.length cd) := HA1.out.cell 5
  go_wp2_with fail
  refine Calls.mono HC.out ?_
  rintro e w3 ⟨g1, c1, g2, c2, g3, c3, g4, c4, rfl, ho, hg, hb⟩
  clear clA_0 clA_1 clA_2 clA_3 clA_4 clA_5
  clear HC
  have HW2 := hid (bt HW1.out hb)
  have Z2 := hid (Below.size hb)
  have HA2 := hid (HA1.out.later hb HA1.out.lt)
  have SR2 := hid (And.intro (SR1.out.1.later hb) (And.intro (SR1.out.2.1.later hb) (And.intro (SR1.out.2.2.1.later hb) (SR1.out.2.2.2.later hb))))
  have ST2 := hid (ST1.out.later hb)
  clear HW1 HA1 SR1 ST1
  have HG : Hid (w2.heap.size ≤ g1 ∧ g1 < g2 ∧ g2 < g3 ∧ g3 < g4 ∧ g4 < w3.heap.size) := ⟨(ho.1.lt g1 rfl).1, hg.1, hg.2.1, hg.2.2, (ho.2.2.2.lt g4 rfl).2⟩
  have SL0 := hid ho
  clear z1_ z3_ z2_
  clear ho hg hb
  have GP := hid (Box.made w3 26 #[.bool n, .slice (some ⟨g1, 0, none⟩) xs.length c1, .slice (some ⟨g2, 0, none⟩) ys.length c2, .bool m, .slice (some ⟨g3, 0, none⟩) us.length c3, .slice (some ⟨g4, 0, none⟩) vs.length c4])
  have LP := hid (alloc_later w3 (.cells #[.bool n, .slice (some ⟨g1, 0, none⟩) xs.length c1, .slice (some ⟨g2, 0, none⟩) ys.length c2, .bool m, .slice (some ⟨g3, 0, none⟩) us.length c3, .slice (some ⟨g4, 0, none⟩) vs.length c4] 26))
  obtain ⟨YP, hYP⟩ : ∃ YP, w3.alloc (.cells #[.bool n, .slice (some ⟨g1, 0, none⟩) xs.length c1, .slice (some ⟨g2, 0, none⟩) ys.length c2, .bool m, .slice (some ⟨g3, 0, none⟩) us.length c3, .slice (some ⟨g4, 0, none⟩) vs.length c4] 26) = YP := ⟨_, rfl⟩
  rw [hYP] at GP LP
  have HW3 := hid (bt HW2.out LP.out)
  have Z3 := hid (Below.size LP.out)
  have HA3 := hid (HA2.out.later LP.out HA2.out.lt)
  have SR3 := hid (And.intro (SR2.out.1.later LP.out) (And.intro (SR2.out.2.1.later LP.out) (And.intro (SR2.out.2.2.1.later LP.out) (SR2.out.2.2.2.later LP.out))))
  have ST3 := hid (ST2.out.later LP.out)
  have SL3 := hid (And.intro (owns_later SL0.out.1 LP.out) (And.intro (owns_later SL0.out.2.1 LP.out) (And.intro (owns_later SL0.out.2.2.1 LP.out) (owns_later SL0.out.2.2.2 LP.out))))
  clear HW2 HA2 SR2 ST2 SL0
  have HC := hid (gPrint_any n (some ⟨g1, 0, none⟩) c1 xs (some ⟨g2, 0, none⟩) c2 ys m (some ⟨g3, 0, none⟩) c3 us (some ⟨g4, 0, none⟩) c4 vs YP (Sl.own (klentf SL3.out.1) HWD.out.1) (Sl.own (klentf SL3.out.2.1) HWD.out.2.1) (Sl.own (klentf SL3.out.2.2.1) HWD.out.2.2.1) (Sl.own (klentf SL3.out.2.2.2) HWD.out.2.2.2) ST3.out)
  have clP_0 : YP.cell? ⟨w3.heap.size, 0, none⟩ = some (.bool n) := GP.out.cell 0
  have clP_1 : YP.cell? ⟨w3.heap.size, 1, none⟩ = some (.slice (some ⟨g1, 0, none⟩) xs.length c1) := GP.out.cell 1
  have clP_2 : YP.cell? ⟨w3.heap.size, 2, none⟩ = some (.slice (some ⟨g2, 0, none⟩) ys.length c2) := GP.out.cell 2
  have clP_3 : YP.cell? ⟨w3.heap.size, 3, none⟩ = some (.bool m) := GP.out.cell 3
  have clP_4 : YP.cell? ⟨w3.heap.size, 4, none⟩ = some (.slice (some ⟨g3, 0, none⟩) us.length c3) := GP.out.cell 4
  have clP_5 : YP.cell? ⟨w3.heap.size, 5, none⟩ = some (.slice (some ⟨g4, 0, none⟩) vs.length c4) := GP.out.cell 5
  go_wp2_with fail
  clear hYP
  refine Calls.mono HC.out ?_
  rintro e w4 ⟨T1, rfl, h1, h2, hb⟩
  clear clP_0 clP_1 clP_2 clP_3 clP_4 clP_5
  clear HC
  have HW4 := hid (bt HW3.out hb)
  have Z4 := hid (Below.size hb)
  have HA4 := hid (HA3.out.later hb HA3.out.lt)
  have HP4 := hid (GP.out.later hb GP.out.lt)
  have SR4 := hid (And.intro (SR3.out.1.later hb) (And.intro (SR3.out.2.1.later hb) (And.intro (SR3.out.2.2.1.later hb) (SR3.out.2.2.2.later hb))))
  have ST4 := hid (ST3.out.later hb)
  have SL4 := hid (And.intro (owns_later SL3.out.1 hb) (And.intro (owns_later SL3.out.2.1 hb) (And.intro (owns_later SL3.out.2.2.1 hb) (owns_later SL3.out.2.2.2 hb))))
  clear HW3 HA3 GP SR3 ST3 SL3
  have HN1 := hid (And.intro h1 h2)
  clear h1 h2 hb
  have HC := hid (d4Print_any n a ca xs b cb ys m c cc us d cd vs w4 SR4.out.1 SR4.out.2.1 SR4.out.2.2.1 SR4.out.2.2.2 (by have := HLN.out.1; omega) (by have := HLN.out.2.1; omega) (by have := HLN.out.2.2.1; omega) (by have := HLN.out.2.2.2; omega))
  have clA_0 : w4.cell? ⟨w.heap.size, 0, none⟩ = some (.bool n) := HA4.out.cell 0
  have clA_1 : w4.cell? ⟨w.heap.size, 1, none⟩ = some (.slice a xs.length ca) := HA4.out.cell 1
  have clA_2 : w4.cell? ⟨w.heap.size, 2, none⟩ = some (.slice b ys.length cb) := HA4.out.cell 2
  have clA_3 : w4.cell? ⟨w.heap.size, 3, none⟩ = some (.bool m) := HA4.out.cell 3
  have clA_4 : w4.cell? ⟨w.heap.size, 4, none⟩ = some (.slice c us.length cc) := HA4.out.cell 4
  have clA_5 : w4.cell? ⟨w.heap.size, 5, none⟩ = some (.slice d vs.length cd) := HA4.out.cell 5
  go_wp2_with fail
  refine Calls.mono HC.out ?_
  rintro e w5 ⟨T2, rfl, h1, h2, hb⟩
  clear clA_0 clA_1 clA_2 clA_3 clA_4 clA_5
  clear HC
  have HW5 := hid (bt HW4.out hb)
  have Z5 := hid (Below.size hb)
  have HA5 := hid (HA4.out.later hb HA4.out.lt)
  have HP5 := hid (HP4.out.later hb HP4.out.lt)
  have SR5 := hid (And.intro (SR4.out.1.later hb) (And.intro (SR4.out.2.1.later hb) (And.intro (SR4.out.2.2.1.later hb) (SR4.out.2.2.2.later hb))))
  have ST5 := hid (ST4.out.later hb)
  have SL5 := hid (And.intro (owns_later SL4.out.1 hb) (And.intro (owns_later SL4.out.2.1 hb) (And.intro (owns_later SL4.out.2.2.1 hb) (owns_later SL4.out.2.2.2 hb))))
  clear HW4 HA4 HP4 SR4 ST4 SL4
  have hT12 : T1 = T2 := by
    by_cases hz : gpErr n xs ys m us vs = 0
    · exact ByteArray.ext (Array.ext' ((HN1.out.1 hz).trans (h1 hz).symm))
    · exact (HN1.out.2 hz).trans (h2 hz).symm
  subst hT12
  clear h1 h2 hb HN1
  generalize gpErr n xs ys m us vs = GE at *
  have HC := hid (gParse_any s w5 HSZ.out)
  go_wp2_with fail
  refine Calls.mono HC.out ?_
  rintro e w7 ⟨s1, e1, k1, z1, f1, l1, d1, t1, p1, q1, z2, o1, r1, d2, u1, rfl, ho, ht, hb, W1_, hc1, hc2⟩
  clear HC
  have HW6 := hid (bt HW5.out hb)
  have Z6 := hid (Below.size hb)
  have HA6 := hid (HA5.out.later hb HA5.out.lt)
  have HP6 := hid (HP5.out.later hb HP5.out.lt)
  have SR6 := hid (And.intro (SR5.out.1.later hb) (And.intro (SR5.out.2.1.later hb) (And.intro (SR5.out.2.2.1.later hb) (SR5.out.2.2.2.later hb))))
  have ST6 := hid (ST5.out.later hb)
  have SL6 := hid (And.intro (owns_later SL5.out.1 hb) (And.intro (owns_later SL5.out.2.1 hb) (And.intro (owns_later SL5.out.2.2.1 hb) (owns_later SL5.out.2.2.2 hb))))
  clear HW5 HA5 HP5 SR5 ST5 SL5
  have HT1 := hid ht
  have SO1 := hid ho
  have HI1 := hid (And.intro (kp4_of_cuts hc1 hc2) (And.intro (kg_within ho.1) (And.intro (kg_within ho.2.1) (And.intro (kg_within ho.2.2.1) (kg_within ho.2.2.2)))))
  clear hc1 hc2
  clear ho ht hb
  have GB := hid (Box.made w7 26 #[.bool s1, .slice e1 z1.length k1, .slice f1 d1.length l1, .bool t1, .slice p1 z2.length q1, .slice o1 d2.length r1])
  have LB := hid (alloc_later w7 (.cells #[.bool s1, .slice e1 z1.length k1, .slice f1 d1.length l1, .bool t1, .slice p1 z2.length q1, .slice o1 d2.length r1] 26))
  obtain ⟨YB, hYB⟩ : ∃ YB, w7.alloc (.cells #[.bool s1, .slice e1 z1.length k1, .slice f1 d1.length l1, .bool t1, .slice p1 z2.length q1, .slice o1 d2.length r1] 26) = YB := ⟨_, rfl⟩
  rw [hYB] at GB LB
  have HW7 := hid (bt HW6.out LB.out)
  have Z7 := hid (Below.size LB.out)
  have HA7 := hid (HA6.out.later LB.out HA6.out.lt)
  have HP7 := hid (HP6.out.later LB.out HP6.out.lt)
  have SR7 := hid (And.intro (SR6.out.1.later LB.out) (And.intro (SR6.out.2.1.later LB.out) (And.intro (SR6.out.2.2.1.later LB.out) (SR6.out.2.2.2.later LB.out))))
  have ST7 := hid (ST6.out.later LB.out)
  have SL7 := hid (And.intro (owns_later SL6.out.1 LB.out) (And.intro (owns_later SL6.out.2.1 LB.out) (And.intro (owns_later SL6.out.2.2.1 LB.out) (owns_later SL6.out.2.2.2 LB.out))))
  have SO17 := hid (And.intro (owns_later SO1.out.1 LB.out) (And.intro (owns_later SO1.out.2.1 LB.out) (And.intro (owns_later SO1.out.2.2.1 LB.out) (owns_later SO1.out.2.2.2 LB.out))))
  clear HW6 HA6 HP6 SR6 ST6 SL6 SO1
  have HC := hid (gParse_any s YB HSZ.out)
  go_wp2_with fail
  clear hYB
  refine Calls.mono HC.out ?_
  rintro e w9 ⟨s2_, e2, k2, z2_, f2, l2, d2_, t2_, p2, q2, y2_, o2, r2, v2_, u2_, rfl, ho, ht, hb, W1_, hc1, hc2⟩
  clear HC
  have HW8 := hid (bt HW7.out hb)
  have Z8 := hid (Below.size hb)
  have HA8 := hid (HA7.out.later hb HA7.out.lt)
  have HP8 := hid (HP7.out.later hb HP7.out.lt)
  have HB8 := hid (GB.out.later hb GB.out.lt)
  have SR8 := hid (And.intro (SR7.out.1.later hb) (And.intro (SR7.out.2.1.later hb) (And.intro (SR7.out.2.2.1.later hb) (SR7.out.2.2.2.later hb))))
  have ST8 := hid (ST7.out.later hb)
  have SL8 := hid (And.intro (owns_later SL7.out.1 hb) (And.intro (owns_later SL7.out.2.1 hb) (And.intro (owns_later SL7.out.2.2.1 hb) (owns_later SL7.out.2.2.2 hb))))
  have SO18 := hid (And.intro (owns_later SO17.out.1 hb) (And.intro (owns_later SO17.out.2.1 hb) (And.intro (owns_later SO17.out.2.2.1 hb) (owns_later SO17.out.2.2.2 hb))))
  clear HW7 HA7 HP7 GB SR7 ST7 SL7 SO17
  obtain ⟨rfl, rfl, rfl, rfl, rfl, rfl, rfl⟩ := HT1.out.one ht
  have SO2 := hid ho
  have HI2 := hid (And.intro (kp4_of_cuts hc1 hc2) (And.intro (kg_within ho.1) (And.intro (kg_within ho.2.1) (And.intro (kg_within ho.2.2.1) (kg_within ho.2.2.2)))))
  clear hc1 hc2
  clear ho ht hb
  have GC := hid (Box.made w9 26 #[.bool s1, .slice e2 z1.length k2, .slice f2 d1.length l2, .bool t1, .slice p2 z2.length q2, .slice o2 d2.length r2])
  have LC := hid (alloc_later w9 (.cells #[.bool s1, .slice e2 z1.length k2, .slice f2 d1.length l2, .bool t1, .slice p2 z2.length q2, .slice o2 d2.length r2] 26))
  obtain ⟨YC, hYC⟩ : ∃ YC, w9.alloc (.cells #[.bool s1, .slice e2 z1.length k2, .slice f2 d1.length l2, .bool t1, .slice p2 z2.length q2, .slice o2 d2.length r2] 26) = YC := ⟨_, rfl⟩
  rw [hYC] at GC LC
  have HW9 := hid (bt HW8.out LC.out)
  have Z9 := hid (Below.size LC.out)
  have HA9 := hid (HA8.out.later LC.out HA8.out.lt)
  have HP9 := hid (HP8.out.later LC.out HP8.out.lt)
  have HB9 := hid (HB8.out.later LC.out HB8.out.lt)
  have SR9 := hid (And.intro (SR8.out.1.later LC.out) (And.intro (SR8.out.2.1.later LC.out) (And.intro (SR8.out.2.2.1.later LC.out) (SR8.out.2.2.2.later LC.out))))
  have ST9 := hid (ST8.out.later LC.out)
  have SL9 := hid (And.intro (owns_later SL8.out.1 LC.out) (And.intro (owns_later SL8.out.2.1 LC.out) (And.intro (owns_later SL8.out.2.2.1 LC.out) (owns_later SL8.out.2.2.2 LC.out))))
  have SO19 := hid (And.intro (owns_later SO18.out.1 LC.out) (And.intro (owns_later SO18.out.2.1 LC.out) (And.intro (owns_later SO18.out.2.2.1 LC.out) (owns_later SO18.out.2.2.2 LC.out))))
  have SO29 := hid (And.intro (owns_later SO2.out.1 LC.out) (And.intro (owns_later SO2.out.2.1 LC.out) (And.intro (owns_later SO2.out.2.2.1 LC.out) (owns_later SO2.out.2.2.2 LC.out))))
  clear HW8 HA8 HP8 HB8 SR8 ST8 SL8 SO18 SO2
  have HC := hid (d4Parse_any s YC HSZ.out)
  go_wp2_with fail
  clear hYC
  refine Calls.mono HC.out ?_
  rintro e wB ⟨s3_, e3, k3, z3_, f3, l3, d3_, t3_, p3, q3, y3_, o3, r3, v3_, u3_, rfl, ho, ht, hb⟩
  clear HC
  have HW10 := hid (bt HW9.out hb)
  have Z10 := hid (Below.size hb)
  have HA10 := hid (HA9.out.later hb HA9.out.lt)
  have HP10 := hid (HP9.out.later hb HP9.out.lt)
  have HB10 := hid (HB9.out.later hb HB9.out.lt)
  have HC10 := hid (GC.out.later hb GC.out.lt)
  have SR10 := hid (And.intro (SR9.out.1.later hb) (And.intro (SR9.out.2.1.later hb) (And.intro (SR9.out.2.2.1.later hb) (SR9.out.2.2.2.later hb))))
  have ST10 := hid (ST9.out.later hb)
  have SL10 := hid (And.intro (owns_later SL9.out.1 hb) (And.intro (owns_later SL9.out.2.1 hb) (And.intro (owns_later SL9.out.2.2.1 hb) (owns_later SL9.out.2.2.2 hb))))
  have SO110 := hid (And.intro (owns_later SO19.out.1 hb) (And.intro (owns_later SO19.out.2.1 hb) (And.intro (owns_later SO19.out.2.2.1 hb) (owns_later SO19.out.2.2.2 hb))))
  have SO210 := hid (And.intro (owns_later SO29.out.1 hb) (And.intro (owns_later SO29.out.2.1 hb) (And.intro (owns_later SO29.out.2.2.1 hb) (owns_later SO29.out.2.2.2 hb))))
  clear HW9 HA9 HP9 HB9 GC SR9 ST9 SL9 SO19 SO29
  obtain ⟨rfl, rfl, rfl, rfl, rfl, rfl, rfl⟩ := HT1.out.one ht
  have SD3 := hid (And.intro (Sl.own ho.1 HT1.out.wd.1) (And.intro (Sl.own ho.2.1 HT1.out.wd.2.1) (And.intro (Sl.own ho.2.2.1 HT1.out.wd.2.2.1) (Sl.own ho.2.2.2 HT1.out.wd.2.2.2))))
  clear ho ht hb
  have GD := hid (Box.made wB 26 #[.bool s1, .slice e3 z1.length k3, .slice f3 d1.length l3, .bool t1, .slice p3 z2.length q3, .slice o3 d2.length r3])
  have LD := hid (alloc_later wB (.cells #[.bool s1, .slice e3 z1.length k3, .slice f3 d1.length l3, .bool t1, .slice p3 z2.length q3, .slice o3 d2.length r3] 26))
  obtain ⟨YD, hYD⟩ : ∃ YD, wB.alloc (.cells #[.bool s1, .slice e3 z1.length k3, .slice f3 d1.length l3, .bool t1, .slice p3 z2.length q3, .slice o3 d2.length r3] 26) = YD := ⟨_, rfl⟩
  rw [hYD] at GD LD
  have HW11 := hid (bt HW10.out LD.out)
  have Z11 := hid (Below.size LD.out)
  have HA11 := hid (HA10.out.later LD.out HA10.out.lt)
  have HP11 := hid (HP10.out.later LD.out HP10.out.lt)
  have HB11 := hid (HB10.out.later LD.out HB10.out.lt)
  have HC11 := hid (HC10.out.later LD.out HC10.out.lt)
  have SR11 := hid (And.intro (SR10.out.1.later LD.out) (And.intro (SR10.out.2.1.later LD.out) (And.intro (SR10.out.2.2.1.later LD.out) (SR10.out.2.2.2.later LD.out))))
  have ST11 := hid (ST10.out.later LD.out)
  have SL11 := hid (And.intro (owns_later SL10.out.1 LD.out) (And.intro (owns_later SL10.out.2.1 LD.out) (And.intro (owns_later SL10.out.2.2.1 LD.out) (owns_later SL10.out.2.2.2 LD.out))))
  have SO111 := hid (And.intro (owns_later SO110.out.1 LD.out) (And.intro (owns_later SO110.out.2.1 LD.out) (And.intro (owns_later SO110.out.2.2.1 LD.out) (owns_later SO110.out.2.2.2 LD.out))))
  have SO211 := hid (And.intro (owns_later SO210.out.1 LD.out) (And.intro (owns_later SO210.out.2.1 LD.out) (And.intro (owns_later SO210.out.2.2.1 LD.out) (owns_later SO210.out.2.2.2 LD.out))))
  have SD311 := hid (And.intro (SD3.out.1.later LD.out) (And.intro (SD3.out.2.1.later LD.out) (And.intro (SD3.out.2.2.1.later LD.out) (SD3.out.2.2.2.later LD.out))))
  clear HW10 HA10 HP10 HB10 HC10 SR10 ST10 SL10 SO110 SO210 SD3
  have HF := hid HT1.out.few
  have HFW := hid HT1.out.wd
  clear HT1
  have HC := hid (kone_any s1 t1 z1 d1 z2 d2 e1 k1 f1 l1 p1 q1 o1 r1 e2 k2 f2 l2 p2 q2 o2 r2 e3 k3 f3 l3 p3 q3 o3 r3 u1 YD ⟨Sl.own SO111.out.1 HFW.out.1, Sl.own SO111.out.2.1 HFW.out.2.1, Sl.own SO111.out.2.2.1 HFW.out.2.2.1, Sl.own SO111.out.2.2.2 HFW.out.2.2.2⟩ ⟨Sl.own SO211.out.1 HFW.out.1, Sl.own SO211.out.2.1 HFW.out.2.1, Sl.own SO211.out.2.2.1 HFW.out.2.2.1, Sl.own SO211.out.2.2.2 HFW.out.2.2.2⟩ SD311.out (by have := HF.out.1; omega) (by have := HF.out.2.1; omega) (by have := HF.out.2.2.1; omega) (by have := HF.out.2.2.2; omega))
  have clB_0 : YD.cell? ⟨w7.heap.size, 0, none⟩ = some (.bool s1) := HB11.out.cell 0
  have clB_1 : YD.cell? ⟨w7.heap.size, 1, none⟩ = some (.slice e1 z1.length k1) := HB11.out.cell 1
  have clB_2 : YD.cell? ⟨w7.heap.size, 2, none⟩ = some (.slice f1 d1.length l1) := HB11.out.cell 2
  have clB_3 : YD.cell? ⟨w7.heap.size, 3, none⟩ = some (.bool t1) := HB11.out.cell 3
  have clB_4 : YD.cell? ⟨w7.heap.size, 4, none⟩ = some (.slice p1 z2.length q1) := HB11.out.cell 4
  have clB_5 : YD.cell? ⟨w7.heap.size, 5, none⟩ = some (.slice o1 d2.length r1) := HB11.out.cell 5
  have clC_0 : YD.cell? ⟨w9.heap.size, 0, none⟩ = some (.bool s1) := HC11.out.cell 0
  have clC_1 : YD.cell? ⟨w9.heap.size, 1, none⟩ = some (.slice e2 z1.length k2) := HC11.out.cell 1
  have clC_2 : YD.cell? ⟨w9.heap.size, 2, none⟩ = some (.slice f2 d1.length l2) := HC11.out.cell 2
  have clC_3 : YD.cell? ⟨w9.heap.size, 3, none⟩ = some (.bool t1) := HC11.out.cell 3
  have clC_4 : YD.cell? ⟨w9.heap.size, 4, none⟩ = some (.slice p2 z2.length q2) := HC11.out.cell 4
  have clC_5 : YD.cell? ⟨w9.heap.size, 5, none⟩ = some (.slice o2 d2.length r2) := HC11.out.cell 5
  have clD_0 : YD.cell? ⟨wB.heap.size, 0, none⟩ = some (.bool s1) := GD.out.cell 0
  have clD_1 : YD.cell? ⟨wB.heap.size, 1, none⟩ = some (.slice e3 z1.length k3) := GD.out.cell 1
  have clD_2 : YD.cell? ⟨wB.heap.size, 2, none⟩ = some (.slice f3 d1.length l3) := GD.out.cell 2
  have clD_3 : YD.cell? ⟨wB.heap.size, 3, none⟩ = some (.bool t1) := GD.out.cell 3
  have clD_4 : YD.cell? ⟨wB.heap.size, 4, none⟩ = some (.slice p3 z2.length q3) := GD.out.cell 4
  have clD_5 : YD.cell? ⟨wB.heap.size, 5, none⟩ = some (.slice o3 d2.length r3) := GD.out.cell 5
  go_wp2_with fail
  clear hYD
  refine Calls.mono HC.out ?_
  rintro e wD ⟨rfl, hb⟩
  clear clB_0 clB_1 clB_2 clB_3 clB_4 clB_5 clC_0 clC_1 clC_2 clC_3 clC_4 clC_5 clD_0 clD_1 clD_2 clD_3 clD_4 clD_5
  clear HC
  have HW12 := hid (bt HW11.out hb)
  have Z12 := hid (Below.size hb)
  have HA12 := hid (HA11.out.later hb HA11.out.lt)
  have HP12 := hid (HP11.out.later hb HP11.out.lt)
  have HB12 := hid (HB11.out.later hb HB11.out.lt)
  have HC12 := hid (HC11.out.later hb HC11.out.lt)
  have HD12 := hid (GD.out.later hb GD.out.lt)
  have SR12 := hid (And.intro (SR11.out.1.later hb) (And.intro (SR11.out.2.1.later hb) (And.intro (SR11.out.2.2.1.later hb) (SR11.out.2.2.2.later hb))))
  have ST12 := hid (ST11.out.later hb)
  have SL12 := hid (And.intro (owns_later SL11.out.1 hb) (And.intro (owns_later SL11.out.2.1 hb) (And.intro (owns_later SL11.out.2.2.1 hb) (owns_later SL11.out.2.2.2 hb))))
  have SO112 := hid (And.intro (owns_later SO111.out.1 hb) (And.intro (owns_later SO111.out.2.1 hb) (And.intro (owns_later SO111.out.2.2.1 hb) (owns_later SO111.out.2.2.2 hb))))
  have SO212 := hid (And.intro (owns_later SO211.out.1 hb) (And.intro (owns_later SO211.out.2.1 hb) (And.intro (owns_later SO211.out.2.2.1 hb) (owns_later SO211.out.2.2.2 hb))))
  have SD312 := hid (And.intro (SD311.out.1.later hb) (And.intro (SD311.out.2.1.later hb) (And.intro (SD311.out.2.2.1.later hb) (SD311.out.2.2.2.later hb))))
  clear HW11 HA11 HP11 HB11 HC11 GD SR11 ST11 SL11 SO111 SO211 SD311
  clear hb
  have HC := hid (kkeptGauss_any n a ca xs b cb ys m c cc us d cd vs g1 c1 g2 c2 g3 c3 g4 c4 _ wD SR12.out.1 SR12.out.2.1 SR12.out.2.2.1 SR12.out.2.2.2 (by have := HLN.out.1; omega) (by have := HLN.out.2.1; omega) (by have := HLN.out.2.2.1; omega) (by have := HLN.out.2.2.2; omega) SL12.out.1 SL12.out.2.1 SL12.out.2.2.1 SL12.out.2.2.2)
  have clP_0 : wD.cell? ⟨w3.heap.size, 0, none⟩ = some (.bool n) := HP12.out.cell 0
  have clP_1 : wD.cell? ⟨w3.heap.size, 1, none⟩ = some (.slice (some ⟨g1, 0, none⟩) xs.length c1) := HP12.out.cell 1
  have clP_2 : wD.cell? ⟨w3.heap.size, 2, none⟩ = some (.slice (some ⟨g2, 0, none⟩) ys.length c2) := HP12.out.cell 2
  have clP_3 : wD.cell? ⟨w3.heap.size, 3, none⟩ = some (.bool m) := HP12.out.cell 3
  have clP_4 : wD.cell? ⟨w3.heap.size, 4, none⟩ = some (.slice (some ⟨g3, 0, none⟩) us.length c3) := HP12.out.cell 4
  have clP_5 : wD.cell? ⟨w3.heap.size, 5, none⟩ = some (.slice (some ⟨g4, 0, none⟩) vs.length c4) := HP12.out.cell 5
  have clA_0 : wD.cell? ⟨w.heap.size, 0, none⟩ = some (.bool n) := HA12.out.cell 0
  have clA_1 : wD.cell? ⟨w.heap.size, 1, none⟩ = some (.slice a xs.length ca) := HA12.out.cell 1
  have clA_2 : wD.cell? ⟨w.heap.size, 2, none⟩ = some (.slice b ys.length cb) := HA12.out.cell 2
  have clA_3 : wD.cell? ⟨w.heap.size, 3, none⟩ = some (.bool m) := HA12.out.cell 3
  have clA_4 : wD.cell? ⟨w.heap.size, 4, none⟩ = some (.slice c us.length cc) := HA12.out.cell 4
  have clA_5 : wD.cell? ⟨w.heap.size, 5, none⟩ = some (.slice d vs.length cd) := HA12.out.cell 5
  go_wp2_with fail
  refine Calls.mono HC.out ?_
  rintro e wE ⟨rfl, hb⟩
  clear clP_0 clP_1 clP_2 clP_3 clP_4 clP_5 clA_0 clA_1 clA_2 clA_3 clA_4 clA_5
  clear HC
  have HW13 := hid (bt HW12.out hb)
  have Z13 := hid (Below.size hb)
  have HA13 := hid (HA12.out.later hb HA12.out.lt)
  have HP13 := hid (HP12.out.later hb HP12.out.lt)
  have HB13 := hid (HB12.out.later hb HB12.out.lt)
  have HC13 := hid (HC12.out.later hb HC12.out.lt)
  have HD13 := hid (HD12.out.later hb HD12.out.lt)
  have SR13 := hid (And.intro (SR12.out.1.later hb) (And.intro (SR12.out.2.1.later hb) (And.intro (SR12.out.2.2.1.later hb) (SR12.out.2.2.2.later hb))))
  have ST13 := hid (ST12.out.later hb)
  have SL13 := hid (And.intro (owns_later SL12.out.1 hb) (And.intro (owns_later SL12.out.2.1 hb) (And.intro (owns_later SL12.out.2.2.1 hb) (owns_later SL12.out.2.2.2 hb))))
  have SO113 := hid (And.intro (owns_later SO112.out.1 hb) (And.intro (owns_later SO112.out.2.1 hb) (And.intro (owns_later SO112.out.2.2.1 hb) (owns_later SO112.out.2.2.2 hb))))
  have SO213 := hid (And.intro (owns_later SO212.out.1 hb) (And.intro (owns_later SO212.out.2.1 hb) (And.intro (owns_later SO212.out.2.2.1 hb) (owns_later SO212.out.2.2.2 hb))))
  have SD313 := hid (And.intro (SD312.out.1.later hb) (And.intro (SD312.out.2.1.later hb) (And.intro (SD312.out.2.2.1.later hb) (SD312.out.2.2.2.later hb))))
  clear HW12 HA12 HP12 HB12 HC12 HD12 SR12 ST12 SL12 SO112 SO212 SD312
  clear hb
  have hszB := HW13.out.size
  have hF := HF.out
  have hL := HLN.out
  have z1_ := Z1.out
  have z2_ := Z2.out
  have z3_ := Z3.out
  have z4_ := Z4.out
  have z5_ := Z5.out
  have z6_ := Z6.out
  have z7_ := Z7.out
  have z8_ := Z8.out
  have z9_ := Z9.out
  have z10_ := Z10.out
  have z11_ := Z11.out
  have z12_ := Z12.out
  have z13_ := Z13.out
  have zP := HZP.out
  have hwd : ∀ j, j < 12 → Wd (([xs, ys, us, vs, z1, d1, z2, d2, z1, d1, z2, d2] : List (List Int))[j]?.getD []) := fun j hj => by
    match j, hj with
    | 0, _ => exact HWD.out.1
    | 1, _ => exact HWD.out.2.1
    | 2, _ => exact HWD.out.2.2.1
    | 3, _ => exact HWD.out.2.2.2
    | 4, _ => exact HFW.out.1
    | 5, _ => exact HFW.out.2.1
    | 6, _ => exact HFW.out.2.2.1
    | 7, _ => exact HFW.out.2.2.2
    | 8, _ => exact HFW.out.1
    | 9, _ => exact HFW.out.2.1
    | 10, _ => exact HFW.out.2.2.1
    | 11, _ => exact HFW.out.2.2.2
  have hbig : ∀ j, j < 12 → (([xs, ys, us, vs, z1, d1, z2, d2, z1, d1, z2, d2] : List (List Int))[j]?.getD []).length ≤ 1099511627776 := fun j hj => by
    match j, hj with
    | 0, _ => show xs.length ≤ _; omega
    | 1, _ => show ys.length ≤ _; omega
    | 2, _ => show us.length ≤ _; omega
    | 3, _ => show vs.length ≤ _; omega
    | 4, _ => show z1.length ≤ _; omega
    | 5, _ => show d1.length ≤ _; omega
    | 6, _ => show z2.length ≤ _; omega
    | 7, _ => show d2.length ≤ _; omega
    | 8, _ => show z1.length ≤ _; omega
    | 9, _ => show d1.length ≤ _; omega
    | 10, _ => show z2.length ≤ _; omega
    | 11, _ => show d2.length ≤ _; omega
  have hown : ∀ j, j < 12 → wE.ownsRow w.heap.size 71 1 (([.slice (some ⟨g1, 0, none⟩) xs.length c1, .slice (some ⟨g2, 0, none⟩) ys.length c2, .slice (some ⟨g3, 0, none⟩) us.length c3, .slice (some ⟨g4, 0, none⟩) vs.length c4, .slice e1 z1.length k1, .slice f1 d1.length l1, .slice p1 z2.length q1, .slice o1 d2.length r1, .slice e2 z1.length k2, .slice f2 d1.length l2, .slice p2 z2.length q2, .slice o2 d2.length r2] : List Value)[j]?.getD undef) (([xs, ys, us, vs, z1, d1, z2, d2, z1, d1, z2, d2] : List (List Int))[j]?.getD []).length ((([xs, ys, us, vs, z1, d1, z2, d2, z1, d1, z2, d2] : List (List Int))[j]?.getD []).map (Value.int .u32)) := fun j hj => by
    match j, hj with
    | 0, _ => exact owns_base (klentf SL13.out.1) (by omega)
    | 1, _ => exact owns_base (klentf SL13.out.2.1) (by omega)
    | 2, _ => exact owns_base (klentf SL13.out.2.2.1) (by omega)
    | 3, _ => exact owns_base (klentf SL13.out.2.2.2) (by omega)
    | 4, _ => exact owns_base SO113.out.1 (by omega)
    | 5, _ => exact owns_base SO113.out.2.1 (by omega)
    | 6, _ => exact owns_base SO113.out.2.2.1 (by omega)
    | 7, _ => exact owns_base SO113.out.2.2.2 (by omega)
    | 8, _ => exact owns_base SO213.out.1 (by omega)
    | 9, _ => exact owns_base SO213.out.2.1 (by omega)
    | 10, _ => exact owns_base SO213.out.2.2.1 (by omega)
    | 11, _ => exact owns_base SO213.out.2.2.2 (by omega)
  have iw0 : Within (.slice (some ⟨g1, 0, none⟩) xs.length c1) w2.heap.size w3.heap.size := fun g hg => by have h1 := HG.out; simp [Value.ownBlock] at hg; omega
  have iw1 : Within (.slice (some ⟨g2, 0, none⟩) ys.length c2) w2.heap.size w3.heap.size := fun g hg => by have h1 := HG.out; simp [Value.ownBlock] at hg; omega
  have iw2 : Within (.slice (some ⟨g3, 0, none⟩) us.length c3) w2.heap.size w3.heap.size := fun g hg => by have h1 := HG.out; simp [Value.ownBlock] at hg; omega
  have iw3 : Within (.slice (some ⟨g4, 0, none⟩) vs.length c4) w2.heap.size w3.heap.size := fun g hg => by have h1 := HG.out; simp [Value.ownBlock] at hg; omega
  have pa : Kp4 (.slice (some ⟨g1, 0, none⟩) xs.length c1) (.slice (some ⟨g2, 0, none⟩) ys.length c2) (.slice (some ⟨g3, 0, none⟩) us.length c3) (.slice (some ⟨g4, 0, none⟩) vs.length c4) := by
    have h1 := HG.out
    refine ⟨.inr ?_, .inr ?_, .inr ?_, .inr ?_, .inr ?_, .inr ?_⟩ <;> simp [Value.ownBlock] <;> omega
  have hap := kp_twelve (v := fun j => ([.slice (some ⟨g1, 0, none⟩) xs.length c1, .slice (some ⟨g2, 0, none⟩) ys.length c2, .slice (some ⟨g3, 0, none⟩) us.length c3, .slice (some ⟨g4, 0, none⟩) vs.length c4, .slice e1 z1.length k1, .slice f1 d1.length l1, .slice p1 z2.length q1, .slice o1 d2.length r1, .slice e2 z1.length k2, .slice f2 d1.length l2, .slice p2 z2.length q2, .slice o2 d2.length r2] : List Value)[j]?.getD undef) _ _ _ _ _ _ (fun j hj => by
    match j, hj with
    | 0, _ => exact iw0
    | 1, _ => exact iw1
    | 2, _ => exact iw2
    | 3, _ => exact iw3) (fun j hj => by
    match j, hj with
    | 0, _ => exact HI1.out.2.1
    | 1, _ => exact HI1.out.2.2.1
    | 2, _ => exact HI1.out.2.2.2.1
    | 3, _ => exact HI1.out.2.2.2.2) (fun j hj => by
    match j, hj with
    | 0, _ => exact HI2.out.2.1
    | 1, _ => exact HI2.out.2.2.1
    | 2, _ => exact HI2.out.2.2.2.1
    | 3, _ => exact HI2.out.2.2.2.2) (by omega) (by omega) (by omega) pa HI1.out.1 HI2.out.1
  have HAP := hid (kapartGausses3 w.heap.size n m s1 t1 s1 t1 (some ⟨g1, 0, none⟩) (some ⟨g2, 0, none⟩) (some ⟨g3, 0, none⟩) (some ⟨g4, 0, none⟩) e1 f1 p1 o1 e2 f2 p2 o2 xs.length ys.length us.length vs.length z1.length d1.length z2.length d2.length z1.length d1.length z2.length d2.length c1 c2 c3 c4 k1 l1 q1 r1 k2 l2 q2 r2 wE.heap.size (fun j => ([xs, ys, us, vs, z1, d1, z2, d2, z1, d1, z2, d2] : List (List Int))[j]?.getD []) (wE.alloc (.cells #[.bool n, .slice (some ⟨g1, 0, none⟩) xs.length c1, .slice (some ⟨g2, 0, none⟩) ys.length c2, .bool m, .slice (some ⟨g3, 0, none⟩) us.length c3, .slice (some ⟨g4, 0, none⟩) vs.length c4, .bool s1, .slice e1 z1.length k1, .slice f1 d1.length l1, .bool t1, .slice p1 z2.length q1, .slice o1 d2.length r1, .bool s1, .slice e2 z1.length k2, .slice f2 d1.length l2, .bool t1, .slice p2 z2.length q2, .slice o2 d2.length r2] 26)) (Box.made wE _ _) (by simp; omega) hwd hbig (fun j hj => owns_later (hown j hj) (alloc_later _ _)) hap)
  clear hap hown hwd hbig iw0 iw1 iw2 iw3 pa hF hL hszB zP z1_ z2_ z3_ z4_ z5_ z6_ z7_ z8_ z9_ z10_ z11_ z12_ z13_
  have HBB := hid HW13.out
  obtain ⟨YE, hYE⟩ : ∃ YE, wE.alloc (.cells #[.bool n, .slice (some ⟨g1, 0, none⟩) xs.length c1, .slice (some ⟨g2, 0, none⟩) ys.length c2, .bool m, .slice (some ⟨g3, 0, none⟩) us.length c3, .slice (some ⟨g4, 0, none⟩) vs.length c4, .bool s1, .slice e1 z1.length k1, .slice f1 d1.length l1, .bool t1, .slice p1 z2.length q1, .slice o1 d2.length r1, .bool s1, .slice e2 z1.length k2, .slice f2 d1.length l2, .bool t1, .slice p2 z2.length q2, .slice o2 d2.length r2] 26) = YE := ⟨_, rfl⟩
  rw [hYE] at HAP
  have hlE : Below w.heap.size w YE := by rw [← hYE]; exact bt HBB.out (alloc_later _ _)
  have HLE := hid hlE
  clear hlE
  have clP_0 : wE.cell? ⟨w3.heap.size, 0, none⟩ = some (.bool n) := HP13.out.cell 0
  have clP_1 : wE.cell? ⟨w3.heap.size, 1, none⟩ = some (.slice (some ⟨g1, 0, none⟩) xs.length c1) := HP13.out.cell 1
  have clP_2 : wE.cell? ⟨w3.heap.size, 2, none⟩ = some (.slice (some ⟨g2, 0, none⟩) ys.length c2) := HP13.out.cell 2
  have clP_3 : wE.cell? ⟨w3.heap.size, 3, none⟩ = some (.bool m) := HP13.out.cell 3
  have clP_4 : wE.cell? ⟨w3.heap.size, 4, none⟩ = some (.slice (some ⟨g3, 0, none⟩) us.length c3) := HP13.out.cell 4
  have clP_5 : wE.cell? ⟨w3.heap.size, 5, none⟩ = some (.slice (some ⟨g4, 0, none⟩) vs.length c4) := HP13.out.cell 5
  have clB_0 : wE.cell? ⟨w7.heap.size, 0, none⟩ = some (.bool s1) := HB13.out.cell 0
  have clB_1 : wE.cell? ⟨w7.heap.size, 1, none⟩ = some (.slice e1 z1.length k1) := HB13.out.cell 1
  have clB_2 : wE.cell? ⟨w7.heap.size, 2, none⟩ = some (.slice f1 d1.length l1) := HB13.out.cell 2
  have clB_3 : wE.cell? ⟨w7.heap.size, 3, none⟩ = some (.bool t1) := HB13.out.cell 3
  have clB_4 : wE.cell? ⟨w7.heap.size, 4, none⟩ = some (.slice p1 z2.length q1) := HB13.out.cell 4
  have clB_5 : wE.cell? ⟨w7.heap.size, 5, none⟩ = some (.slice o1 d2.length r1) := HB13.out.cell 5
  have clC_0 : wE.cell? ⟨w9.heap.size, 0, none⟩ = some (.bool s1) := HC13.out.cell 0
  have clC_1 : wE.cell? ⟨w9.heap.size, 1, none⟩ = some (.slice e2 z1.length k2) := HC13.out.cell 1
  have clC_2 : wE.cell? ⟨w9.heap.size, 2, none⟩ = some (.slice f2 d1.length l2) := HC13.out.cell 2
  have clC_3 : wE.cell? ⟨w9.heap.size, 3, none⟩ = some (.bool t1) := HC13.out.cell 3
  have clC_4 : wE.cell? ⟨w9.heap.size, 4, none⟩ = some (.slice p2 z2.length q2) := HC13.out.cell 4
  have clC_5 : wE.cell? ⟨w9.heap.size, 5, none⟩ = some (.slice o2 d2.length r2) := HC13.out.cell 5
  go_wp2_with fail
  refine Calls.mono HAP.out ?_
  rintro e wF ⟨rfl, hbE⟩
  have HBE := hid (HLE.out.trans hbE)
  clear hbE HAP
  clear clP_0 clP_1 clP_2 clP_3 clP_4 clP_5 clB_0 clB_1 clB_2 clB_3 clB_4 clB_5 clC_0 clC_1 clC_2 clC_3 clC_4 clC_5
  go_wp2_with fail
  go_ret
  exact ⟨rfl, HBE.out⟩

set_option maxHeartbeats 1600000 in
set_option maxRecDepth 100000 in
theorem gaussTexts_off (n : Bool) (a : Option Addr) (k1 ca : Nat) (b : Option Addr) (k2 cb : Nat) (m : Bool) (c : Option Addr) (k3 cc : Nat) (d : Option Addr) (k4 cd : Nat) (s : ByteArray) (w : World) (hq : ((smH k1 && smH k2) && (smH k3 && smH k4)) = false ∨ (3000 < s.size ∧ s.size ≤ 65536) ∨ 65545 < s.size) :
    Calls Tryz.prog 3 #[.agg #[.bool n, .slice a k1 ca, .slice b k2 cb, .bool m, .slice c k3 cc, .slice d k4 cd], .string s] w fun e w' => e = .returned (.bool true) ∧ Below w.heap.size w w' := by
  obtain ⟨P, hP⟩ : ∃ P, w.alloc (.cells #[.bool n, .slice a k1 ca, .slice b k2 cb, .bool m, .slice c k3 cc, .slice d k4 cd] 26) = P := ⟨_, rfl⟩
  have b1 : Below w.heap.size w P := by rw [← hP]; exact alloc_later _ _
  have HA : Hid (Box P w.heap.size 26 #[.bool n, .slice a k1 ca, .slice b k2 cb, .bool m, .slice c k3 cc, .slice d k4 cd]) := by rw [← hP]; exact Box.made w _ _
  have HS := hid (kheavy_any n a k1 ca b k2 cb m c k3 cc d k4 cd P)
  have HB := hid b1
  clear b1
  obtain ⟨e0, e1, e2, e3, e4, e5⟩ := Kl6.of HA.out
  cases h1 : ((smH k1 && smH k2) && (smH k3 && smH k4))
  · rw [h1] at HS
    clear hq h1
    go_enter Tryz.func3, Tryz.ntmps3
    go_wp2_with fail
    clear hP
    refine Calls.mono HS.out ?_
    rintro e w1 ⟨rfl, hb⟩
    have HB2 := hid (bt HB.out hb)
    clear hb HS e0 e1 e2 e3 e4 e5
    go_wp2_with fail
    go_ret
    exact ⟨rfl, HB2.out⟩
  · rw [h1] at HS
    rcases hq with hq | hq | hq
    · rw [h1] at hq
      exact absurd hq (by decide)
    · have z1_ : decide ((3000 : Int) < (s.size : Int)) = true := decide_eq_true (by omega)
      have z2_ : decide ((s.size : Int) ≤ (65536 : Int)) = true := decide_eq_true (by omega)
      clear hq h1
      go_enter Tryz.func3, Tryz.ntmps3
      go_wp2_with fail
      clear hP
      refine Calls.mono HS.out ?_
      rintro e w1 ⟨rfl, hb⟩
      have HB2 := hid (bt HB.out hb)
      clear hb HS e0 e1 e2 e3 e4 e5
      go_wp2_with fail
      go_ret
      exact ⟨rfl, HB2.out⟩
    · have z1_ : decide ((3000 : Int) < (s.size : Int)) = true := decide_eq_true (by omega)
      have z2_ : decide ((s.size : Int) ≤ (65536 : Int)) = false := decide_eq_false (by omega)
      have z3_ : decide ((65545 : Int) < (s.size : Int)) = true := decide_eq_true (by omega)
      clear hq h1
      go_enter Tryz.func3, Tryz.ntmps3
      go_wp2_with fail
      clear hP
      refine Calls.mono HS.out ?_
      rintro e w1 ⟨rfl, hb⟩
      have HB2 := hid (bt HB.out hb)
      clear hb HS e0 e1 e2 e3 e4 e5
      go_wp2_with fail
      go_ret
      exact ⟨rfl, HB2.out⟩
theorem smH_le {k : Nat} (h : smH k = true) : k ≤ 3000 := by
  unfold smH at h
  simp at h
  omega
theorem gaussTexts_in (n0 : Bool) (a0 : Option Addr) (k0 ca0 : Nat) (xs0 : List Int) (b0 : Option Addr) (l0 cb0 : Nat) (ys0 : List Int) (m0 : Bool) (c0 : Option Addr) (kc0 cc0 : Nat) (us0 : List Int) (d0 : Option Addr) (kd0 cd0 : Nat) (vs0 : List Int) (s : ByteArray) (w : World) (h0 : Reads w w.heap.size a0 k0 ca0 xs0) (g0 : Reads w w.heap.size b0 l0 cb0 ys0) (i0 : Reads w w.heap.size c0 kc0 cc0 us0) (j0 : Reads w w.heap.size d0 kd0 cd0 vs0) (htab : Tab w) :
    Calls Tryz.prog 3 #[.agg #[.bool n0, .slice a0 k0 ca0, .slice b0 l0 cb0, .bool m0, .slice c0 kc0 cc0, .slice d0 kd0 cd0], .string s] w fun e w' => e = .returned (.bool true) ∧ Below w.heap.size w w' := by
  by_cases hq : ((smH k0 && smH l0) && (smH kc0 && smH kd0)) = false ∨ (3000 < s.size ∧ s.size ≤ 65536) ∨ 65545 < s.size
  · exact gaussTexts_off n0 a0 k0 ca0 b0 l0 cb0 m0 c0 kc0 cc0 d0 kd0 cd0 s w hq
  · have q : ((smH k0 && smH l0) && (smH kc0 && smH kd0)) = true := by cases h : ((smH k0 && smH l0) && (smH kc0 && smH kd0)); exact absurd (.inl h) hq; rfl
    have q' : (smH k0 && smH l0) = true ∧ (smH kc0 && smH kd0) = true := by simpa using q
    have r1 : smH k0 = true ∧ smH l0 = true := by simpa using q'.1
    have r2 : smH kc0 = true ∧ smH kd0 = true := by simpa using q'.2
    have e0 := h0.1
    have f0 := g0.1
    have e1 := i0.1
    have f1 := j0.1
    subst e0
    subst f0
    subst e1
    subst f1
    have hq3 : ¬ ((3000 < s.size ∧ s.size ≤ 65536) ∨ 65545 < s.size) := fun h => hq (.inr h)
    by_cases hs : s.size ≤ 3000
    · exact gaussTexts_short n0 a0 ca0 xs0 b0 cb0 ys0 m0 c0 cc0 us0 d0 cd0 vs0 s w htab ⟨_, _, rfl, h0⟩ ⟨_, _, rfl, g0⟩ ⟨_, _, rfl, i0⟩ ⟨_, _, rfl, j0⟩ (smH_le r1.1) (smH_le r1.2) (smH_le r2.1) (smH_le r2.2) q'.1 q'.2 hs
    · exact gaussTexts_long n0 a0 ca0 xs0 b0 cb0 ys0 m0 c0 cc0 us0 d0 cd0 vs0 s w htab ⟨_, _, rfl, h0⟩ ⟨_, _, rfl, g0⟩ ⟨_, _, rfl, i0⟩ ⟨_, _, rfl, j0⟩ (smH_le r1.1) (smH_le r1.2) (smH_le r2.1) (smH_le r2.2) q'.1 q'.2 (by omega) (by omega)
end Go.Proofs.YtdgecalkhbbkoaaGreatDoor

