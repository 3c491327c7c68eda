/- My texts on the way to GaussKnown, one behind the other: contracts of the program and of the document's answers. -/
import Derived.Test.YtakeolfaamnkkaaGreatDoorJ1
import Derived.Test.YtakeolfaamnkkaaGreatDoorJ2
import Derived.Test.YtakeolfaamnkkaaGreatDoorJ3
import Derived.Test.YtakeolfaamnkkaaGreatDoorJ4
import Derived.Test.YtakeolfaamnkkaaGreatDoorJ5
import Derived.Test.YtakeolfaamnkkaaGreatDoorJ6
import Derived.Test.YtakeolfaamnkkaaGreatDoorShelf
import Derived.Lib.IndexBytes
import Derived.Lib.CutLaws
import Derived.Shelf.RegionOpenPlain
import Derived.Lib.ItoaLen
import Derived.Lib.AtoiAll
import Derived.Deep.RegionHeld3
import Derived.LoopN
import Derived.Deep.Cut
/- strings.Cut at one byte. -/
namespace Go.Proofs.YtakeolfaamnkkaaGreatDoor
open Go.RowKit Go.Lib
set_option linter.unusedVariables false
set_option linter.unusedSimpArgs false

set_option maxHeartbeats 1600000 in
set_option maxRecDepth 100000 in
theorem zcut0_any (s : ByteArray) (c : UInt8) (w : World) (hs : s.size ≤ 281474976710656) :
    Calls Tryz.prog 35 #[.string s, .string ⟨#[c]⟩] w fun e w' => e = .returned (.tuple #[.string ⟨(Lib.cut s.data.toList [c]).1.toArray⟩, .string ⟨(Lib.cut s.data.toList [c]).2.1.toArray⟩, .bool (Lib.cut s.data.toList [c]).2.2]) ∧ Below w.heap.size w w' := by
  have HI := hid (Tryz.stringslite_Index_one s c w)
  rw [← Lib.index_one] at HI
  rcases Lib.indexB_cases s ⟨#[c]⟩ with hix | ⟨i, hix, hroom⟩
  · obtain ⟨e1, e2, e3⟩ := Lib.cutB_miss s ⟨#[c]⟩ hix
    have e1' : (⟨(Lib.cut s.data.toList [c]).1.toArray⟩ : ByteArray) = _ := e1
    have e2' : (⟨(Lib.cut s.data.toList [c]).2.1.toArray⟩ : ByteArray) = _ := e2
    have e3' : (Lib.cut s.data.toList [c]).2.2 = _ := e3
    have hix' : Lib.index s.data.toList [c] = -1 := hix
    rw [hix'] at HI
    rw [e1', e2', e3']
    clear e1 e2 e3 e1' e2' e3' hix hix'
    go_enter Tryz.func35, Tryz.ntmps35
    go_wp2_with fail
    refine Calls.mono HI.out ?_
    rintro e w1 ⟨rfl, rfl⟩
    go_wp2_with fail
    go_returns
    exact ⟨rfl, Below.refl _ _⟩
  · obtain ⟨e1, e2, e3⟩ := Lib.cutB_hit s ⟨#[c]⟩ i hix
    have e1' : (⟨(Lib.cut s.data.toList [c]).1.toArray⟩ : ByteArray) = _ := e1
    have e2' : (⟨(Lib.cut s.data.toList [c]).2.1.toArray⟩ : ByteArray) = _ := e2
    have e3' : (Lib.cut s.data.toList [c]).2.2 = _ := e3
    have hix' : Lib.index s.data.toList [c] = (i : Int) := hix
    rw [hix'] at HI
    rw [e1', e2', e3']
    have hr : i + 1 ≤ s.size := hroom
    have c1 : (0 : Int) ≤ ↑i := by omega
    have c2 : (↑i : Int) ≤ ↑s.size := by omega
    have c3 : (0 : Int) ≤ ↑i + 1 := by omega
    have c4 : (↑i + 1 : Int) ≤ ↑s.size := by omega
    have hw : IntKind.i64.wrap ((i : Int) + 1) = (i : Int) + 1 := by rw [IntKind.wrap_i64]; omega
    have ht : ((i : Int) + 1).toNat = i + 1 := by omega
    clear e1 e2 e3 e1' e2' e3' hix hix' hroom
    go_enter Tryz.func35, Tryz.ntmps35
    go_wp2_with fail
    refine Calls.mono HI.out ?_
    rintro e w1 ⟨rfl, rfl⟩
    go_wp2_with fail
    go_region
    go_wp2_with fail
    go_returns
    exact ⟨rfl, (Below.refl _ _).drew⟩
set_option maxHeartbeats 1600000 in
set_option maxRecDepth 100000 in
theorem zcut_any (s : ByteArray) (c : UInt8) (w : World) (hs : s.size ≤ 281474976710656) :
    Calls Tryz.prog 20 #[.string s, .string ⟨#[c]⟩] w fun e w' => e = .returned (.tuple #[.string ⟨(Lib.cut s.data.toList [c]).1.toArray⟩, .string ⟨(Lib.cut s.data.toList [c]).2.1.toArray⟩, .bool (Lib.cut s.data.toList [c]).2.2]) ∧ Below w.heap.size w w' := by
  have HC := hid (zcut0_any s c w hs)
  generalize (Lib.cut s.data.toList [c]).1.toArray = A at *
  generalize (Lib.cut s.data.toList [c]).2.1.toArray = B at *
  generalize (Lib.cut s.data.toList [c]).2.2 = C at *
  go_enter Tryz.func20, Tryz.ntmps20
  go_wp2_with fail
  refine Calls.mono HC.out ?_
  rintro e w1 ⟨rfl, hb⟩
  go_wp2_with fail
  go_returns
  exact ⟨rfl, hb⟩
theorem zcut_len (l : List UInt8) (c : UInt8) : (Lib.cut l [c]).1.length ≤ l.length ∧ (Lib.cut l [c]).2.1.length ≤ l.length := by
  unfold Lib.cut
  split
  · simp
    omega
  · simp
end Go.Proofs.YtakeolfaamnkkaaGreatDoor

/- Complex fractions: gauss.Parse: of any text. -/
namespace Go.Proofs.YtakeolfaamnkkaaGreatDoor
open Go.RowKit Go.Lib
set_option linter.unusedVariables false

/-- A complex fraction told in new memory, all four rows apart. -/
def GToldC (w : World) (E : Int) (L : Prop) (q1 q2 : Rat) (x : Ending) (w' : World) : Prop :=
  ∃ n a ca xs b cb ys m c cc us d cd vs code, x = .returned (.tuple #[.agg #[.bool n, .slice a (List.length xs) ca, .slice b (List.length ys) cb, .bool m, .slice c (List.length us) cc, .slice d (List.length vs) cd], .int .i64 code]) ∧ (w'.ownsRow w.heap.size 35 1 (.slice a xs.length ca) xs.length (xs.map (Value.int .u32)) ∧ w'.ownsRow w.heap.size 35 1 (.slice b ys.length cb) ys.length (ys.map (Value.int .u32)) ∧ w'.ownsRow w.heap.size 35 1 (.slice c us.length cc) us.length (us.map (Value.int .u32)) ∧ w'.ownsRow w.heap.size 35 1 (.slice d vs.length cd) vs.length (vs.map (Value.int .u32))) ∧ GTells E L q1 q2 n xs ys m us vs code ∧ Below w.heap.size w w' ∧ ∃ W1, Cut w (.slice a xs.length ca) (.slice b ys.length cb) W1 ∧ Cut W1 (.slice c us.length cc) (.slice d vs.length cd) w'
theorem GToldC.told {w w' : World} {E : Int} {L : Prop} {q1 q2 : Rat} {x : Ending} (h : GToldC w E L q1 q2 x w') : GTold w E L q1 q2 x w' := by
  obtain ⟨n, a, ca, xs, b, cb, ys, m, c, cc, us, d, cd, vs, code, e, o, t, hb, _⟩ := h
  exact ⟨n, a, ca, xs, b, cb, ys, m, c, cc, us, d, cd, vs, code, e, o, t, hb⟩
theorem cut_nil (w w' : World) (h : w.heap.size ≤ w'.heap.size) : Cut w (.slice none 0 0) (.slice none 0 0) w' := ⟨w.heap.size, Nat.le_refl _, h, fun g hg => by simp [Value.ownBlock] at hg, fun g hg => by simp [Value.ownBlock] at hg⟩
theorem gtoldc_zero {w W : World} {E : Int} {L : Prop} {q1 q2 : Rat} {code : Int} (h : E ≠ 0 ∧ code = E ∨ E = 0 ∧ L ∧ code = 3) (hb : Below w.heap.size w W) : GToldC w E L q1 q2 (.returned (.tuple #[.agg #[.bool false, .slice none 0 0, .slice none 0 0, .bool false, .slice none 0 0, .slice none 0 0], .int .i64 code])) W := by
  refine ⟨false, none, 0, [], none, 0, [], false, none, 0, [], none, 0, [], code, rfl, ⟨World.ownsRow_nil _ _ _ _, World.ownsRow_nil _ _ _ _, World.ownsRow_nil _ _ _ _, World.ownsRow_nil _ _ _ _⟩, ⟨⟨Wd.nil, Wd.nil, Wd.nil, Wd.nil⟩, fun he => ⟨⟨rfl, rfl, rfl, rfl, rfl, rfl⟩, ?_⟩, fun he hl => ⟨⟨rfl, rfl, rfl, rfl, rfl, rfl⟩, ?_⟩, fun he hl => ?_⟩, hb, W, cut_nil _ _ hb.size, cut_nil _ _ (Nat.le_refl _)⟩
  · rcases h with h | h
    · exact h.2
    · exact absurd h.1 he
  · rcases h with h | h
    · exact absurd he h.1
    · exact h.2.2
  · rcases h with h | h
    · exact absurd he h.1
    · exact absurd h.2.1 hl

/-- The two pieces of a text. -/
def gp1 (l : List UInt8) : List UInt8 := (Lib.cut l [32]).1
def gp2 (l : List UInt8) : List UInt8 := (Lib.cut l [32]).2.1
def ggood (l : List UInt8) : Prop := rgood (gp1 l) ∧ rgood (gp2 l)
def gplong (l : List UInt8) : Prop := rlong (rpq (gp1 l)) ∨ rlong (rpq (gp2 l))
open Classical in
/-- What is refused of a text, but for numbers that are too long. -/
noncomputable def gpE (s : ByteArray) : Int := if 65536 < s.size then 3 else if ggood s.data.toList then 0 else 140
theorem gpE_long {s : ByteArray} (h : 65536 < s.size) : gpE s = 3 := by unfold gpE; rw [if_pos h]
theorem gpE_good {s : ByteArray} (hs : s.size ≤ 65536) (h : ggood s.data.toList) : gpE s = 0 := by unfold gpE; rw [if_neg (by omega), if_pos h]
theorem gpE_bad {s : ByteArray} (hs : s.size ≤ 65536) (h : ¬ ggood s.data.toList) : gpE s = 140 := by unfold gpE; rw [if_neg (by omega), if_neg h]
/-- The codes of both pieces, and what is told of them. -/
theorem gpar_codes {l1 l2 : List UInt8} (z1 : l1.length ≤ 65536) (z2 : l2.length ≤ 65536) {n m : Bool} {xs ys us vs : List Int} {c1 c2 : Int} (h1 : RTells (prErr ⟨l1.toArray⟩) (rpq l1) n xs ys c1) (h2 : RTells (prErr ⟨l2.toArray⟩) (rpq l2) m us vs c2) :
    (c1 = 130 ∧ ¬ (rgood l1 ∧ rgood l2)) ∨ (c1 ≠ 130 ∧ c2 = 130 ∧ ¬ (rgood l1 ∧ rgood l2)) ∨ ((rgood l1 ∧ rgood l2) ∧ c1 = 3 ∧ c2 ≠ 130 ∧ (rlong (rpq l1) ∨ rlong (rpq l2))) ∨ ((rgood l1 ∧ rgood l2) ∧ c1 = 0 ∧ c2 = 3 ∧ (rlong (rpq l1) ∨ rlong (rpq l2))) ∨ ((rgood l1 ∧ rgood l2) ∧ c1 = 0 ∧ c2 = 0 ∧ ¬ (rlong (rpq l1) ∨ rlong (rpq l2)) ∧ (rchk n xs ys = 0 ∧ rq n xs ys = rpq l1) ∧ rchk m us vs = 0 ∧ rq m us vs = rpq l2) := by
  have s1 : (⟨l1.toArray⟩ : ByteArray).size ≤ 65536 := by show l1.toArray.size ≤ 65536; simpa using z1
  have s2 : (⟨l2.toArray⟩ : ByteArray).size ≤ 65536 := by show l2.toArray.size ≤ 65536; simpa using z2
  have g1 : (⟨l1.toArray⟩ : ByteArray).data.toList = l1 := by simp
  have g2 : (⟨l2.toArray⟩ : ByteArray).data.toList = l2 := by simp
  have c2f : ¬ rgood l2 → c2 = 130 := fun h => by
    have e := prErr_bad s2 (by rw [g2]; exact h)
    rw [e] at h2
    exact (h2.bad (by decide)).2.2.2
  have c2t : rgood l2 → (c2 = 3 ∧ rlong (rpq l2)) ∨ (c2 = 0 ∧ ¬ rlong (rpq l2) ∧ rchk m us vs = 0 ∧ rq m us vs = rpq l2) := fun h => by
    have e := prErr_good s2 (by rw [g2]; exact h)
    rw [e] at h2
    by_cases hl : rlong (rpq l2)
    · exact .inl ⟨(h2.long rfl hl).2.2.2, hl⟩
    · exact .inr ⟨(h2.good rfl hl).1, hl, (h2.good rfl hl).2⟩
  by_cases k1 : rgood l1
  · have e := prErr_good s1 (by rw [g1]; exact k1)
    rw [e] at h1
    by_cases k2 : rgood l2
    · rcases c2t k2 with ⟨d, hl2⟩ | ⟨d, hl2, hk⟩
      · by_cases hl : rlong (rpq l1)
        · exact .inr (.inr (.inl ⟨⟨k1, k2⟩, (h1.long rfl hl).2.2.2, by omega, .inl hl⟩))
        · exact .inr (.inr (.inr (.inl ⟨⟨k1, k2⟩, (h1.good rfl hl).1, d, .inr hl2⟩)))
      · by_cases hl : rlong (rpq l1)
        · exact .inr (.inr (.inl ⟨⟨k1, k2⟩, (h1.long rfl hl).2.2.2, by omega, .inl hl⟩))
        · exact .inr (.inr (.inr (.inr ⟨⟨k1, k2⟩, (h1.good rfl hl).1, d, fun h => h.elim hl hl2, (h1.good rfl hl).2, hk⟩)))
    · refine .inr (.inl ⟨?_, c2f k2, fun h => k2 h.2⟩)
      by_cases hl : rlong (rpq l1)
      · have := (h1.long rfl hl).2.2.2; omega
      · have := (h1.good rfl hl).1; omega
  · have e := prErr_bad s1 (by rw [g1]; exact k1)
    rw [e] at h1
    exact .inl ⟨(h1.bad (by decide)).2.2.2, fun h => k1 h.1⟩

set_option maxHeartbeats 1600000 in
set_option maxRecDepth 100000 in
theorem gParse_long (s : ByteArray) (w : World) (hs : 65536 < s.size) (hm : s.size ≤ 281474976710656) (L : Prop) (q1 q2 : Rat) : Calls Tryz.prog 6 #[.string s] w (GToldC w 3 L q1 q2) := by
  have HX := hid (Box.made w 26 #[.bool false, .slice none 0 0, .slice none 0 0, .bool false, .slice none 0 0, .slice none 0 0])
  have HB := hid (alloc_later w (.cells #[.bool false, .slice none 0 0, .slice none 0 0, .bool false, .slice none 0 0, .slice none 0 0] 26))
  obtain ⟨X, hX⟩ : ∃ X, w.alloc (.cells #[.bool false, .slice none 0 0, .slice none 0 0, .bool false, .slice none 0 0, .slice none 0 0] 26) = X := ⟨_, rfl⟩
  rw [hX] at HX HB
  have m0 : X.cell? ⟨w.heap.size, 0, none⟩ = some (.bool false) := HX.out.cell 0
  have m1 : X.cell? ⟨w.heap.size, 1, none⟩ = some (.slice none 0 0) := HX.out.cell 1
  have m2 : X.cell? ⟨w.heap.size, 2, none⟩ = some (.slice none 0 0) := HX.out.cell 2
  have m3 : X.cell? ⟨w.heap.size, 3, none⟩ = some (.bool false) := HX.out.cell 3
  have m4 : X.cell? ⟨w.heap.size, 4, none⟩ = some (.slice none 0 0) := HX.out.cell 4
  have m5 : X.cell? ⟨w.heap.size, 5, none⟩ = some (.slice none 0 0) := HX.out.cell 5
  have f0 := HX.out.free 0
  have f1 := HX.out.free 1
  have f2 := HX.out.free 2
  have f3 := HX.out.free 3
  have f4 := HX.out.free 4
  have f5 := HX.out.free 5
  have hs' : (65536 : Int) < (s.size : Int) := by omega
  clear hs
  go_enter Tryz.func6, Tryz.ntmps6
  go_wp2_with fail
  have B1 := box_put6 HX.out (.bool false) (.slice none 0 0) (.slice none 0 0) (.bool false) (.slice none 0 0) (.slice none 0 0)
  have G1 := below_put6 HB.out w.heap.size (Nat.le_refl _) (.bool false) (.slice none 0 0) (.slice none 0 0) (.bool false) (.slice none 0 0) (.slice none 0 0)
  clear m0 m1 m2 m3 m4 m5 f0 f1 f2 f3 f4 f5
  exact bodyPost_ret (gres_run (by rfl) B1 _ rfl) rfl (gtoldc_zero (E := 3) (.inl ⟨by decide, rfl⟩) G1)

set_option maxHeartbeats 3200000 in
set_option maxRecDepth 100000 in
theorem gParse_any (s : ByteArray) (w : World) (hm : s.size ≤ 281474976710656) : Calls Tryz.prog 6 #[.string s] w (GToldC w (gpE s) (gplong s.data.toList) (rpq (gp1 s.data.toList)) (rpq (gp2 s.data.toList))) := by
  by_cases hs : 65536 < s.size
  · rw [gpE_long hs]
    exact gParse_long s w hs hm _ _ _
  have HX := hid (Box.made w 26 #[.bool false, .slice none 0 0, .slice none 0 0, .bool false, .slice none 0 0, .slice none 0 0])
  have HB := hid (alloc_later w (.cells #[.bool false, .slice none 0 0, .slice none 0 0, .bool false, .slice none 0 0, .slice none 0 0] 26))
  obtain ⟨X, hX⟩ : ∃ X, w.alloc (.cells #[.bool false, .slice none 0 0, .slice none 0 0, .bool false, .slice none 0 0, .slice none 0 0] 26) = X := ⟨_, rfl⟩
  rw [hX] at HX HB
  have hs' : ¬ (65536 : Int) < (s.size : Int) := by omega
  have HC := hid (zcut_any s 32 X hm)
  have hl : s.data.toList.length = s.size := Array.length_toList
  have hz1 : (Lib.cut s.data.toList [32]).1.length ≤ 65536 := by have := (zcut_len s.data.toList 32).1; omega
  have hz2 : (Lib.cut s.data.toList [32]).2.1.length ≤ 65536 := by have := (zcut_len s.data.toList 32).2; omega
  have HEG : Hid (ggood s.data.toList → gpE s = 0) := gpE_good (by omega)
  have HEB : Hid (¬ ggood s.data.toList → gpE s = 140) := gpE_bad (by omega)
  have HGG : Hid (ggood s.data.toList ↔ (rgood (gp1 s.data.toList) ∧ rgood (gp2 s.data.toList))) := Iff.rfl
  have HLL : Hid (gplong s.data.toList ↔ (rlong (rpq (gp1 s.data.toList)) ∨ rlong (rpq (gp2 s.data.toList)))) := Iff.rfl
  have e1 : gp1 s.data.toList = (Lib.cut s.data.toList [32]).1 := rfl
  have e2 : gp2 s.data.toList = (Lib.cut s.data.toList [32]).2.1 := rfl
  rw [← e1] at hz1 HC
  rw [← e2] at hz2 HC
  clear e1 e2 hl hs
  generalize gp1 s.data.toList = l1 at *
  generalize gp2 s.data.toList = l2 at *
  generalize ggood s.data.toList = GG at *
  generalize gplong s.data.toList = GL at *
  generalize gpE s = E at *
  have H1 : Hid (∀ V, Calls Tryz.prog 21 #[.string ⟨l1.toArray⟩] V (RToldA V (prErr ⟨l1.toArray⟩) (rpq l1))) := fun V => rparse_any ⟨l1.toArray⟩ V (by show l1.toArray.size ≤ 65536; simpa using hz1)
  have H2 : Hid (∀ V, Calls Tryz.prog 21 #[.string ⟨l2.toArray⟩] V (RToldA V (prErr ⟨l2.toArray⟩) (rpq l2))) := fun V => rparse_any ⟨l2.toArray⟩ V (by show l2.toArray.size ≤ 65536; simpa using hz2)
  have HP : Hid (∀ {n m : Bool} {xs ys us vs : List Int} {c1 c2 : Int}, RTells (prErr ⟨l1.toArray⟩) (rpq l1) n xs ys c1 → RTells (prErr ⟨l2.toArray⟩) (rpq l2) m us vs c2 → _) := fun h1 h2 => gpar_codes hz1 hz2 h1 h2
  generalize prErr ⟨l1.toArray⟩ = p1 at *
  generalize prErr ⟨l2.toArray⟩ = p2 at *
  generalize rpq l1 = q1 at *
  generalize rpq l2 = q2 at *
  generalize (rgood l1 ∧ rgood l2) = GD at *
  generalize (Lib.cut s.data.toList [32]).2.2 = fnd at *
  generalize l1.toArray = A1 at *
  generalize l2.toArray = A2 at *
  clear hz1 hz2
  go_enter Tryz.func6, Tryz.ntmps6
  go_wp2_with fail
  refine Calls.mono HC.out ?_
  rintro e w1 ⟨rfl, hb1⟩
  have HW1 := hid (bt HB.out hb1)
  have HR1 := hid (HX.out.later hb1 HX.out.lt)
  clear hb1 HC
  go_wp2_with fail
  refine Calls.mono (H1.out _) ?_
  rintro x w2 ⟨n, v, xs, u, ys, code1, rfl, ov1, ou1, ht1, hb2, hcut1⟩
  obtain ⟨av1, cv1, rfl⟩ := own_slice' ov1
  obtain ⟨au1, cu1, rfl⟩ := own_slice' ou1
  have HW2 := hid (bt HW1.out hb2)
  have HR2 := hid (HR1.out.later hb2 HR1.out.lt)
  have HN := hid (Box.made w2 24 #[.bool n, .slice av1 xs.length cv1, .slice au1 ys.length cu1])
  have HNB := hid (alloc_later w2 (.cells #[.bool n, .slice av1 xs.length cv1, .slice au1 ys.length cu1] 24))
  obtain ⟨Z, hZ⟩ : ∃ Z, w2.alloc (.cells #[.bool n, .slice av1 xs.length cv1, .slice au1 ys.length cu1] 24) = Z := ⟨_, rfl⟩
  rw [hZ] at HN HNB
  have HV1 := hid ov1
  have HU1 := hid ou1
  have HT1 := hid ht1
  have HC1 := hid hcut1
  have h12 : w1.heap.size ≤ w2.heap.size := hb2.size
  clear ov1 ou1 ht1 hcut1 hb2 H1
  go_wp2_with fail
  refine Calls.mono (H2.out _) ?_
  rintro x w3 ⟨m, v, us, u, vs, code2, rfl, ov2, ou2, ht2, hb3, hcut2⟩
  obtain ⟨av2, cv2, rfl⟩ := own_slice' ov2
  obtain ⟨au2, cu2, rfl⟩ := own_slice' ou2
  have HM := hid (Box.made w3 24 #[.bool m, .slice av2 us.length cv2, .slice au2 vs.length cu2])
  have HMB := hid (alloc_later w3 (.cells #[.bool m, .slice av2 us.length cv2, .slice au2 vs.length cu2] 24))
  obtain ⟨Q, hQ⟩ : ∃ Q, w3.alloc (.cells #[.bool m, .slice av2 us.length cv2, .slice au2 vs.length cu2] 24) = Q := ⟨_, rfl⟩
  rw [hQ] at HM HMB
  have hb2Q : Below w2.heap.size w2 Q := bt HNB.out (bt hb3 HMB.out)
  have HW3 := hid (bt HW2.out hb2Q)
  have HR3 := hid (HR2.out.later hb2Q HR2.out.lt)
  have HN3 := hid (HN.out.later (bt hb3 HMB.out) HN.out.lt)
  have HOO := hid (And.intro (owns_later HV1.out hb2Q) (And.intro (owns_later HU1.out hb2Q) (And.intro (owns_later ov2 HMB.out) (owns_later ou2 HMB.out))))
  have HC2 : Hid (Cut w2 (.slice av2 us.length cv2) (.slice au2 vs.length cu2) Q) := hcut2.up HNB.out.size HMB.out.size
  have HTT := hid (HP.out HT1.out ht2)
  have HWD := hid (And.intro HT1.out.wx (And.intro HT1.out.wy (And.intro ht2.wx ht2.wy)))
  have hsz1 : w.heap.size ≤ w1.heap.size := HW1.out.size
  have hszZ : w2.heap.size ≤ Z.heap.size := HNB.out.size
  clear ov2 ou2 ht2 hcut2 H2 HP hb2Q hb3 HT1
  have m0 : Q.cell? ⟨w.heap.size, 0, none⟩ = some (.bool false) := HR3.out.cell 0
  have m1 : Q.cell? ⟨w.heap.size, 1, none⟩ = some (.slice none 0 0) := HR3.out.cell 1
  have m2 : Q.cell? ⟨w.heap.size, 2, none⟩ = some (.slice none 0 0) := HR3.out.cell 2
  have m3 : Q.cell? ⟨w.heap.size, 3, none⟩ = some (.bool false) := HR3.out.cell 3
  have m4 : Q.cell? ⟨w.heap.size, 4, none⟩ = some (.slice none 0 0) := HR3.out.cell 4
  have m5 : Q.cell? ⟨w.heap.size, 5, none⟩ = some (.slice none 0 0) := HR3.out.cell 5
  have f0 := HR3.out.free 0
  have f1 := HR3.out.free 1
  have f2 := HR3.out.free 2
  have f3 := HR3.out.free 3
  have f4 := HR3.out.free 4
  have f5 := HR3.out.free 5
  rcases HTT.out with ⟨rfl, hg⟩ | ⟨d1, rfl, hg⟩ | ⟨hg, rfl, d2, hL⟩ | ⟨hg, rfl, rfl, hL⟩ | ⟨hg, rfl, rfl, hL, hk⟩
  · have HE := hid (HEB.out (fun h => hg (HGG.out.1 h)))
    clear HTT
    go_wp2_with fail
    have B1 := box_put6 HR3.out (.bool false) (.slice none 0 0) (.slice none 0 0) (.bool false) (.slice none 0 0) (.slice none 0 0)
    have G1 := below_put6 HW3.out w.heap.size (Nat.le_refl _) (.bool false) (.slice none 0 0) (.slice none 0 0) (.bool false) (.slice none 0 0) (.slice none 0 0)
    clear m0 m1 m2 m3 m4 m5 f0 f1 f2 f3 f4 f5
    exact bodyPost_ret (gres_run (by rfl) B1 _ rfl) rfl (gtoldc_zero (E := E) (.inl ⟨by rw [HE.out]; decide, HE.out.symm⟩) G1)
  · have HE := hid (HEB.out (fun h => hg (HGG.out.1 h)))
    have d1' : (code1 == 130) = false := by simp [d1]
    clear d1
    clear HTT
    go_wp2_with fail
    have B1 := box_put6 HR3.out (.bool false) (.slice none 0 0) (.slice none 0 0) (.bool false) (.slice none 0 0) (.slice none 0 0)
    have G1 := below_put6 HW3.out w.heap.size (Nat.le_refl _) (.bool false) (.slice none 0 0) (.slice none 0 0) (.bool false) (.slice none 0 0) (.slice none 0 0)
    clear m0 m1 m2 m3 m4 m5 f0 f1 f2 f3 f4 f5
    exact bodyPost_ret (gres_run (by rfl) B1 _ rfl) rfl (gtoldc_zero (E := E) (.inl ⟨by rw [HE.out]; decide, HE.out.symm⟩) G1)
  · have HE := hid (HEG.out (HGG.out.2 hg))
    have d2' : (code2 == 130) = false := by simp [d2]
    have HLo := hid (HLL.out.2 hL)
    clear d2 hL hg
    clear HTT
    go_wp2_with fail
    have B1 := box_put6 HR3.out (.bool false) (.slice none 0 0) (.slice none 0 0) (.bool false) (.slice none 0 0) (.slice none 0 0)
    have G1 := below_put6 HW3.out w.heap.size (Nat.le_refl _) (.bool false) (.slice none 0 0) (.slice none 0 0) (.bool false) (.slice none 0 0) (.slice none 0 0)
    clear m0 m1 m2 m3 m4 m5 f0 f1 f2 f3 f4 f5
    exact bodyPost_ret (gres_run (by rfl) B1 _ rfl) rfl (gtoldc_zero (E := E) (.inr ⟨HE.out, HLo.out, rfl⟩) G1)
  · have HE := hid (HEG.out (HGG.out.2 hg))
    have HLo := hid (HLL.out.2 hL)
    clear hL hg
    clear HTT
    go_wp2_with fail
    have B1 := box_put6 HR3.out (.bool false) (.slice none 0 0) (.slice none 0 0) (.bool false) (.slice none 0 0) (.slice none 0 0)
    have G1 := below_put6 HW3.out w.heap.size (Nat.le_refl _) (.bool false) (.slice none 0 0) (.slice none 0 0) (.bool false) (.slice none 0 0) (.slice none 0 0)
    clear m0 m1 m2 m3 m4 m5 f0 f1 f2 f3 f4 f5
    exact bodyPost_ret (gres_run (by rfl) B1 _ rfl) rfl (gtoldc_zero (E := E) (.inr ⟨HE.out, HLo.out, rfl⟩) G1)
  · have HE := hid (HEG.out (HGG.out.2 hg))
    have HLo := hid (fun h => hL (HLL.out.1 h))
    have HKK := hid hk
    have ka0 : Q.cell? ⟨w2.heap.size, 0, none⟩ = some (.bool n) := HN3.out.cell 0
    have ka1 : Q.cell? ⟨w2.heap.size, 1, none⟩ = some (.slice av1 xs.length cv1) := HN3.out.cell 1
    have ka2 : Q.cell? ⟨w2.heap.size, 2, none⟩ = some (.slice au1 ys.length cu1) := HN3.out.cell 2
    have kb0 : Q.cell? ⟨w3.heap.size, 0, none⟩ = some (.bool m) := HM.out.cell 0
    have kb1 : Q.cell? ⟨w3.heap.size, 1, none⟩ = some (.slice av2 us.length cv2) := HM.out.cell 1
    have kb2 : Q.cell? ⟨w3.heap.size, 2, none⟩ = some (.slice au2 vs.length cu2) := HM.out.cell 2
    clear HTT hL hk hg
    go_wp2_with fail
    have B1 := box_put6 HR3.out (.bool n) (.slice av1 xs.length cv1) (.slice au1 ys.length cu1) (.bool m) (.slice av2 us.length cv2) (.slice au2 vs.length cu2)
    have G1 := below_put6 HW3.out w.heap.size (Nat.le_refl _) (.bool n) (.slice av1 xs.length cv1) (.slice au1 ys.length cu1) (.bool m) (.slice av2 us.length cv2) (.slice au2 vs.length cu2)
    have hwX : w.heap.size < X.heap.size := HX.out.lt
    have hX1 : w.heap.size < w1.heap.size := HR1.out.lt
    have hput : ∀ {base k : Nat} {v : Value} {l : List Value}, Q.ownsRow base 35 1 v k l → (∀ g, v.ownBlock = some g → w1.heap.size ≤ g) → ((((((Q.setCell ⟨w.heap.size, 0, none⟩ (.bool n)).setCell ⟨w.heap.size, 1, none⟩ (.slice av1 xs.length cv1)).setCell ⟨w.heap.size, 2, none⟩ (.slice au1 ys.length cu1)).setCell ⟨w.heap.size, 3, none⟩ (.bool m)).setCell ⟨w.heap.size, 4, none⟩ (.slice av2 us.length cv2)).setCell ⟨w.heap.size, 5, none⟩ (.slice au2 vs.length cu2)).ownsRow base 35 1 v k l := fun h hb => own_put6 h _ (fun g hg => by have := hb g hg; omega) _ _ _ _ _ _
    clear m0 m1 m2 m3 m4 m5 f0 f1 f2 f3 f4 f5
    refine bodyPost_ret (gres_run (by rfl) B1 _ rfl) rfl ?_
    have hszQ : w.heap.size ≤ Z.heap.size := by omega
    refine ⟨n, av1, cv1, xs, au1, cu1, ys, m, av2, cv2, us, au2, cu2, vs, 0, rfl, ⟨owns_base (hput HOO.out.1 (fun g hg => (HOO.out.1.lt g hg).1)) hsz1, owns_base (hput HOO.out.2.1 (fun g hg => (HOO.out.2.1.lt g hg).1)) hsz1, owns_base (hput HOO.out.2.2.1 (fun g hg => by have := (HOO.out.2.2.1.lt g hg).1; omega)) hszQ, owns_base (hput HOO.out.2.2.2 (fun g hg => by have := (HOO.out.2.2.2.lt g hg).1; omega)) hszQ⟩, ⟨HWD.out, fun h => absurd HE.out h, fun _ h => absurd h HLo.out, fun _ _ => ⟨rfl, HKK.out⟩⟩, G1, w2, HC1.out.up hsz1 (Nat.le_refl _), HC2.out.up (Nat.le_refl _) (by simp [World.setCell])⟩
end Go.Proofs.YtakeolfaamnkkaaGreatDoor

/- Texts of fractions beside one another: cut at a blank, read back. Nothing here speaks of the program. -/
namespace Go.Proofs.YtakeolfaamnkkaaGreatDoor
open Go.RowKit Go.Lib
set_option linter.unusedVariables false
set_option linter.unusedSimpArgs false

theorem zdig_one {u : Nat} (h : u < 10) : decDigits u = [UInt8.ofNat (48 + u)] := by rw [decDigits, dif_pos h]
theorem zdig_more {u : Nat} (h : ¬ u < 10) : decDigits u = decDigits (u / 10) ++ [UInt8.ofNat (48 + u % 10)] := by rw [decDigits, dif_neg h]
theorem zdigit_nat (d : Nat) (h : d < 10) : (UInt8.ofNat (48 + d)).toNat = 48 + d := by rw [UInt8.toNat_ofNat']; omega
theorem zdec_all (n : Nat) : (∀ x ∈ decDigits n, 48 ≤ x.toNat ∧ x.toNat ≤ 57) ∧ decDigits n ≠ [] := by
  by_cases h : n < 10
  · rw [zdig_one h]
    refine ⟨fun x hx => ?_, by simp⟩
    rw [List.mem_singleton] at hx
    rw [hx, zdigit_nat n h]; omega
  · rw [zdig_more h]
    have ih := zdec_all (n / 10)
    refine ⟨fun x hx => ?_, by simp⟩
    rcases List.mem_append.1 hx with hx | hx
    · exact ih.1 x hx
    · rw [List.mem_singleton] at hx
      rw [hx, zdigit_nat (n % 10) (by omega)]; omega
termination_by n
decreasing_by omega
theorem tcut_eq (l : List UInt8) : cut (32 :: l) [32] = ([], l, true) := by
  unfold cut
  rw [index_one, indexByte]
  simp
theorem tcut_ne (c : UInt8) (l : List UInt8) (h : c ≠ 32) : cut (c :: l) [32] = (c :: (cut l [32]).1, (cut l [32]).2.1, (cut l [32]).2.2) := by
  have hb : (c == 32) = false := by simpa using h
  unfold cut
  rw [index_one, index_one, indexByte, hb]
  by_cases hi : indexByte l 32 = -1
  · rw [hi]
    simp
  · have h0 : 0 ≤ indexByte l 32 := by
      have := index_ge l [32]
      rw [index_one] at this
      omega
    have h1 : (indexByte l 32 == -1) = false := by simpa using hi
    rw [h1]
    simp only [Bool.false_eq_true, if_false]
    rw [if_pos (by omega), if_pos h0]
    have e : (indexByte l 32 + 1).toNat = (indexByte l 32).toNat + 1 := by omega
    rw [e]
    simp
theorem tcut_split : ∀ (a b : List UInt8), (∀ x ∈ a, x ≠ 32) → cut (a ++ 32 :: b) [32] = (a, b, true)
  | [], b, _ => tcut_eq b
  | c :: a, b, h => by
    show cut (c :: (a ++ 32 :: b)) [32] = _
    rw [tcut_ne c _ (h c (by simp)), tcut_split a b (fun x hx => h x (by simp [hx]))]
theorem rgood_nil : ¬ rgood [] := fun h => by
  have h1 := h.1.1
  have e : rup [] = [] := by decide
  rw [e] at h1
  exact absurd h1 (by decide)
theorem rtext_bytes (n : Bool) (xs ys : List Int) : ∀ x ∈ rtext n xs ys, x ≠ 32 := by
  have hd : ∀ k : Nat, ∀ x ∈ decDigits k, x ≠ 32 := fun k x hx e => by
    have := (zdec_all k).1 x hx
    rw [e] at this; exact absurd this (by decide)
  rw [rtext_eq]
  intro x hx
  rcases List.mem_append.1 hx with hx | hx
  · cases n with
    | false => simp at hx
    | true => simp at hx; rw [hx]; decide
  · rcases List.mem_append.1 hx with hx | hx
    · exact hd _ x hx
    · split at hx
      · simp at hx
      · rcases List.mem_cons.1 hx with hx | hx
        · rw [hx]; decide
        · exact hd _ x hx
theorem zform2 {n : Bool} {xs ys : List Int} (h : rchk n xs ys = 0) : rform n xs ys := by
  unfold rchk at h
  by_cases hl : 2048 < max xs.length ys.length
  · rw [if_pos hl] at h; exact absurd h (by decide)
  · rw [if_neg hl] at h
    by_cases c : rform n xs ys
    · exact c
    · rw [if_neg c] at h; exact absurd h (by decide)
theorem znotlong {n : Bool} {xs ys : List Int} (wx : Wd xs) (wy : Wd ys) (h : rchk n xs ys = 0) : ¬ rlong (rq n xs ys) := fun hl => absurd ((RTells.self wx wy h).long rfl hl).2.2.2 (by decide)
theorem gcut_text (n : Bool) (xs ys : List Int) (m : Bool) (us vs : List Int) : gp1 (gtext n xs ys m us vs) = rtext n xs ys ∧ gp2 (gtext n xs ys m us vs) = rtext m us vs := by
  have c4 : cut (gtext n xs ys m us vs) [32] = (rtext n xs ys, rtext m us vs, true) := tcut_split _ _ (rtext_bytes n xs ys)
  unfold gp1 gp2
  rw [c4]
  exact ⟨rfl, rfl⟩
end Go.Proofs.YtakeolfaamnkkaaGreatDoor

/- Complex fractions that are good: what the calls tell of them, by their fractions. -/
namespace Go.Proofs.YtakeolfaamnkkaaGreatDoor
open Go.RowKit
set_option linter.unusedVariables false
set_option linter.unusedSimpArgs false

/-- Both parts may be, and are these. -/
def GQ (n : Bool) (xs ys : List Int) (m : Bool) (us vs : List Int) (q1 q2 : Rat) : Prop := (rchk n xs ys = 0 ∧ rq n xs ys = q1) ∧ rchk m us vs = 0 ∧ rq m us vs = q2
def GOk2 (w : World) (q1 q2 : Rat) (x : Ending) (w' : World) : Prop := ∃ n a ca xs b cb ys m c cc us d cd vs, x = .returned (.tuple #[.agg #[.bool n, .slice a (List.length xs) ca, .slice b (List.length ys) cb, .bool m, .slice c (List.length us) cc, .slice d (List.length vs) cd], .int .i64 0]) ∧ Hid (Sl w' (.slice a (List.length xs) ca) xs ∧ Sl w' (.slice b (List.length ys) cb) ys ∧ Sl w' (.slice c (List.length us) cc) us ∧ Sl w' (.slice d (List.length vs) cd) vs) ∧ Hid (GQ n xs ys m us vs q1 q2) ∧ Hid (Below w.heap.size w w')
theorem gok_of {f : Nat} {args : Array Value} {w : World} {E : Int} {L : Prop} {q1 q2 : Rat} (H : Calls Tryz.prog f args w (GToldC w E L q1 q2)) (hE : E = 0) (hL : ¬ L) : Calls Tryz.prog f args w (GOk2 w q1 q2) := by
  subst hE
  refine Calls.mono H ?_
  rintro x w' ⟨n, a, ca, xs, b, cb, ys, m, c, cc, us, d, cd, vs, code, rfl, ⟨o1, o2, o3, o4⟩, t, hb, _⟩
  obtain ⟨rfl, k1, k2⟩ := t.good rfl hL
  exact ⟨n, a, ca, xs, b, cb, ys, m, c, cc, us, d, cd, vs, rfl, ⟨Sl.own o1 t.wd.1, Sl.own o2 t.wd.2.1, Sl.own o3 t.wd.2.2.1, Sl.own o4 t.wd.2.2.2⟩, ⟨k1, k2⟩, hb⟩
theorem GQ.chk {n m : Bool} {xs ys us vs : List Int} {q1 q2 : Rat} (h : GQ n xs ys m us vs q1 q2) : gchk n xs ys m us vs = 0 := by unfold gchk; rw [h.1.1, fstE_zero, h.2.1]
theorem GQ.same {n m n' m' : Bool} {xs ys us vs xs' ys' us' vs' : List Int} {q1 q2 : Rat} (h : GQ n xs ys m us vs q1 q2) (g : GQ n' xs' ys' m' us' vs' q1 q2) (wx : Wd xs) (wy : Wd ys) (wu : Wd us) (wv : Wd vs) (wx' : Wd xs') (wy' : Wd ys') (wu' : Wd us') (wv' : Wd vs') : (n = n' ∧ xs = xs' ∧ ys = ys') ∧ m = m' ∧ us = us' ∧ vs = vs' :=
  ⟨rq_inj wx wy wx' wy' h.1.1 g.1.1 (h.1.2.trans g.1.2.symm), rq_inj wu wv wu' wv' h.2.1 g.2.1 (h.2.2.trans g.2.2.symm)⟩
theorem GQ.len {n m : Bool} {xs ys us vs : List Int} {q1 q2 : Rat} (h : GQ n xs ys m us vs q1 q2) : xs.length ≤ 2048 ∧ ys.length ≤ 2048 ∧ us.length ≤ 2048 ∧ vs.length ≤ 2048 := ⟨(rchk_ok h.1.1).1, (rchk_ok h.1.1).2.1, (rchk_ok h.2.1).1, (rchk_ok h.2.1).2.1⟩
theorem GQ.short {n m : Bool} {xs ys us vs : List Int} {q1 q2 : Rat} (h : GQ n xs ys m us vs q1 q2) (wx : Wd xs) (wy : Wd ys) (wu : Wd us) (wv : Wd vs) : ¬ rlong q1 ∧ ¬ rlong q2 := by
  rw [← h.1.2, ← h.2.2]
  exact ⟨znotlong wx wy h.1.1, znotlong wu wv h.2.1⟩
/-- Parse of the text of a good one. -/
theorem gparse_text {n m : Bool} {xs ys us vs : List Int} (wx : Wd xs) (wy : Wd ys) (wu : Wd us) (wv : Wd vs) (hk : gchk n xs ys m us vs = 0) (hl : (gtext n xs ys m us vs).length ≤ 65536) (w : World) :
    Calls Tryz.prog 6 #[.string ⟨(gtext n xs ys m us vs).toArray⟩] w (GOk2 w (rq n xs ys) (rq m us vs)) := by
  obtain ⟨g1, g2⟩ := gchk_ok hk
  obtain ⟨p1, p2⟩ := gcut_text n xs ys m us vs
  have hs : (⟨(gtext n xs ys m us vs).toArray⟩ : ByteArray).size ≤ 65536 := by show (gtext n xs ys m us vs).toArray.size ≤ _; simpa using hl
  have e0 : (⟨(gtext n xs ys m us vs).toArray⟩ : ByteArray).data.toList = gtext n xs ys m us vs := by simp
  have H := gParse_any ⟨(gtext n xs ys m us vs).toArray⟩ w (by omega)
  have hE : gpE ⟨(gtext n xs ys m us vs).toArray⟩ = 0 := gpE_good hs (by
    rw [e0]
    unfold ggood
    rw [p1, p2]
    exact ⟨rgood_text wx wy (zform2 g1), rgood_text wu wv (zform2 g2)⟩)
  rw [e0, p1, p2, rpq_text n wx wy, rpq_text m wu wv] at H
  refine gok_of H hE ?_
  unfold gplong
  rw [p1, p2, rpq_text n wx wy, rpq_text m wu wv]
  rintro (h | h)
  · exact znotlong wx wy g1 h
  · exact znotlong wu wv g2 h
end Go.Proofs.YtakeolfaamnkkaaGreatDoor

/- What GaussKnown wants: texts that are refused, the quotient by nothing, the text of the example. -/
namespace Go.Proofs.YtakeolfaamnkkaaGreatDoor
open Go.RowKit
set_option linter.unusedVariables false
set_option linter.unusedSimpArgs false

/-- Nothing, and a code. -/
def GNo (w : World) (code : Int) (x : Ending) (w' : World) : Prop := ∃ a ca b cb c cc d cd, x = .returned (.tuple #[.agg #[.bool false, .slice a 0 ca, .slice b 0 cb, .bool false, .slice c 0 cc, .slice d 0 cd], .int .i64 code]) ∧ Hid (Sl w' (.slice a 0 ca) [] ∧ Sl w' (.slice b 0 cb) [] ∧ Sl w' (.slice c 0 cc) [] ∧ Sl w' (.slice d 0 cd) []) ∧ Hid (Below w.heap.size w w')
theorem gno {f : Nat} {args : Array Value} {w : World} {E : Int} {L : Prop} {q1 q2 : Rat} (H : Calls Tryz.prog f args w (GTold w E L q1 q2)) (hE : E ≠ 0) : Calls Tryz.prog f args w (GNo w E) := by
  refine Calls.mono H ?_
  rintro x w' ⟨n, a, ca, xs, b, cb, ys, m, c, cc, us, d, cd, vs, code, rfl, ⟨o1, o2, o3, o4⟩, tt, hb⟩
  obtain ⟨⟨rfl, rfl, rfl, rfl, rfl, rfl⟩, rfl⟩ := tt.bad hE
  exact ⟨a, ca, b, cb, c, cc, d, cd, rfl, ⟨Sl.own o1 Wd.nil, Sl.own o2 Wd.nil, Sl.own o3 Wd.nil, Sl.own o4 Wd.nil⟩, hb⟩
theorem grefused (t : ByteArray) (w : World) (hm : t.size ≤ 65536) (h : ¬ ggood t.data.toList) : Calls Tryz.prog 6 #[.string t] w (GNo w 140) := by
  have H := gParse_any t w (by omega)
  rw [gpE_bad hm h] at H
  exact gno (Calls.mono H fun _ _ h => h.told) (by decide)
theorem gz0 : ¬ ggood [54, 47, 49, 48, 32, 48] := fun h => absurd h.1.2.2.2.2 (by decide +kernel)
theorem gz1 : ¬ ggood [49] := fun h => by
  have e : gp2 [49] = [] := by decide +kernel
  have h1 := h.2
  rw [e] at h1
  exact rgood_nil h1
theorem gz2 : ¬ ggood [49, 32, 32, 50] := fun h => by
  have e : rup (gp2 [49, 32, 32, 50]) = [32, 50] := by decide +kernel
  have h1 := h.2.1.2.2
  rw [e] at h1
  exact absurd (h1 32 (by simp)) (by decide)
theorem gz3 : ¬ ggood [49, 32, 50, 32, 51] := fun h => by
  have e : rup (gp2 [49, 32, 50, 32, 51]) = [50, 32, 51] := by decide +kernel
  have h1 := h.2.1.2.2
  rw [e] at h1
  exact absurd (h1 32 (by simp)) (by decide)
theorem gz4 : ¬ ggood [49, 32, 50, 105] := fun h => by
  have e : rup (gp2 [49, 32, 50, 105]) = [50, 105] := by decide +kernel
  have h1 := h.2.1.2.2
  rw [e] at h1
  exact absurd (h1 105 (by simp)) (by decide)
theorem gz5 : ¬ ggood ([] : List UInt8) := fun h => by
  have e : gp1 ([] : List UInt8) = [] := by decide +kernel
  have h1 := h.1
  rw [e] at h1
  exact rgood_nil h1
theorem gz6 : ¬ ggood [32] := fun h => by
  have e : gp1 [32] = [] := by decide +kernel
  have h1 := h.1
  rw [e] at h1
  exact rgood_nil h1
theorem gz7 : ¬ ggood [49, 32] := fun h => by
  have e : gp2 [49, 32] = [] := by decide +kernel
  have h1 := h.2
  rw [e] at h1
  exact rgood_nil h1
theorem gz8 : ¬ ggood [32, 49] := fun h => by
  have e : gp1 [32, 49] = [] := by decide +kernel
  have h1 := h.1
  rw [e] at h1
  exact rgood_nil h1
theorem gz9 : ¬ ggood [45, 48, 32, 48] := fun h => absurd h.1.2.2.2.1 (by decide +kernel)
theorem gz10 : ¬ ggood [49, 47, 49, 32, 48] := fun h => by
  rcases h.1.2.1 with h1 | h1
  · exact absurd h1 (by decide +kernel)
  · exact absurd h1.2 (by decide +kernel)
theorem gk01 : rchk false [] [1] = 0 := rchk_good (by simp) (by simp) rfl rfl (by simp) (.inl rfl) (by decide)
def g10 : GL := ⟨false, [1], [1], false, [], [1]⟩
def g00 : GL := ⟨false, [], [1], false, [], [1]⟩
theorem is10 {q1 q2 : Rat} (e1 : rq false [1] [1] = q1) (e2 : rq false [] [1] = q2) : g10.Is q1 q2 := ⟨wd_of (by decide) (by decide), wd_of (by decide) (by decide), Wd.nil, wd_of (by decide) (by decide), rk11, gk01, e1, e2⟩
theorem is00 {q1 q2 : Rat} (e1 : rq false [] [1] = q1) (e2 : rq false [] [1] = q2) : g00.Is q1 q2 := ⟨Wd.nil, wd_of (by decide) (by decide), Wd.nil, wd_of (by decide) (by decide), gk01, gk01, e1, e2⟩
/-- One, or nothing, as Int tells it. -/
def GI1 (w : World) (X : Ending) (w' : World) : Prop := ∃ a ca b cb c cc d cd, X = .returned (.agg #[.bool false, .slice a 1 ca, .slice b 1 cb, .bool false, .slice c 0 cc, .slice d 1 cd]) ∧ Hid (Sl w' (.slice a 1 ca) [1] ∧ Sl w' (.slice b 1 cb) [1] ∧ Sl w' (.slice c 0 cc) [] ∧ Sl w' (.slice d 1 cd) [1]) ∧ Hid (Below w.heap.size w w')
def GI0 (w : World) (X : Ending) (w' : World) : Prop := ∃ a ca b cb c cc d cd, X = .returned (.agg #[.bool false, .slice a 0 ca, .slice b 1 cb, .bool false, .slice c 0 cc, .slice d 1 cd]) ∧ Hid (Sl w' (.slice a 0 ca) [] ∧ Sl w' (.slice b 1 cb) [1] ∧ Sl w' (.slice c 0 cc) [] ∧ Sl w' (.slice d 1 cd) [1]) ∧ Hid (Below w.heap.size w w')
theorem gint10 (V : World) : Calls Tryz.prog 5 #[.int .i64 1, .int .i64 0] V (GI1 V) := gInt_kn 1 0 V (by decide) (by decide) (by decide) (by decide) g10 (is10 (by decide +kernel) (by decide +kernel))
theorem gint00 (V : World) : Calls Tryz.prog 5 #[.int .i64 0, .int .i64 0] V (GI0 V) := gInt_kn 0 0 V (by decide) (by decide) (by decide) (by decide) g00 (is00 (by decide +kernel) (by decide +kernel))
theorem gchk10 : gchk false [1] [1] false [] [1] = 0 := by unfold gchk; rw [rk11, fstE_zero, gk01]
theorem gchk00 : gchk false [] [1] false [] [1] = 0 := by unfold gchk; rw [gk01, fstE_zero]
theorem gquo0 (a1 : Option Addr) (ca1 : Nat) (b1 : Option Addr) (cb1 : Nat) (c1 : Option Addr) (cc1 : Nat) (d1 : Option Addr) (cd1 : Nat) (a2 : Option Addr) (ca2 : Nat) (b2 : Option Addr) (cb2 : Nat) (c2 : Option Addr) (cc2 : Nat) (d2 : Option Addr) (cd2 : Nat) (w : World) (h : Sl w (.slice a1 1 ca1) [1] ∧ Sl w (.slice b1 1 cb1) [1] ∧ Sl w (.slice c1 0 cc1) [] ∧ Sl w (.slice d1 1 cd1) [1]) (g : Sl w (.slice a2 0 ca2) [] ∧ Sl w (.slice b2 1 cb2) [1] ∧ Sl w (.slice c2 0 cc2) [] ∧ Sl w (.slice d2 1 cd2) [1]) :
    Calls Tryz.prog 4 #[.agg #[.bool false, .slice a1 1 ca1, .slice b1 1 cb1, .bool false, .slice c1 0 cc1, .slice d1 1 cd1], .agg #[.bool false, .slice a2 0 ca2, .slice b2 1 cb2, .bool false, .slice c2 0 cc2, .slice d2 1 cd2]] w (GNo w 7) := by
  have H := gQuo_full false a1 ca1 [1] b1 cb1 [1] false c1 cc1 [] d1 cd1 [1] false a2 ca2 [] b2 cb2 [1] false c2 cc2 [] d2 cd2 [1] w h.1 h.2.1 h.2.2.1 h.2.2.2 g.1 g.2.1 g.2.2.1 g.2.2.2
  have e : fstE (fstE (gchk false [1] [1] false [] [1]) (gchk false [] [1] false [] [1])) (if ([] : List Int).length = 0 ∧ ([] : List Int).length = 0 then 7 else 0) = 7 := by rw [gchk10, gchk00]; decide
  rw [e] at H
  exact gno H (by decide)
theorem gparse35 (w : World) : Calls Tryz.prog 6 #[.string ⟨#[51, 47, 53, 32, 45, 52, 47, 53]⟩] w (G4t w false true 3 5 4 5) := by
  have hc : gchk false [3] [5] true [4] [5] = 0 := by unfold gchk; rw [rk35, fstE_zero, rkm45]
  have ht : gtext false [3] [5] true [4] [5] = [51, 47, 53, 32, 45, 52, 47, 53] := by decide +kernel
  have w3 := wd_of (x := 3) (by decide) (by decide)
  have w4 := wd_of (x := 4) (by decide) (by decide)
  have w5 := wd_of (x := 5) (by decide) (by decide)
  have H := gparse_text (n := false) (m := true) w3 w5 w4 w5 hc (by rw [ht]; decide) w
  rw [ht] at H
  refine Calls.mono H ?_
  rintro x w' ⟨n, a, ca, xs, b, cb, ys, m, c, cc, us, d, cd, vs, rfl, hs, hq, hb⟩
  have HG : GQ false [3] [5] true [4] [5] (rq false [3] [5]) (rq true [4] [5]) := ⟨⟨rk35, rfl⟩, rkm45, rfl⟩
  obtain ⟨⟨rfl, rfl, rfl⟩, rfl, rfl, rfl⟩ := GQ.same HG hq.out w3 w5 w4 w5 hs.out.1.wd hs.out.2.1.wd hs.out.2.2.1.wd hs.out.2.2.2.wd
  exact ⟨a, ca, b, cb, c, cc, d, cd, rfl, hs, hb⟩
theorem gk_rough {n : Bool} {xs ys : List Int} (l1 : xs.length ≤ 2048) (l2 : ys.length ≤ 2048) (h : ¬ rform n xs ys) : rchk n xs ys = 11 := by unfold rchk; rw [if_neg (by omega), if_neg h]
theorem gk_long {n : Bool} {xs ys : List Int} (h : 2048 < xs.length) : rchk n xs ys = 3 := by unfold rchk; rw [if_pos (by omega)]
theorem gchk24 : gchk false [2] [4] false [] [1] = 11 := by
  unfold gchk
  rw [gk_rough (by simp) (by simp) (fun h => absurd h.2.2.2 (by decide +kernel)), fstE_err _ (by decide)]
theorem gchkno : gchk false [] [] false [] [] = 11 := by
  unfold gchk
  rw [gk_rough (by simp) (by simp) (fun h => absurd h.2.1 (by decide)), fstE_err _ (by decide)]
theorem gchklong {us : List Int} (h : us.length = 2049) : gchk false [1] [1] false us [1] = 3 := by
  unfold gchk
  rw [rk11, fstE_zero, gk_long (by omega)]
theorem gfrac01 (V : World) : Calls Tryz.prog 9 #[.int .i64 0, .int .i64 1] V fun X w' => ∃ a ca b cb, X = .returned (.agg #[.bool false, .slice a 0 ca, .slice b 1 cb]) ∧ Hid (Sl w' (.slice a 0 ca) [] ∧ Sl w' (.slice b 1 cb) [1]) ∧ Hid (Below V.heap.size V w') := gfrac_kn 0 1 V (by decide) (by decide) (by decide) (by decide) (by decide) false [] [1] Wd.nil (wd_of (by decide) (by decide)) gk01 (by decide +kernel)
end Go.Proofs.YtakeolfaamnkkaaGreatDoor

/- Rows and a box that one statement makes in any order (GaussKnown's long one). -/
namespace Go.Proofs.YtakeolfaamnkkaaGreatDoor
open Go.RowKit
set_option linter.unusedVariables false

theorem box_bt {V W : World} {b t : Nat} {vs : Array Value} (h : Box V b t vs) (hb : Below V.heap.size V W) : Box W b t vs := h.later hb h.lt
/-- The words of 2049 nothings. -/
def zs2049 : List Int := List.replicate 2049 0
theorem zs2049_len : zs2049.length = 2049 := List.length_replicate
theorem zs2049_wd : Wd zs2049 := Wd.replicate 2049
theorem made2049 (V : World) (M : Array Value) (hM : M.toList = zs2049.map (Value.int .u32)) : (V.alloc (.cells M 35)).ownsRow V.heap.size 35 1 (.slice (some ⟨V.heap.size, 0, none⟩) 2049 2049) 2049 (zs2049.map (Value.int .u32)) := by
  have h := Box.made V 35 M
  have e : M = (zs2049.map (Value.int .u32)).toArray := by rw [← hM]
  rw [e] at h ⊢
  exact whole_row h (by rw [List.length_map, zs2049_len]) (Nat.le_refl _) (by unfold maxLen; omega)
theorem made1 (V : World) (x : Int) : (V.alloc (.cells #[.int .u32 x] 35)).ownsRow V.heap.size 35 1 (.slice (some ⟨V.heap.size, 0, none⟩) 1 1) 1 [.int .u32 x] := whole_row (xs := [.int .u32 x]) (Box.made V 35 #[.int .u32 x]) rfl (Nat.le_refl _) (by unfold maxLen; omega)
theorem sl_one {V : World} {B : Nat} {a : Option Addr} {c : Nat} {x : Int} (h : V.ownsRow B 35 1 (.slice a 1 c) 1 [.int .u32 x]) (h0 : 0 ≤ x) (h1 : x ≤ 4294967295) : Sl V (.slice a 1 c) [x] := Sl.own (xs := [x]) h (Wd.one ⟨h0, h1⟩)
theorem sl_lng {V : World} {B : Nat} {g : Nat} (h : V.ownsRow B 35 1 (.slice (some ⟨g, 0, none⟩) 2049 2049) 2049 (zs2049.map (Value.int .u32))) : Sl V (.slice (some ⟨g, 0, none⟩) 2049 2049) zs2049 := by
  have e := zs2049_len
  have h2 : V.ownsRow B 35 1 (.slice (some ⟨g, 0, none⟩) zs2049.length 2049) zs2049.length (zs2049.map (Value.int .u32)) := by rw [e]; exact h
  have h3 := Sl.own h2 zs2049_wd
  rw [e] at h3
  exact h3
/-- The long one, in its box. -/
def KL (W0 : World) (s : Value) (W : World) : Prop := ∃ b a1 k1 b1 l1 g h, s = .pointer (some ⟨b, 0, none⟩) ∧ Hid (Box W b 26 #[.bool false, .slice a1 1 k1, .slice b1 1 l1, .bool false, .slice (some ⟨g, 0, none⟩) 2049 2049, .slice (some ⟨h, 0, none⟩) 1 1]) ∧ Hid (Sl W (.slice a1 1 k1) [1] ∧ Sl W (.slice b1 1 l1) [1] ∧ Sl W (.slice (some ⟨g, 0, none⟩) 2049 2049) zs2049 ∧ Sl W (.slice (some ⟨h, 0, none⟩) 1 1) [1]) ∧ Hid (Below W0.heap.size W0 W)
theorem row_box {W : World} {B n b t : Nat} {v : Value} {xs : List Value} {vs : Array Value} (h : W.ownsRow B 35 1 v n xs) (hb : Box W b t vs) (hne : 35 ≠ t) : ∀ g, v.ownBlock = some g → g ≠ b := by
  rintro g hg rfl
  rcases h.2 with ⟨rfl, _⟩ | ⟨g', cap, cur, rfl, _, hh, _⟩
  · cases hg
  · cases hg
    have e := hh.symm.trans hb
    injection e with e
    injection e with _ e
    exact hne e
theorem klput {W0 P : World} {b : Nat} {a1 : Option Addr} {k1 : Nat} {b1 : Option Addr} {l1 g h : Nat} (hb : Box P b 26 #[.bool false, .slice none 0 0, .slice none 0 0, .bool false, .slice none 0 0, .slice none 0 0]) (o1 : P.ownsRow W0.heap.size 35 1 (.slice a1 1 k1) 1 ([.int .u32 1])) (o2 : P.ownsRow W0.heap.size 35 1 (.slice b1 1 l1) 1 ([.int .u32 1])) (o3 : P.ownsRow W0.heap.size 35 1 (.slice (some ⟨g, 0, none⟩) 2049 2049) 2049 (zs2049.map (Value.int .u32))) (o4 : P.ownsRow W0.heap.size 35 1 (.slice (some ⟨h, 0, none⟩) 1 1) 1 ([.int .u32 1])) (hw : Below W0.heap.size W0 P) (hle : W0.heap.size ≤ b) :
    KL W0 (.pointer (some ⟨b, 0, none⟩)) ((((((P.setCell ⟨b, 0, none⟩ (.bool false)).setCell ⟨b, 1, none⟩ (.slice a1 1 k1)).setCell ⟨b, 2, none⟩ (.slice b1 1 l1)).setCell ⟨b, 3, none⟩ (.bool false)).setCell ⟨b, 4, none⟩ (.slice (some ⟨g, 0, none⟩) 2049 2049)).setCell ⟨b, 5, none⟩ (.slice (some ⟨h, 0, none⟩) 1 1)) := by
  have n1 := row_box o1 hb (by decide)
  have n2 := row_box o2 hb (by decide)
  have n3 := row_box o3 hb (by decide)
  have n4 := row_box o4 hb (by decide)
  exact ⟨b, a1, k1, b1, l1, g, h, rfl, box_put6 hb _ _ _ _ _ _, ⟨sl_one (own_put6 o1 b n1 _ _ _ _ _ _) (by decide) (by decide), sl_one (own_put6 o2 b n2 _ _ _ _ _ _) (by decide) (by decide), sl_lng (own_put6 o3 b n3 _ _ _ _ _ _), sl_one (own_put6 o4 b n4 _ _ _ _ _ _) (by decide) (by decide)⟩, below_put6 hw b hle _ _ _ _ _ _⟩
theorem gfrac11r (V : World) : Calls Tryz.prog 9 #[.int .i64 1, .int .i64 1] V fun e w' => ∃ a1 k1 b1 l1, e = .returned (.agg #[.bool false, .slice a1 1 k1, .slice b1 1 l1]) ∧ Hid (w'.ownsRow V.heap.size 35 1 (.slice a1 1 k1) 1 [.int .u32 1]) ∧ Hid (w'.ownsRow V.heap.size 35 1 (.slice b1 1 l1) 1 [.int .u32 1]) ∧ Hid (Below V.heap.size V w') ∧ V.heap.size < w'.heap.size ∧ (∀ b j, b < V.heap.size → w'.cell? ⟨b, j, none⟩ = V.cell? ⟨b, j, none⟩) ∧ (∀ b j, b < V.heap.size → w'.frozen? ⟨b, j, none⟩ = V.frozen? ⟨b, j, none⟩) ∧ (∀ b, b < V.heap.size → b ≠ w'.heap.size ∧ b ≠ w'.heap.size + 1 ∧ b ≠ w'.heap.size + 1 + 1) := by
  refine Calls.mono (gfrac_any 1 1 V (by decide) (by decide) (by decide) (by decide) (by decide)) ?_
  have w1 := wd_of (x := 1) (by decide) (by decide)
  rintro e w' ⟨n', v, xs', u, ys', c1, rfl, o1, o2, t1, hb, _⟩
  obtain ⟨rfl, rfl, rfl, _⟩ := t1.lit rfl w1 w1 rk11 (by decide +kernel)
  obtain ⟨a, ca, rfl⟩ := own_slice' o1
  obtain ⟨b, cb, rfl⟩ := own_slice' o2
  have hlt : V.heap.size < w'.heap.size := by
    rcases o1.2 with ⟨_, h0⟩ | ⟨g, cap, cur, _, hg, hh, _⟩
    · cases h0
    · have h1 : g < w'.heap.size := Classical.byContradiction fun hn => by
        rw [Array.getElem?_eq_none (by omega)] at hh
        cases hh
      omega
  have hs := hb.size
  exact ⟨a, ca, b, cb, rfl, o1, o2, hb, hlt, fun b j hj => by unfold World.cell?; rw [hb.block b hj], fun b j hj => by unfold World.frozen?; rw [hb.block b hj], fun b hj => by omega⟩
theorem made2049' {V W0 : World} {g : Nat} {M : Array Value} (hM : M.toList = zs2049.map (Value.int .u32)) (h : g = V.heap.size) (hb : Below W0.heap.size W0 V) : (V.alloc (.cells M 35)).ownsRow W0.heap.size 35 1 (.slice (some ⟨g, 0, none⟩) 2049 2049) 2049 (zs2049.map (Value.int .u32)) := by subst h; exact owns_base (made2049 V M hM) hb.size
theorem made1' {V W0 : World} {g : Nat} {x : Int} (h : g = V.heap.size) (hb : Below W0.heap.size W0 V) : (V.alloc (.cells #[.int .u32 x] 35)).ownsRow W0.heap.size 35 1 (.slice (some ⟨g, 0, none⟩) 1 1) 1 [.int .u32 x] := by subst h; exact owns_base (made1 V x) hb.size
theorem row_bt {V W W0 : World} {v : Value} {n : Nat} {xs : List Value} (h : W.ownsRow V.heap.size 35 1 v n xs) (hb : Below W0.heap.size W0 V) : W.ownsRow W0.heap.size 35 1 v n xs := owns_base h hb.size
theorem gmake2049 : ∃ M : Array Value, (∀ ww, (Instr.makeSlice 22 (.int .i64 2049) (.int .i64 2049)).run Tryz.prog ww = .ok (.slice (some ⟨ww.heap.size, 0, none⟩) 2049 2049) (ww.alloc (.cells M 35))) ∧ M.toList = zs2049.map (Value.int .u32) := by
  obtain ⟨i0, hi, hz0, hz1, hz2⟩ := info_parts Tryz.infoW
  refine ⟨madeCells #[Value.int .u32 0] 2049, fun ww => ?_, made_words 2049⟩
  have := run_make (P := Tryz.prog) ww 22 35 i0 (.int .u32 0) Tryz.underlying22 hi hz0 .i64 .i64 (2049 : Int) (2049 : Int) (by omega) (by omega) (by rw [hz2]; omega) (by omega)
  rw [hz1, show (Value.int .u32 0).cells = #[Value.int .u32 0] from rfl] at this
  exact this
end Go.Proofs.YtakeolfaamnkkaaGreatDoor

/- The long number of GaussKnown: a call, a make, a list and a box in whatever order, for whatever follows. -/
namespace Go.Proofs.YtakeolfaamnkkaaGreatDoor
open Go.RowKit
set_option linter.unusedVariables false
set_option linter.unusedSimpArgs false

theorem kz_nil (w : World) : Sl w (.slice none 0 0) [] := ⟨none, 0, rfl, rfl, Wd.nil, .inl rfl, Nat.le_refl _, Nat.zero_le _, fun _ => rfl⟩
/-- The operations of the statement. -/
def gknown_region_ops : Array Oper := #[{ dst := some 56, op := Op.call { callee := Callee.value (Operand.func 9), args := #[Operand.const (Value.int IntKind.i64 1), Operand.const (Value.int IntKind.i64 1)], argTypes := #[2, 2] }, type := 24, pos := "outright.go:121", after := #[], guard := none }, { dst := some 57, op := Op.makeSlice 22 (Operand.const (Value.int IntKind.i64 2049)) (Operand.const (Value.int IntKind.i64 2049)), type := 22, pos := "outright.go:121", after := #[], guard := none }, { dst := some 58, op := Op.buildSlice 22 1 #[(0, Operand.const (Value.int IntKind.u32 1))], type := 22, pos := "outright.go:121", after := #[], guard := none }, { dst := some 59, op := Op.build 24 #[(1, Operand.tmp 57), (2, Operand.tmp 58)], type := 24, pos := "outright.go:121", after := #[{ on := 1, ground := Ground.data }, { on := 2, ground := Ground.data }], guard := none }, { dst := some 60, op := Op.build 26 #[(0, Operand.tmp 56), (1, Operand.tmp 59)], type := 26, pos := "outright.go:121", after := #[{ on := 0, ground := Ground.data }, { on := 3, ground := Ground.data }], guard := none }, { dst := some 10, op := Op.alloc 26, type := 0, pos := "outright.go:121", after := #[], guard := none }, { dst := none, op := Op.store 26 (Operand.tmp 10) (Operand.tmp 60), type := 0, pos := "outright.go:121", after := #[{ on := 5, ground := Ground.data }, { on := 4, ground := Ground.data }, { on := 0, ground := Ground.chain }, { on := 0, ground := Ground.phase }, { on := 1, ground := Ground.phase }, { on := 2, ground := Ground.phase }, { on := 3, ground := Ground.phase }, { on := 4, ground := Ground.phase }, { on := 5, ground := Ground.phase }], guard := none }]
set_option maxHeartbeats 6400000 in
set_option maxRecDepth 100000 in
theorem gknown_region (X : World) (t0 t1 t2 t3 t4 t5 t6 t7 t8 t9 t10 t11 t12 t13 t14 t15 t16 t17 t18 t19 t20 t21 t22 t23 t24 t25 t26 t27 t28 t29 t30 t31 t32 t33 t34 t35 t36 t37 t38 t39 t40 t41 t42 t43 t44 t45 t46 t47 t48 t49 t50 t51 t52 t53 t54 t55 t56 t57 t58 t59 t60 : Value) (rest : List Value) (Q : Exit → Act → World → Prop)
    (hQ : ∀ (a1 : Option Addr) (k1 : Nat) (b1 : Option Addr) (l1 : Nat) (g : Nat) (h : Nat) (b : Nat) (F : World), Hid (KL X (.pointer (some ⟨b, 0, none⟩)) F) → Q .normal { tmps := (List.toArray (t0 :: t1 :: t2 :: t3 :: t4 :: t5 :: t6 :: t7 :: t8 :: t9 :: (.pointer (some ⟨b, 0, none⟩)) :: t11 :: t12 :: t13 :: t14 :: t15 :: t16 :: t17 :: t18 :: t19 :: t20 :: t21 :: t22 :: t23 :: t24 :: t25 :: t26 :: t27 :: t28 :: t29 :: t30 :: t31 :: t32 :: t33 :: t34 :: t35 :: t36 :: t37 :: t38 :: t39 :: t40 :: t41 :: t42 :: t43 :: t44 :: t45 :: t46 :: t47 :: t48 :: t49 :: t50 :: t51 :: t52 :: t53 :: t54 :: t55 :: (.agg #[.bool false, .slice a1 1 k1, .slice b1 1 l1]) :: (.slice (some ⟨g, 0, none⟩) 2049 2049) :: (.slice (some ⟨h, 0, none⟩) 1 1) :: (.agg #[.bool false, .slice (some ⟨g, 0, none⟩) 2049 2049, .slice (some ⟨h, 0, none⟩) 1 1]) :: (.agg #[.bool false, .slice a1 1 k1, .slice b1 1 l1, .bool false, .slice (some ⟨g, 0, none⟩) 2049 2049, .slice (some ⟨h, 0, none⟩) 1 1]) :: rest)), defers := [] } F) :
    Code.wp Tryz.prog (Code.region 11 gknown_region_ops true) Q { tmps := (List.toArray (t0 :: t1 :: t2 :: t3 :: t4 :: t5 :: t6 :: t7 :: t8 :: t9 :: t10 :: t11 :: t12 :: t13 :: t14 :: t15 :: t16 :: t17 :: t18 :: t19 :: t20 :: t21 :: t22 :: t23 :: t24 :: t25 :: t26 :: t27 :: t28 :: t29 :: t30 :: t31 :: t32 :: t33 :: t34 :: t35 :: t36 :: t37 :: t38 :: t39 :: t40 :: t41 :: t42 :: t43 :: t44 :: t45 :: t46 :: t47 :: t48 :: t49 :: t50 :: t51 :: t52 :: t53 :: t54 :: t55 :: t56 :: t57 :: t58 :: t59 :: t60 :: rest)), defers := [] } X := by
  have HQ := hid hQ
  clear hQ
  obtain ⟨M, hmk, hM⟩ := gmake2049
  have HM := hid hM
  clear hM
  have F_0_1_2_5 : Hid (∀ listed, listed = #[true, true, true, true, true, true, false] → ∀ (V : World) (a1 : Option Addr) (k1 : Nat) (b1 : Option Addr) (l1 : Nat) (g : Nat) (h : Nat) (b : Nat), Hid ((Below X.heap.size X V) ∧ ((V.ownsRow X.heap.size 35 1 (.slice a1 1 k1) 1 ([.int .u32 1])) ∧ (V.ownsRow X.heap.size 35 1 (.slice b1 1 l1) 1 ([.int .u32 1]))) ∧ (V.ownsRow X.heap.size 35 1 (.slice (some ⟨g, 0, none⟩) 2049 2049) 2049 (zs2049.map (Value.int .u32))) ∧ (V.ownsRow X.heap.size 35 1 (.slice (some ⟨h, 0, none⟩) 1 1) 1 ([.int .u32 1])) ∧ (Box V b 26 #[.bool false, .slice none 0 0, .slice none 0 0, .bool false, .slice none 0 0, .slice none 0 0] ∧ X.heap.size ≤ b)) → wpAnyH Tryz.prog .any gknown_region_ops (NoPanic Q) (fun V : World => Below X.heap.size X V) 1 listed { tmps := (List.toArray (t0 :: t1 :: t2 :: t3 :: t4 :: t5 :: t6 :: t7 :: t8 :: t9 :: (.pointer (some ⟨b, 0, none⟩)) :: t11 :: t12 :: t13 :: t14 :: t15 :: t16 :: t17 :: t18 :: t19 :: t20 :: t21 :: t22 :: t23 :: t24 :: t25 :: t26 :: t27 :: t28 :: t29 :: t30 :: t31 :: t32 :: t33 :: t34 :: t35 :: t36 :: t37 :: t38 :: t39 :: t40 :: t41 :: t42 :: t43 :: t44 :: t45 :: t46 :: t47 :: t48 :: t49 :: t50 :: t51 :: t52 :: t53 :: t54 :: t55 :: (.agg #[.bool false, .slice a1 1 k1, .slice b1 1 l1]) :: (.slice (some ⟨g, 0, none⟩) 2049 2049) :: (.slice (some ⟨h, 0, none⟩) 1 1) :: (.agg #[.bool false, .slice (some ⟨g, 0, none⟩) 2049 2049, .slice (some ⟨h, 0, none⟩) 1 1]) :: (.agg #[.bool false, .slice a1 1 k1, .slice b1 1 l1, .bool false, .slice (some ⟨g, 0, none⟩) 2049 2049, .slice (some ⟨h, 0, none⟩) 1 1]) :: rest)), defers := [] } V) := by
    rintro _ rfl V a1 k1 b1 l1 g h b HR
    have HB := hid (HR.out.2.2.2.2).1
    have HL := hid (HR.out.2.2.2.2).2
    obtain ⟨A0, A1, A2, A3, A4, A5, q0, q1, q2, q3, q4, q5, ⟨y0, y1, y2, y3, y4, y5⟩, f0, f1, f2, f3, f4, f5⟩ := gchain6 HB.out (.bool false) (.slice a1 1 k1) (.slice b1 1 l1) (.bool false) (.slice (some ⟨g, 0, none⟩) 2049 2049) (.slice (some ⟨h, 0, none⟩) 1 1)
    have HU : Hid (KL X (.pointer (some ⟨b, 0, none⟩)) A5) := by
      rw [← q5, ← q4, ← q3, ← q2, ← q1, ← q0]
      exact klput HB.out (HR.out.2.1).1 (HR.out.2.1).2 HR.out.2.2.1 HR.out.2.2.2.1 HR.out.1 HL.out
    have HBE : Hid (Below X.heap.size X A5) := by
      rw [← q5, ← q4, ← q3, ← q2, ← q1, ← q0]
      exact below_put6 HR.out.1 b HL.out _ _ _ _ _ _
    clear HR
    refine wpAnyH_ready (rs := [6]) (by kernel_rfl) (by simp) ?_
    refine AllReadyH.cons (o := { dst := none, op := Op.store 26 (Operand.tmp 10) (Operand.tmp 60), type := 0, pos := "outright.go:121", after := #[{ on := 5, ground := Ground.data }, { on := 4, ground := Ground.data }, { on := 0, ground := Ground.chain }, { on := 0, ground := Ground.phase }, { on := 1, ground := Ground.phase }, { on := 2, ground := Ground.phase }, { on := 3, ground := Ground.phase }, { on := 4, ground := Ground.phase }, { on := 5, ground := Ground.phase }], guard := none }) rfl (fun K hK => ?_) AllReadyH.nil
    go_simp
    refine hK.out _ _ ?_ (fun hHeld => ?_)
    · exact HBE.out
    clear hK K
    try simp only [List.setIfInBounds_toArray, List.set_cons_zero, List.set_cons_succ]
    refine wpAnyH_done (by kernel_rfl) ?_ _
    refine NoPanic.normal ?_
    exact HQ.out a1 k1 b1 l1 g h b _ HU
  have F_0_1_2 : Hid (∀ listed, listed = #[true, true, true, true, true, false, false] → ∀ (V : World) (a1 : Option Addr) (k1 : Nat) (b1 : Option Addr) (l1 : Nat) (g : Nat) (h : Nat), Hid ((Below X.heap.size X V) ∧ ((V.ownsRow X.heap.size 35 1 (.slice a1 1 k1) 1 ([.int .u32 1])) ∧ (V.ownsRow X.heap.size 35 1 (.slice b1 1 l1) 1 ([.int .u32 1]))) ∧ (V.ownsRow X.heap.size 35 1 (.slice (some ⟨g, 0, none⟩) 2049 2049) 2049 (zs2049.map (Value.int .u32))) ∧ (V.ownsRow X.heap.size 35 1 (.slice (some ⟨h, 0, none⟩) 1 1) 1 ([.int .u32 1]))) → wpAnyH Tryz.prog .any gknown_region_ops (NoPanic Q) (fun V : World => Below X.heap.size X V) 2 listed { tmps := (List.toArray (t0 :: t1 :: t2 :: t3 :: t4 :: t5 :: t6 :: t7 :: t8 :: t9 :: t10 :: t11 :: t12 :: t13 :: t14 :: t15 :: t16 :: t17 :: t18 :: t19 :: t20 :: t21 :: t22 :: t23 :: t24 :: t25 :: t26 :: t27 :: t28 :: t29 :: t30 :: t31 :: t32 :: t33 :: t34 :: t35 :: t36 :: t37 :: t38 :: t39 :: t40 :: t41 :: t42 :: t43 :: t44 :: t45 :: t46 :: t47 :: t48 :: t49 :: t50 :: t51 :: t52 :: t53 :: t54 :: t55 :: (.agg #[.bool false, .slice a1 1 k1, .slice b1 1 l1]) :: (.slice (some ⟨g, 0, none⟩) 2049 2049) :: (.slice (some ⟨h, 0, none⟩) 1 1) :: (.agg #[.bool false, .slice (some ⟨g, 0, none⟩) 2049 2049, .slice (some ⟨h, 0, none⟩) 1 1]) :: (.agg #[.bool false, .slice a1 1 k1, .slice b1 1 l1, .bool false, .slice (some ⟨g, 0, none⟩) 2049 2049, .slice (some ⟨h, 0, none⟩) 1 1]) :: rest)), defers := [] } V) := by
    rintro _ rfl V a1 k1 b1 l1 g h HR
    refine wpAnyH_ready (rs := [5]) (by kernel_rfl) (by simp) ?_
    refine AllReadyH.cons (o := { dst := some 10, op := Op.alloc 26, type := 0, pos := "outright.go:121", after := #[], guard := none }) rfl (fun K hK => ?_) ?_
    · go_simp
      have hb := alloc_later V (.cells #[.bool false, .slice none 0 0, .slice none 0 0, .bool false, .slice none 0 0, .slice none 0 0] 26)
      have new := And.intro (Box.made V 26 #[.bool false, .slice none 0 0, .slice none 0 0, .bool false, .slice none 0 0, .slice none 0 0]) (HR.out.1).size
      have HB2 := hid (bt HR.out.1 hb)
      refine hK.out _ _ ?_ (fun hHeld => ?_)
      · exact HB2.out
      clear hK K
      try simp only [List.setIfInBounds_toArray, List.set_cons_zero, List.set_cons_succ]
      exact F_0_1_2_5.out _ (by kernel_rfl) _ a1 k1 b1 l1 g h V.heap.size (hid ⟨HB2.out, ⟨owns_later (HR.out.2.1).1 hb, owns_later (HR.out.2.1).2 hb⟩, owns_later HR.out.2.2.1 hb, owns_later HR.out.2.2.2 hb, new⟩)
    exact AllReadyH.nil
  have F_0_1_5 : Hid (∀ listed, listed = #[true, true, false, false, false, true, false] → ∀ (V : World) (a1 : Option Addr) (k1 : Nat) (b1 : Option Addr) (l1 : Nat) (g : Nat) (b : Nat), Hid ((Below X.heap.size X V) ∧ ((V.ownsRow X.heap.size 35 1 (.slice a1 1 k1) 1 ([.int .u32 1])) ∧ (V.ownsRow X.heap.size 35 1 (.slice b1 1 l1) 1 ([.int .u32 1]))) ∧ (V.ownsRow X.heap.size 35 1 (.slice (some ⟨g, 0, none⟩) 2049 2049) 2049 (zs2049.map (Value.int .u32))) ∧ (Box V b 26 #[.bool false, .slice none 0 0, .slice none 0 0, .bool false, .slice none 0 0, .slice none 0 0] ∧ X.heap.size ≤ b)) → wpAnyH Tryz.prog .any gknown_region_ops (NoPanic Q) (fun V : World => Below X.heap.size X V) 4 listed { tmps := (List.toArray (t0 :: t1 :: t2 :: t3 :: t4 :: t5 :: t6 :: t7 :: t8 :: t9 :: (.pointer (some ⟨b, 0, none⟩)) :: t11 :: t12 :: t13 :: t14 :: t15 :: t16 :: t17 :: t18 :: t19 :: t20 :: t21 :: t22 :: t23 :: t24 :: t25 :: t26 :: t27 :: t28 :: t29 :: t30 :: t31 :: t32 :: t33 :: t34 :: t35 :: t36 :: t37 :: t38 :: t39 :: t40 :: t41 :: t42 :: t43 :: t44 :: t45 :: t46 :: t47 :: t48 :: t49 :: t50 :: t51 :: t52 :: t53 :: t54 :: t55 :: (.agg #[.bool false, .slice a1 1 k1, .slice b1 1 l1]) :: (.slice (some ⟨g, 0, none⟩) 2049 2049) :: t58 :: t59 :: t60 :: rest)), defers := [] } V) := by
    rintro _ rfl V a1 k1 b1 l1 g b HR
    refine wpAnyH_ready (rs := [2]) (by kernel_rfl) (by simp) ?_
    refine AllReadyH.cons (o := { dst := some 58, op := Op.buildSlice 22 1 #[(0, Operand.const (Value.int IntKind.u32 1))], type := 22, pos := "outright.go:121", after := #[], guard := none }) rfl (fun K hK => ?_) ?_
    · go_simp
      have hb := alloc_later V (.cells #[.int .u32 1] 35)
      have new := made1' (W0 := X) (x := 1) rfl HR.out.1
      have HB2 := hid (bt HR.out.1 hb)
      refine hK.out _ _ ?_ (fun hHeld => ?_)
      · exact HB2.out
      clear hK K
      try simp only [List.setIfInBounds_toArray, List.set_cons_zero, List.set_cons_succ]
      refine wpAnyH_take (i := 3) (oi := { dst := some 59, op := Op.build 24 #[(1, Operand.tmp 57), (2, Operand.tmp 58)], type := 24, pos := "outright.go:121", after := #[{ on := 1, ground := Ground.data }, { on := 2, ground := Ground.data }], guard := none }) (v := ?_) rfl (by kernel_rfl) (by kernel_rfl) (by kernel_rfl) (fun _ _ _ h => h) (Or.inl ⟨by rfl, ?_⟩) (by assumption) ?_
      rotate_left 1
      · intro V hSw
        go_simp
        try with_reducible rfl
      try simp only [Act.put, List.setIfInBounds_toArray, List.set_cons_zero, List.set_cons_succ]
      refine wpAnyH_take (i := 4) (oi := { dst := some 60, op := Op.build 26 #[(0, Operand.tmp 56), (1, Operand.tmp 59)], type := 26, pos := "outright.go:121", after := #[{ on := 0, ground := Ground.data }, { on := 3, ground := Ground.data }], guard := none }) (v := ?_) rfl (by kernel_rfl) (by kernel_rfl) (by kernel_rfl) (fun _ _ _ h => h) (Or.inl ⟨by rfl, ?_⟩) (by assumption) ?_
      rotate_left 1
      · intro V hSw
        go_simp
        try with_reducible rfl
      try simp only [Act.put, List.setIfInBounds_toArray, List.set_cons_zero, List.set_cons_succ]
      exact F_0_1_2_5.out _ (by kernel_rfl) _ a1 k1 b1 l1 g V.heap.size b (hid ⟨HB2.out, ⟨owns_later (HR.out.2.1).1 hb, owns_later (HR.out.2.1).2 hb⟩, owns_later HR.out.2.2.1 hb, new, ⟨box_bt (HR.out.2.2.2).1 hb, (HR.out.2.2.2).2⟩⟩)
    exact AllReadyH.nil
  have F_0_2_5 : Hid (∀ listed, listed = #[true, false, true, false, false, true, false] → ∀ (V : World) (a1 : Option Addr) (k1 : Nat) (b1 : Option Addr) (l1 : Nat) (h : Nat) (b : Nat), Hid ((Below X.heap.size X V) ∧ ((V.ownsRow X.heap.size 35 1 (.slice a1 1 k1) 1 ([.int .u32 1])) ∧ (V.ownsRow X.heap.size 35 1 (.slice b1 1 l1) 1 ([.int .u32 1]))) ∧ (V.ownsRow X.heap.size 35 1 (.slice (some ⟨h, 0, none⟩) 1 1) 1 ([.int .u32 1])) ∧ (Box V b 26 #[.bool false, .slice none 0 0, .slice none 0 0, .bool false, .slice none 0 0, .slice none 0 0] ∧ X.heap.size ≤ b)) → wpAnyH Tryz.prog .any gknown_region_ops (NoPanic Q) (fun V : World => Below X.heap.size X V) 4 listed { tmps := (List.toArray (t0 :: t1 :: t2 :: t3 :: t4 :: t5 :: t6 :: t7 :: t8 :: t9 :: (.pointer (some ⟨b, 0, none⟩)) :: t11 :: t12 :: t13 :: t14 :: t15 :: t16 :: t17 :: t18 :: t19 :: t20 :: t21 :: t22 :: t23 :: t24 :: t25 :: t26 :: t27 :: t28 :: t29 :: t30 :: t31 :: t32 :: t33 :: t34 :: t35 :: t36 :: t37 :: t38 :: t39 :: t40 :: t41 :: t42 :: t43 :: t44 :: t45 :: t46 :: t47 :: t48 :: t49 :: t50 :: t51 :: t52 :: t53 :: t54 :: t55 :: (.agg #[.bool false, .slice a1 1 k1, .slice b1 1 l1]) :: t57 :: (.slice (some ⟨h, 0, none⟩) 1 1) :: t59 :: t60 :: rest)), defers := [] } V) := by
    rintro _ rfl V a1 k1 b1 l1 h b HR
    refine wpAnyH_ready (rs := [1]) (by kernel_rfl) (by simp) ?_
    refine AllReadyH.cons (o := { dst := some 57, op := Op.makeSlice 22 (Operand.const (Value.int IntKind.i64 2049)) (Operand.const (Value.int IntKind.i64 2049)), type := 22, pos := "outright.go:121", after := #[], guard := none }) rfl (fun K hK => ?_) ?_
    · go_simp
      try rw [hmk]
      try dsimp only
      have hb := alloc_later V (.cells M 35)
      have new := made2049' (W0 := X) HM.out rfl HR.out.1
      have HB2 := hid (bt HR.out.1 hb)
      refine hK.out _ _ ?_ (fun hHeld => ?_)
      · exact HB2.out
      clear hK K
      try simp only [List.setIfInBounds_toArray, List.set_cons_zero, List.set_cons_succ]
      refine wpAnyH_take (i := 3) (oi := { dst := some 59, op := Op.build 24 #[(1, Operand.tmp 57), (2, Operand.tmp 58)], type := 24, pos := "outright.go:121", after := #[{ on := 1, ground := Ground.data }, { on := 2, ground := Ground.data }], guard := none }) (v := ?_) rfl (by kernel_rfl) (by kernel_rfl) (by kernel_rfl) (fun _ _ _ h => h) (Or.inl ⟨by rfl, ?_⟩) (by assumption) ?_
      rotate_left 1
      · intro V hSw
        go_simp
        try with_reducible rfl
      try simp only [Act.put, List.setIfInBounds_toArray, List.set_cons_zero, List.set_cons_succ]
      refine wpAnyH_take (i := 4) (oi := { dst := some 60, op := Op.build 26 #[(0, Operand.tmp 56), (1, Operand.tmp 59)], type := 26, pos := "outright.go:121", after := #[{ on := 0, ground := Ground.data }, { on := 3, ground := Ground.data }], guard := none }) (v := ?_) rfl (by kernel_rfl) (by kernel_rfl) (by kernel_rfl) (fun _ _ _ h => h) (Or.inl ⟨by rfl, ?_⟩) (by assumption) ?_
      rotate_left 1
      · intro V hSw
        go_simp
        try with_reducible rfl
      try simp only [Act.put, List.setIfInBounds_toArray, List.set_cons_zero, List.set_cons_succ]
      exact F_0_1_2_5.out _ (by kernel_rfl) _ a1 k1 b1 l1 V.heap.size h b (hid ⟨HB2.out, ⟨owns_later (HR.out.2.1).1 hb, owns_later (HR.out.2.1).2 hb⟩, new, owns_later HR.out.2.2.1 hb, ⟨box_bt (HR.out.2.2.2).1 hb, (HR.out.2.2.2).2⟩⟩)
    exact AllReadyH.nil
  have F_1_2_5 : Hid (∀ listed, listed = #[false, true, true, true, false, true, false] → ∀ (V : World) (g : Nat) (h : Nat) (b : Nat), Hid ((Below X.heap.size X V) ∧ (V.ownsRow X.heap.size 35 1 (.slice (some ⟨g, 0, none⟩) 2049 2049) 2049 (zs2049.map (Value.int .u32))) ∧ (V.ownsRow X.heap.size 35 1 (.slice (some ⟨h, 0, none⟩) 1 1) 1 ([.int .u32 1])) ∧ (Box V b 26 #[.bool false, .slice none 0 0, .slice none 0 0, .bool false, .slice none 0 0, .slice none 0 0] ∧ X.heap.size ≤ b)) → wpAnyH Tryz.prog .any gknown_region_ops (NoPanic Q) (fun V : World => Below X.heap.size X V) 3 listed { tmps := (List.toArray (t0 :: t1 :: t2 :: t3 :: t4 :: t5 :: t6 :: t7 :: t8 :: t9 :: (.pointer (some ⟨b, 0, none⟩)) :: t11 :: t12 :: t13 :: t14 :: t15 :: t16 :: t17 :: t18 :: t19 :: t20 :: t21 :: t22 :: t23 :: t24 :: t25 :: t26 :: t27 :: t28 :: t29 :: t30 :: t31 :: t32 :: t33 :: t34 :: t35 :: t36 :: t37 :: t38 :: t39 :: t40 :: t41 :: t42 :: t43 :: t44 :: t45 :: t46 :: t47 :: t48 :: t49 :: t50 :: t51 :: t52 :: t53 :: t54 :: t55 :: t56 :: (.slice (some ⟨g, 0, none⟩) 2049 2049) :: (.slice (some ⟨h, 0, none⟩) 1 1) :: (.agg #[.bool false, .slice (some ⟨g, 0, none⟩) 2049 2049, .slice (some ⟨h, 0, none⟩) 1 1]) :: t60 :: rest)), defers := [] } V) := by
    rintro _ rfl V g h b HR
    refine wpAnyH_ready (rs := [0]) (by kernel_rfl) (by simp) ?_
    refine AllReadyH.cons (o := { dst := some 56, op := Op.call { callee := Callee.value (Operand.func 9), args := #[Operand.const (Value.int IntKind.i64 1), Operand.const (Value.int IntKind.i64 1)], argTypes := #[2, 2] }, type := 24, pos := "outright.go:121", after := #[], guard := none }) rfl (fun K hK => ?_) ?_
    · go_simp
      refine Calls.mono (gfrac11r V) ?_
      rintro e V' ⟨a1, k1, b1, l1, rfl, o1, o2, hb6, _⟩
      dsimp only
      have hb := hb6.out
      have new := And.intro (row_bt o1.out HR.out.1) (row_bt o2.out HR.out.1)
      have HB2 := hid (bt HR.out.1 hb)
      refine hK.out _ _ ?_ (fun hHeld => ?_)
      · exact HB2.out
      clear hK K
      try simp only [List.setIfInBounds_toArray, List.set_cons_zero, List.set_cons_succ]
      refine wpAnyH_take (i := 4) (oi := { dst := some 60, op := Op.build 26 #[(0, Operand.tmp 56), (1, Operand.tmp 59)], type := 26, pos := "outright.go:121", after := #[{ on := 0, ground := Ground.data }, { on := 3, ground := Ground.data }], guard := none }) (v := ?_) rfl (by kernel_rfl) (by kernel_rfl) (by kernel_rfl) (fun _ _ _ h => h) (Or.inl ⟨by rfl, ?_⟩) (by assumption) ?_
      rotate_left 1
      · intro V hSw
        go_simp
        try with_reducible rfl
      try simp only [Act.put, List.setIfInBounds_toArray, List.set_cons_zero, List.set_cons_succ]
      exact F_0_1_2_5.out _ (by kernel_rfl) _ a1 k1 b1 l1 g h b (hid ⟨HB2.out, new, owns_later HR.out.2.1 hb, owns_later HR.out.2.2.1 hb, ⟨box_bt (HR.out.2.2.2).1 hb, (HR.out.2.2.2).2⟩⟩)
    exact AllReadyH.nil
  have F_0_1 : Hid (∀ listed, listed = #[true, true, false, false, false, false, false] → ∀ (V : World) (a1 : Option Addr) (k1 : Nat) (b1 : Option Addr) (l1 : Nat) (g : Nat), Hid ((Below X.heap.size X V) ∧ ((V.ownsRow X.heap.size 35 1 (.slice a1 1 k1) 1 ([.int .u32 1])) ∧ (V.ownsRow X.heap.size 35 1 (.slice b1 1 l1) 1 ([.int .u32 1]))) ∧ (V.ownsRow X.heap.size 35 1 (.slice (some ⟨g, 0, none⟩) 2049 2049) 2049 (zs2049.map (Value.int .u32)))) → wpAnyH Tryz.prog .any gknown_region_ops (NoPanic Q) (fun V : World => Below X.heap.size X V) 5 listed { tmps := (List.toArray (t0 :: t1 :: t2 :: t3 :: t4 :: t5 :: t6 :: t7 :: t8 :: t9 :: t10 :: t11 :: t12 :: t13 :: t14 :: t15 :: t16 :: t17 :: t18 :: t19 :: t20 :: t21 :: t22 :: t23 :: t24 :: t25 :: t26 :: t27 :: t28 :: t29 :: t30 :: t31 :: t32 :: t33 :: t34 :: t35 :: t36 :: t37 :: t38 :: t39 :: t40 :: t41 :: t42 :: t43 :: t44 :: t45 :: t46 :: t47 :: t48 :: t49 :: t50 :: t51 :: t52 :: t53 :: t54 :: t55 :: (.agg #[.bool false, .slice a1 1 k1, .slice b1 1 l1]) :: (.slice (some ⟨g, 0, none⟩) 2049 2049) :: t58 :: t59 :: t60 :: rest)), defers := [] } V) := by
    rintro _ rfl V a1 k1 b1 l1 g HR
    refine wpAnyH_ready (rs := [2, 5]) (by kernel_rfl) (by simp) ?_
    refine AllReadyH.cons (o := { dst := some 58, op := Op.buildSlice 22 1 #[(0, Operand.const (Value.int IntKind.u32 1))], type := 22, pos := "outright.go:121", after := #[], guard := none }) rfl (fun K hK => ?_) ?_
    · go_simp
      have hb := alloc_later V (.cells #[.int .u32 1] 35)
      have new := made1' (W0 := X) (x := 1) rfl HR.out.1
      have HB2 := hid (bt HR.out.1 hb)
      refine hK.out _ _ ?_ (fun hHeld => ?_)
      · exact HB2.out
      clear hK K
      try simp only [List.setIfInBounds_toArray, List.set_cons_zero, List.set_cons_succ]
      refine wpAnyH_take (i := 3) (oi := { dst := some 59, op := Op.build 24 #[(1, Operand.tmp 57), (2, Operand.tmp 58)], type := 24, pos := "outright.go:121", after := #[{ on := 1, ground := Ground.data }, { on := 2, ground := Ground.data }], guard := none }) (v := ?_) rfl (by kernel_rfl) (by kernel_rfl) (by kernel_rfl) (fun _ _ _ h => h) (Or.inl ⟨by rfl, ?_⟩) (by assumption) ?_
      rotate_left 1
      · intro V hSw
        go_simp
        try with_reducible rfl
      try simp only [Act.put, List.setIfInBounds_toArray, List.set_cons_zero, List.set_cons_succ]
      refine wpAnyH_take (i := 4) (oi := { dst := some 60, op := Op.build 26 #[(0, Operand.tmp 56), (1, Operand.tmp 59)], type := 26, pos := "outright.go:121", after := #[{ on := 0, ground := Ground.data }, { on := 3, ground := Ground.data }], guard := none }) (v := ?_) rfl (by kernel_rfl) (by kernel_rfl) (by kernel_rfl) (fun _ _ _ h => h) (Or.inl ⟨by rfl, ?_⟩) (by assumption) ?_
      rotate_left 1
      · intro V hSw
        go_simp
        try with_reducible rfl
      try simp only [Act.put, List.setIfInBounds_toArray, List.set_cons_zero, List.set_cons_succ]
      exact F_0_1_2.out _ (by kernel_rfl) _ a1 k1 b1 l1 g V.heap.size (hid ⟨HB2.out, ⟨owns_later (HR.out.2.1).1 hb, owns_later (HR.out.2.1).2 hb⟩, owns_later HR.out.2.2 hb, new⟩)
    refine AllReadyH.cons (o := { dst := some 10, op := Op.alloc 26, type := 0, pos := "outright.go:121", after := #[], guard := none }) rfl (fun K hK => ?_) ?_
    · go_simp
      have hb := alloc_later V (.cells #[.bool false, .slice none 0 0, .slice none 0 0, .bool false, .slice none 0 0, .slice none 0 0] 26)
      have new := And.intro (Box.made V 26 #[.bool false, .slice none 0 0, .slice none 0 0, .bool false, .slice none 0 0, .slice none 0 0]) (HR.out.1).size
      have HB2 := hid (bt HR.out.1 hb)
      refine hK.out _ _ ?_ (fun hHeld => ?_)
      · exact HB2.out
      clear hK K
      try simp only [List.setIfInBounds_toArray, List.set_cons_zero, List.set_cons_succ]
      exact F_0_1_5.out _ (by kernel_rfl) _ a1 k1 b1 l1 g V.heap.size (hid ⟨HB2.out, ⟨owns_later (HR.out.2.1).1 hb, owns_later (HR.out.2.1).2 hb⟩, owns_later HR.out.2.2 hb, new⟩)
    exact AllReadyH.nil
  have F_0_2 : Hid (∀ listed, listed = #[true, false, true, false, false, false, false] → ∀ (V : World) (a1 : Option Addr) (k1 : Nat) (b1 : Option Addr) (l1 : Nat) (h : Nat), Hid ((Below X.heap.size X V) ∧ ((V.ownsRow X.heap.size 35 1 (.slice a1 1 k1) 1 ([.int .u32 1])) ∧ (V.ownsRow X.heap.size 35 1 (.slice b1 1 l1) 1 ([.int .u32 1]))) ∧ (V.ownsRow X.heap.size 35 1 (.slice (some ⟨h, 0, none⟩) 1 1) 1 ([.int .u32 1]))) → wpAnyH Tryz.prog .any gknown_region_ops (NoPanic Q) (fun V : World => Below X.heap.size X V) 5 listed { tmps := (List.toArray (t0 :: t1 :: t2 :: t3 :: t4 :: t5 :: t6 :: t7 :: t8 :: t9 :: t10 :: t11 :: t12 :: t13 :: t14 :: t15 :: t16 :: t17 :: t18 :: t19 :: t20 :: t21 :: t22 :: t23 :: t24 :: t25 :: t26 :: t27 :: t28 :: t29 :: t30 :: t31 :: t32 :: t33 :: t34 :: t35 :: t36 :: t37 :: t38 :: t39 :: t40 :: t41 :: t42 :: t43 :: t44 :: t45 :: t46 :: t47 :: t48 :: t49 :: t50 :: t51 :: t52 :: t53 :: t54 :: t55 :: (.agg #[.bool false, .slice a1 1 k1, .slice b1 1 l1]) :: t57 :: (.slice (some ⟨h, 0, none⟩) 1 1) :: t59 :: t60 :: rest)), defers := [] } V) := by
    rintro _ rfl V a1 k1 b1 l1 h HR
    refine wpAnyH_ready (rs := [1, 5]) (by kernel_rfl) (by simp) ?_
    refine AllReadyH.cons (o := { dst := some 57, op := Op.makeSlice 22 (Operand.const (Value.int IntKind.i64 2049)) (Operand.const (Value.int IntKind.i64 2049)), type := 22, pos := "outright.go:121", after := #[], guard := none }) rfl (fun K hK => ?_) ?_
    · go_simp
      try rw [hmk]
      try dsimp only
      have hb := alloc_later V (.cells M 35)
      have new := made2049' (W0 := X) HM.out rfl HR.out.1
      have HB2 := hid (bt HR.out.1 hb)
      refine hK.out _ _ ?_ (fun hHeld => ?_)
      · exact HB2.out
      clear hK K
      try simp only [List.setIfInBounds_toArray, List.set_cons_zero, List.set_cons_succ]
      refine wpAnyH_take (i := 3) (oi := { dst := some 59, op := Op.build 24 #[(1, Operand.tmp 57), (2, Operand.tmp 58)], type := 24, pos := "outright.go:121", after := #[{ on := 1, ground := Ground.data }, { on := 2, ground := Ground.data }], guard := none }) (v := ?_) rfl (by kernel_rfl) (by kernel_rfl) (by kernel_rfl) (fun _ _ _ h => h) (Or.inl ⟨by rfl, ?_⟩) (by assumption) ?_
      rotate_left 1
      · intro V hSw
        go_simp
        try with_reducible rfl
      try simp only [Act.put, List.setIfInBounds_toArray, List.set_cons_zero, List.set_cons_succ]
      refine wpAnyH_take (i := 4) (oi := { dst := some 60, op := Op.build 26 #[(0, Operand.tmp 56), (1, Operand.tmp 59)], type := 26, pos := "outright.go:121", after := #[{ on := 0, ground := Ground.data }, { on := 3, ground := Ground.data }], guard := none }) (v := ?_) rfl (by kernel_rfl) (by kernel_rfl) (by kernel_rfl) (fun _ _ _ h => h) (Or.inl ⟨by rfl, ?_⟩) (by assumption) ?_
      rotate_left 1
      · intro V hSw
        go_simp
        try with_reducible rfl
      try simp only [Act.put, List.setIfInBounds_toArray, List.set_cons_zero, List.set_cons_succ]
      exact F_0_1_2.out _ (by kernel_rfl) _ a1 k1 b1 l1 V.heap.size h (hid ⟨HB2.out, ⟨owns_later (HR.out.2.1).1 hb, owns_later (HR.out.2.1).2 hb⟩, new, owns_later HR.out.2.2 hb⟩)
    refine AllReadyH.cons (o := { dst := some 10, op := Op.alloc 26, type := 0, pos := "outright.go:121", after := #[], guard := none }) rfl (fun K hK => ?_) ?_
    · go_simp
      have hb := alloc_later V (.cells #[.bool false, .slice none 0 0, .slice none 0 0, .bool false, .slice none 0 0, .slice none 0 0] 26)
      have new := And.intro (Box.made V 26 #[.bool false, .slice none 0 0, .slice none 0 0, .bool false, .slice none 0 0, .slice none 0 0]) (HR.out.1).size
      have HB2 := hid (bt HR.out.1 hb)
      refine hK.out _ _ ?_ (fun hHeld => ?_)
      · exact HB2.out
      clear hK K
      try simp only [List.setIfInBounds_toArray, List.set_cons_zero, List.set_cons_succ]
      exact F_0_2_5.out _ (by kernel_rfl) _ a1 k1 b1 l1 h V.heap.size (hid ⟨HB2.out, ⟨owns_later (HR.out.2.1).1 hb, owns_later (HR.out.2.1).2 hb⟩, owns_later HR.out.2.2 hb, new⟩)
    exact AllReadyH.nil
  have F_0_5 : Hid (∀ listed, listed = #[true, false, false, false, false, true, false] → ∀ (V : World) (a1 : Option Addr) (k1 : Nat) (b1 : Option Addr) (l1 : Nat) (b : Nat), Hid ((Below X.heap.size X V) ∧ ((V.ownsRow X.heap.size 35 1 (.slice a1 1 k1) 1 ([.int .u32 1])) ∧ (V.ownsRow X.heap.size 35 1 (.slice b1 1 l1) 1 ([.int .u32 1]))) ∧ (Box V b 26 #[.bool false, .slice none 0 0, .slice none 0 0, .bool false, .slice none 0 0, .slice none 0 0] ∧ X.heap.size ≤ b)) → wpAnyH Tryz.prog .any gknown_region_ops (NoPanic Q) (fun V : World => Below X.heap.size X V) 5 listed { tmps := (List.toArray (t0 :: t1 :: t2 :: t3 :: t4 :: t5 :: t6 :: t7 :: t8 :: t9 :: (.pointer (some ⟨b, 0, none⟩)) :: t11 :: t12 :: t13 :: t14 :: t15 :: t16 :: t17 :: t18 :: t19 :: t20 :: t21 :: t22 :: t23 :: t24 :: t25 :: t26 :: t27 :: t28 :: t29 :: t30 :: t31 :: t32 :: t33 :: t34 :: t35 :: t36 :: t37 :: t38 :: t39 :: t40 :: t41 :: t42 :: t43 :: t44 :: t45 :: t46 :: t47 :: t48 :: t49 :: t50 :: t51 :: t52 :: t53 :: t54 :: t55 :: (.agg #[.bool false, .slice a1 1 k1, .slice b1 1 l1]) :: t57 :: t58 :: t59 :: t60 :: rest)), defers := [] } V) := by
    rintro _ rfl V a1 k1 b1 l1 b HR
    refine wpAnyH_ready (rs := [1, 2]) (by kernel_rfl) (by simp) ?_
    refine AllReadyH.cons (o := { dst := some 57, op := Op.makeSlice 22 (Operand.const (Value.int IntKind.i64 2049)) (Operand.const (Value.int IntKind.i64 2049)), type := 22, pos := "outright.go:121", after := #[], guard := none }) rfl (fun K hK => ?_) ?_
    · go_simp
      try rw [hmk]
      try dsimp only
      have hb := alloc_later V (.cells M 35)
      have new := made2049' (W0 := X) HM.out rfl HR.out.1
      have HB2 := hid (bt HR.out.1 hb)
      refine hK.out _ _ ?_ (fun hHeld => ?_)
      · exact HB2.out
      clear hK K
      try simp only [List.setIfInBounds_toArray, List.set_cons_zero, List.set_cons_succ]
      exact F_0_1_5.out _ (by kernel_rfl) _ a1 k1 b1 l1 V.heap.size b (hid ⟨HB2.out, ⟨owns_later (HR.out.2.1).1 hb, owns_later (HR.out.2.1).2 hb⟩, new, ⟨box_bt (HR.out.2.2).1 hb, (HR.out.2.2).2⟩⟩)
    refine AllReadyH.cons (o := { dst := some 58, op := Op.buildSlice 22 1 #[(0, Operand.const (Value.int IntKind.u32 1))], type := 22, pos := "outright.go:121", after := #[], guard := none }) rfl (fun K hK => ?_) ?_
    · go_simp
      have hb := alloc_later V (.cells #[.int .u32 1] 35)
      have new := made1' (W0 := X) (x := 1) rfl HR.out.1
      have HB2 := hid (bt HR.out.1 hb)
      refine hK.out _ _ ?_ (fun hHeld => ?_)
      · exact HB2.out
      clear hK K
      try simp only [List.setIfInBounds_toArray, List.set_cons_zero, List.set_cons_succ]
      exact F_0_2_5.out _ (by kernel_rfl) _ a1 k1 b1 l1 V.heap.size b (hid ⟨HB2.out, ⟨owns_later (HR.out.2.1).1 hb, owns_later (HR.out.2.1).2 hb⟩, new, ⟨box_bt (HR.out.2.2).1 hb, (HR.out.2.2).2⟩⟩)
    exact AllReadyH.nil
  have F_1_2 : Hid (∀ listed, listed = #[false, true, true, true, false, false, false] → ∀ (V : World) (g : Nat) (h : Nat), Hid ((Below X.heap.size X V) ∧ (V.ownsRow X.heap.size 35 1 (.slice (some ⟨g, 0, none⟩) 2049 2049) 2049 (zs2049.map (Value.int .u32))) ∧ (V.ownsRow X.heap.size 35 1 (.slice (some ⟨h, 0, none⟩) 1 1) 1 ([.int .u32 1]))) → wpAnyH Tryz.prog .any gknown_region_ops (NoPanic Q) (fun V : World => Below X.heap.size X V) 4 listed { tmps := (List.toArray (t0 :: t1 :: t2 :: t3 :: t4 :: t5 :: t6 :: t7 :: t8 :: t9 :: t10 :: t11 :: t12 :: t13 :: t14 :: t15 :: t16 :: t17 :: t18 :: t19 :: t20 :: t21 :: t22 :: t23 :: t24 :: t25 :: t26 :: t27 :: t28 :: t29 :: t30 :: t31 :: t32 :: t33 :: t34 :: t35 :: t36 :: t37 :: t38 :: t39 :: t40 :: t41 :: t42 :: t43 :: t44 :: t45 :: t46 :: t47 :: t48 :: t49 :: t50 :: t51 :: t52 :: t53 :: t54 :: t55 :: t56 :: (.slice (some ⟨g, 0, none⟩) 2049 2049) :: (.slice (some ⟨h, 0, none⟩) 1 1) :: (.agg #[.bool false, .slice (some ⟨g, 0, none⟩) 2049 2049, .slice (some ⟨h, 0, none⟩) 1 1]) :: t60 :: rest)), defers := [] } V) := by
    rintro _ rfl V g h HR
    refine wpAnyH_ready (rs := [0, 5]) (by kernel_rfl) (by simp) ?_
    refine AllReadyH.cons (o := { dst := some 56, op := Op.call { callee := Callee.value (Operand.func 9), args := #[Operand.const (Value.int IntKind.i64 1), Operand.const (Value.int IntKind.i64 1)], argTypes := #[2, 2] }, type := 24, pos := "outright.go:121", after := #[], guard := none }) rfl (fun K hK => ?_) ?_
    · go_simp
      refine Calls.mono (gfrac11r V) ?_
      rintro e V' ⟨a1, k1, b1, l1, rfl, o1, o2, hb6, _⟩
      dsimp only
      have hb := hb6.out
      have new := And.intro (row_bt o1.out HR.out.1) (row_bt o2.out HR.out.1)
      have HB2 := hid (bt HR.out.1 hb)
      refine hK.out _ _ ?_ (fun hHeld => ?_)
      · exact HB2.out
      clear hK K
      try simp only [List.setIfInBounds_toArray, List.set_cons_zero, List.set_cons_succ]
      refine wpAnyH_take (i := 4) (oi := { dst := some 60, op := Op.build 26 #[(0, Operand.tmp 56), (1, Operand.tmp 59)], type := 26, pos := "outright.go:121", after := #[{ on := 0, ground := Ground.data }, { on := 3, ground := Ground.data }], guard := none }) (v := ?_) rfl (by kernel_rfl) (by kernel_rfl) (by kernel_rfl) (fun _ _ _ h => h) (Or.inl ⟨by rfl, ?_⟩) (by assumption) ?_
      rotate_left 1
      · intro V hSw
        go_simp
        try with_reducible rfl
      try simp only [Act.put, List.setIfInBounds_toArray, List.set_cons_zero, List.set_cons_succ]
      exact F_0_1_2.out _ (by kernel_rfl) _ a1 k1 b1 l1 g h (hid ⟨HB2.out, new, owns_later HR.out.2.1 hb, owns_later HR.out.2.2 hb⟩)
    refine AllReadyH.cons (o := { dst := some 10, op := Op.alloc 26, type := 0, pos := "outright.go:121", after := #[], guard := none }) rfl (fun K hK => ?_) ?_
    · go_simp
      have hb := alloc_later V (.cells #[.bool false, .slice none 0 0, .slice none 0 0, .bool false, .slice none 0 0, .slice none 0 0] 26)
      have new := And.intro (Box.made V 26 #[.bool false, .slice none 0 0, .slice none 0 0, .bool false, .slice none 0 0, .slice none 0 0]) (HR.out.1).size
      have HB2 := hid (bt HR.out.1 hb)
      refine hK.out _ _ ?_ (fun hHeld => ?_)
      · exact HB2.out
      clear hK K
      try simp only [List.setIfInBounds_toArray, List.set_cons_zero, List.set_cons_succ]
      exact F_1_2_5.out _ (by kernel_rfl) _ g h V.heap.size (hid ⟨HB2.out, owns_later HR.out.2.1 hb, owns_later HR.out.2.2 hb, new⟩)
    exact AllReadyH.nil
  have F_1_5 : Hid (∀ listed, listed = #[false, true, false, false, false, true, false] → ∀ (V : World) (g : Nat) (b : Nat), Hid ((Below X.heap.size X V) ∧ (V.ownsRow X.heap.size 35 1 (.slice (some ⟨g, 0, none⟩) 2049 2049) 2049 (zs2049.map (Value.int .u32))) ∧ (Box V b 26 #[.bool false, .slice none 0 0, .slice none 0 0, .bool false, .slice none 0 0, .slice none 0 0] ∧ X.heap.size ≤ b)) → wpAnyH Tryz.prog .any gknown_region_ops (NoPanic Q) (fun V : World => Below X.heap.size X V) 5 listed { tmps := (List.toArray (t0 :: t1 :: t2 :: t3 :: t4 :: t5 :: t6 :: t7 :: t8 :: t9 :: (.pointer (some ⟨b, 0, none⟩)) :: t11 :: t12 :: t13 :: t14 :: t15 :: t16 :: t17 :: t18 :: t19 :: t20 :: t21 :: t22 :: t23 :: t24 :: t25 :: t26 :: t27 :: t28 :: t29 :: t30 :: t31 :: t32 :: t33 :: t34 :: t35 :: t36 :: t37 :: t38 :: t39 :: t40 :: t41 :: t42 :: t43 :: t44 :: t45 :: t46 :: t47 :: t48 :: t49 :: t50 :: t51 :: t52 :: t53 :: t54 :: t55 :: t56 :: (.slice (some ⟨g, 0, none⟩) 2049 2049) :: t58 :: t59 :: t60 :: rest)), defers := [] } V) := by
    rintro _ rfl V g b HR
    refine wpAnyH_ready (rs := [0, 2]) (by kernel_rfl) (by simp) ?_
    refine AllReadyH.cons (o := { dst := some 56, op := Op.call { callee := Callee.value (Operand.func 9), args := #[Operand.const (Value.int IntKind.i64 1), Operand.const (Value.int IntKind.i64 1)], argTypes := #[2, 2] }, type := 24, pos := "outright.go:121", after := #[], guard := none }) rfl (fun K hK => ?_) ?_
    · go_simp
      refine Calls.mono (gfrac11r V) ?_
      rintro e V' ⟨a1, k1, b1, l1, rfl, o1, o2, hb6, _⟩
      dsimp only
      have hb := hb6.out
      have new := And.intro (row_bt o1.out HR.out.1) (row_bt o2.out HR.out.1)
      have HB2 := hid (bt HR.out.1 hb)
      refine hK.out _ _ ?_ (fun hHeld => ?_)
      · exact HB2.out
      clear hK K
      try simp only [List.setIfInBounds_toArray, List.set_cons_zero, List.set_cons_succ]
      exact F_0_1_5.out _ (by kernel_rfl) _ a1 k1 b1 l1 g b (hid ⟨HB2.out, new, owns_later HR.out.2.1 hb, ⟨box_bt (HR.out.2.2).1 hb, (HR.out.2.2).2⟩⟩)
    refine AllReadyH.cons (o := { dst := some 58, op := Op.buildSlice 22 1 #[(0, Operand.const (Value.int IntKind.u32 1))], type := 22, pos := "outright.go:121", after := #[], guard := none }) rfl (fun K hK => ?_) ?_
    · go_simp
      have hb := alloc_later V (.cells #[.int .u32 1] 35)
      have new := made1' (W0 := X) (x := 1) rfl HR.out.1
      have HB2 := hid (bt HR.out.1 hb)
      refine hK.out _ _ ?_ (fun hHeld => ?_)
      · exact HB2.out
      clear hK K
      try simp only [List.setIfInBounds_toArray, List.set_cons_zero, List.set_cons_succ]
      refine wpAnyH_take (i := 3) (oi := { dst := some 59, op := Op.build 24 #[(1, Operand.tmp 57), (2, Operand.tmp 58)], type := 24, pos := "outright.go:121", after := #[{ on := 1, ground := Ground.data }, { on := 2, ground := Ground.data }], guard := none }) (v := ?_) rfl (by kernel_rfl) (by kernel_rfl) (by kernel_rfl) (fun _ _ _ h => h) (Or.inl ⟨by rfl, ?_⟩) (by assumption) ?_
      rotate_left 1
      · intro V hSw
        go_simp
        try with_reducible rfl
      try simp only [Act.put, List.setIfInBounds_toArray, List.set_cons_zero, List.set_cons_succ]
      exact F_1_2_5.out _ (by kernel_rfl) _ g V.heap.size b (hid ⟨HB2.out, owns_later HR.out.2.1 hb, new, ⟨box_bt (HR.out.2.2).1 hb, (HR.out.2.2).2⟩⟩)
    exact AllReadyH.nil
  have F_2_5 : Hid (∀ listed, listed = #[false, false, true, false, false, true, false] → ∀ (V : World) (h : Nat) (b : Nat), Hid ((Below X.heap.size X V) ∧ (V.ownsRow X.heap.size 35 1 (.slice (some ⟨h, 0, none⟩) 1 1) 1 ([.int .u32 1])) ∧ (Box V b 26 #[.bool false, .slice none 0 0, .slice none 0 0, .bool false, .slice none 0 0, .slice none 0 0] ∧ X.heap.size ≤ b)) → wpAnyH Tryz.prog .any gknown_region_ops (NoPanic Q) (fun V : World => Below X.heap.size X V) 5 listed { tmps := (List.toArray (t0 :: t1 :: t2 :: t3 :: t4 :: t5 :: t6 :: t7 :: t8 :: t9 :: (.pointer (some ⟨b, 0, none⟩)) :: t11 :: t12 :: t13 :: t14 :: t15 :: t16 :: t17 :: t18 :: t19 :: t20 :: t21 :: t22 :: t23 :: t24 :: t25 :: t26 :: t27 :: t28 :: t29 :: t30 :: t31 :: t32 :: t33 :: t34 :: t35 :: t36 :: t37 :: t38 :: t39 :: t40 :: t41 :: t42 :: t43 :: t44 :: t45 :: t46 :: t47 :: t48 :: t49 :: t50 :: t51 :: t52 :: t53 :: t54 :: t55 :: t56 :: t57 :: (.slice (some ⟨h, 0, none⟩) 1 1) :: t59 :: t60 :: rest)), defers := [] } V) := by
    rintro _ rfl V h b HR
    refine wpAnyH_ready (rs := [0, 1]) (by kernel_rfl) (by simp) ?_
    refine AllReadyH.cons (o := { dst := some 56, op := Op.call { callee := Callee.value (Operand.func 9), args := #[Operand.const (Value.int IntKind.i64 1), Operand.const (Value.int IntKind.i64 1)], argTypes := #[2, 2] }, type := 24, pos := "outright.go:121", after := #[], guard := none }) rfl (fun K hK => ?_) ?_
    · go_simp
      refine Calls.mono (gfrac11r V) ?_
      rintro e V' ⟨a1, k1, b1, l1, rfl, o1, o2, hb6, _⟩
      dsimp only
      have hb := hb6.out
      have new := And.intro (row_bt o1.out HR.out.1) (row_bt o2.out HR.out.1)
      have HB2 := hid (bt HR.out.1 hb)
      refine hK.out _ _ ?_ (fun hHeld => ?_)
      · exact HB2.out
      clear hK K
      try simp only [List.setIfInBounds_toArray, List.set_cons_zero, List.set_cons_succ]
      exact F_0_2_5.out _ (by kernel_rfl) _ a1 k1 b1 l1 h b (hid ⟨HB2.out, new, owns_later HR.out.2.1 hb, ⟨box_bt (HR.out.2.2).1 hb, (HR.out.2.2).2⟩⟩)
    refine AllReadyH.cons (o := { dst := some 57, op := Op.makeSlice 22 (Operand.const (Value.int IntKind.i64 2049)) (Operand.const (Value.int IntKind.i64 2049)), type := 22, pos := "outright.go:121", after := #[], guard := none }) rfl (fun K hK => ?_) ?_
    · go_simp
      try rw [hmk]
      try dsimp only
      have hb := alloc_later V (.cells M 35)
      have new := made2049' (W0 := X) HM.out rfl HR.out.1
      have HB2 := hid (bt HR.out.1 hb)
      refine hK.out _ _ ?_ (fun hHeld => ?_)
      · exact HB2.out
      clear hK K
      try simp only [List.setIfInBounds_toArray, List.set_cons_zero, List.set_cons_succ]
      refine wpAnyH_take (i := 3) (oi := { dst := some 59, op := Op.build 24 #[(1, Operand.tmp 57), (2, Operand.tmp 58)], type := 24, pos := "outright.go:121", after := #[{ on := 1, ground := Ground.data }, { on := 2, ground := Ground.data }], guard := none }) (v := ?_) rfl (by kernel_rfl) (by kernel_rfl) (by kernel_rfl) (fun _ _ _ h => h) (Or.inl ⟨by rfl, ?_⟩) (by assumption) ?_
      rotate_left 1
      · intro V hSw
        go_simp
        try with_reducible rfl
      try simp only [Act.put, List.setIfInBounds_toArray, List.set_cons_zero, List.set_cons_succ]
      exact F_1_2_5.out _ (by kernel_rfl) _ V.heap.size h b (hid ⟨HB2.out, new, owns_later HR.out.2.1 hb, ⟨box_bt (HR.out.2.2).1 hb, (HR.out.2.2).2⟩⟩)
    exact AllReadyH.nil
  have F_0 : Hid (∀ listed, listed = #[true, false, false, false, false, false, false] → ∀ (V : World) (a1 : Option Addr) (k1 : Nat) (b1 : Option Addr) (l1 : Nat), Hid ((Below X.heap.size X V) ∧ ((V.ownsRow X.heap.size 35 1 (.slice a1 1 k1) 1 ([.int .u32 1])) ∧ (V.ownsRow X.heap.size 35 1 (.slice b1 1 l1) 1 ([.int .u32 1])))) → wpAnyH Tryz.prog .any gknown_region_ops (NoPanic Q) (fun V : World => Below X.heap.size X V) 6 listed { tmps := (List.toArray (t0 :: t1 :: t2 :: t3 :: t4 :: t5 :: t6 :: t7 :: t8 :: t9 :: t10 :: t11 :: t12 :: t13 :: t14 :: t15 :: t16 :: t17 :: t18 :: t19 :: t20 :: t21 :: t22 :: t23 :: t24 :: t25 :: t26 :: t27 :: t28 :: t29 :: t30 :: t31 :: t32 :: t33 :: t34 :: t35 :: t36 :: t37 :: t38 :: t39 :: t40 :: t41 :: t42 :: t43 :: t44 :: t45 :: t46 :: t47 :: t48 :: t49 :: t50 :: t51 :: t52 :: t53 :: t54 :: t55 :: (.agg #[.bool false, .slice a1 1 k1, .slice b1 1 l1]) :: t57 :: t58 :: t59 :: t60 :: rest)), defers := [] } V) := by
    rintro _ rfl V a1 k1 b1 l1 HR
    refine wpAnyH_ready (rs := [1, 2, 5]) (by kernel_rfl) (by simp) ?_
    refine AllReadyH.cons (o := { dst := some 57, op := Op.makeSlice 22 (Operand.const (Value.int IntKind.i64 2049)) (Operand.const (Value.int IntKind.i64 2049)), type := 22, pos := "outright.go:121", after := #[], guard := none }) rfl (fun K hK => ?_) ?_
    · go_simp
      try rw [hmk]
      try dsimp only
      have hb := alloc_later V (.cells M 35)
      have new := made2049' (W0 := X) HM.out rfl HR.out.1
      have HB2 := hid (bt HR.out.1 hb)
      refine hK.out _ _ ?_ (fun hHeld => ?_)
      · exact HB2.out
      clear hK K
      try simp only [List.setIfInBounds_toArray, List.set_cons_zero, List.set_cons_succ]
      exact F_0_1.out _ (by kernel_rfl) _ a1 k1 b1 l1 V.heap.size (hid ⟨HB2.out, ⟨owns_later (HR.out.2).1 hb, owns_later (HR.out.2).2 hb⟩, new⟩)
    refine AllReadyH.cons (o := { dst := some 58, op := Op.buildSlice 22 1 #[(0, Operand.const (Value.int IntKind.u32 1))], type := 22, pos := "outright.go:121", after := #[], guard := none }) rfl (fun K hK => ?_) ?_
    · go_simp
      have hb := alloc_later V (.cells #[.int .u32 1] 35)
      have new := made1' (W0 := X) (x := 1) rfl HR.out.1
      have HB2 := hid (bt HR.out.1 hb)
      refine hK.out _ _ ?_ (fun hHeld => ?_)
      · exact HB2.out
      clear hK K
      try simp only [List.setIfInBounds_toArray, List.set_cons_zero, List.set_cons_succ]
      exact F_0_2.out _ (by kernel_rfl) _ a1 k1 b1 l1 V.heap.size (hid ⟨HB2.out, ⟨owns_later (HR.out.2).1 hb, owns_later (HR.out.2).2 hb⟩, new⟩)
    refine AllReadyH.cons (o := { dst := some 10, op := Op.alloc 26, type := 0, pos := "outright.go:121", after := #[], guard := none }) rfl (fun K hK => ?_) ?_
    · go_simp
      have hb := alloc_later V (.cells #[.bool false, .slice none 0 0, .slice none 0 0, .bool false, .slice none 0 0, .slice none 0 0] 26)
      have new := And.intro (Box.made V 26 #[.bool false, .slice none 0 0, .slice none 0 0, .bool false, .slice none 0 0, .slice none 0 0]) (HR.out.1).size
      have HB2 := hid (bt HR.out.1 hb)
      refine hK.out _ _ ?_ (fun hHeld => ?_)
      · exact HB2.out
      clear hK K
      try simp only [List.setIfInBounds_toArray, List.set_cons_zero, List.set_cons_succ]
      exact F_0_5.out _ (by kernel_rfl) _ a1 k1 b1 l1 V.heap.size (hid ⟨HB2.out, ⟨owns_later (HR.out.2).1 hb, owns_later (HR.out.2).2 hb⟩, new⟩)
    exact AllReadyH.nil
  have F_1 : Hid (∀ listed, listed = #[false, true, false, false, false, false, false] → ∀ (V : World) (g : Nat), Hid ((Below X.heap.size X V) ∧ (V.ownsRow X.heap.size 35 1 (.slice (some ⟨g, 0, none⟩) 2049 2049) 2049 (zs2049.map (Value.int .u32)))) → wpAnyH Tryz.prog .any gknown_region_ops (NoPanic Q) (fun V : World => Below X.heap.size X V) 6 listed { tmps := (List.toArray (t0 :: t1 :: t2 :: t3 :: t4 :: t5 :: t6 :: t7 :: t8 :: t9 :: t10 :: t11 :: t12 :: t13 :: t14 :: t15 :: t16 :: t17 :: t18 :: t19 :: t20 :: t21 :: t22 :: t23 :: t24 :: t25 :: t26 :: t27 :: t28 :: t29 :: t30 :: t31 :: t32 :: t33 :: t34 :: t35 :: t36 :: t37 :: t38 :: t39 :: t40 :: t41 :: t42 :: t43 :: t44 :: t45 :: t46 :: t47 :: t48 :: t49 :: t50 :: t51 :: t52 :: t53 :: t54 :: t55 :: t56 :: (.slice (some ⟨g, 0, none⟩) 2049 2049) :: t58 :: t59 :: t60 :: rest)), defers := [] } V) := by
    rintro _ rfl V g HR
    refine wpAnyH_ready (rs := [0, 2, 5]) (by kernel_rfl) (by simp) ?_
    refine AllReadyH.cons (o := { dst := some 56, op := Op.call { callee := Callee.value (Operand.func 9), args := #[Operand.const (Value.int IntKind.i64 1), Operand.const (Value.int IntKind.i64 1)], argTypes := #[2, 2] }, type := 24, pos := "outright.go:121", after := #[], guard := none }) rfl (fun K hK => ?_) ?_
    · go_simp
      refine Calls.mono (gfrac11r V) ?_
      rintro e V' ⟨a1, k1, b1, l1, rfl, o1, o2, hb6, _⟩
      dsimp only
      have hb := hb6.out
      have new := And.intro (row_bt o1.out HR.out.1) (row_bt o2.out HR.out.1)
      have HB2 := hid (bt HR.out.1 hb)
      refine hK.out _ _ ?_ (fun hHeld => ?_)
      · exact HB2.out
      clear hK K
      try simp only [List.setIfInBounds_toArray, List.set_cons_zero, List.set_cons_succ]
      exact F_0_1.out _ (by kernel_rfl) _ a1 k1 b1 l1 g (hid ⟨HB2.out, new, owns_later HR.out.2 hb⟩)
    refine AllReadyH.cons (o := { dst := some 58, op := Op.buildSlice 22 1 #[(0, Operand.const (Value.int IntKind.u32 1))], type := 22, pos := "outright.go:121", after := #[], guard := none }) rfl (fun K hK => ?_) ?_
    · go_simp
      have hb := alloc_later V (.cells #[.int .u32 1] 35)
      have new := made1' (W0 := X) (x := 1) rfl HR.out.1
      have HB2 := hid (bt HR.out.1 hb)
      refine hK.out _ _ ?_ (fun hHeld => ?_)
      · exact HB2.out
      clear hK K
      try simp only [List.setIfInBounds_toArray, List.set_cons_zero, List.set_cons_succ]
      refine wpAnyH_take (i := 3) (oi := { dst := some 59, op := Op.build 24 #[(1, Operand.tmp 57), (2, Operand.tmp 58)], type := 24, pos := "outright.go:121", after := #[{ on := 1, ground := Ground.data }, { on := 2, ground := Ground.data }], guard := none }) (v := ?_) rfl (by kernel_rfl) (by kernel_rfl) (by kernel_rfl) (fun _ _ _ h => h) (Or.inl ⟨by rfl, ?_⟩) (by assumption) ?_
      rotate_left 1
      · intro V hSw
        go_simp
        try with_reducible rfl
      try simp only [Act.put, List.setIfInBounds_toArray, List.set_cons_zero, List.set_cons_succ]
      exact F_1_2.out _ (by kernel_rfl) _ g V.heap.size (hid ⟨HB2.out, owns_later HR.out.2 hb, new⟩)
    refine AllReadyH.cons (o := { dst := some 10, op := Op.alloc 26, type := 0, pos := "outright.go:121", after := #[], guard := none }) rfl (fun K hK => ?_) ?_
    · go_simp
      have hb := alloc_later V (.cells #[.bool false, .slice none 0 0, .slice none 0 0, .bool false, .slice none 0 0, .slice none 0 0] 26)
      have new := And.intro (Box.made V 26 #[.bool false, .slice none 0 0, .slice none 0 0, .bool false, .slice none 0 0, .slice none 0 0]) (HR.out.1).size
      have HB2 := hid (bt HR.out.1 hb)
      refine hK.out _ _ ?_ (fun hHeld => ?_)
      · exact HB2.out
      clear hK K
      try simp only [List.setIfInBounds_toArray, List.set_cons_zero, List.set_cons_succ]
      exact F_1_5.out _ (by kernel_rfl) _ g V.heap.size (hid ⟨HB2.out, owns_later HR.out.2 hb, new⟩)
    exact AllReadyH.nil
  have F_2 : Hid (∀ listed, listed = #[false, false, true, false, false, false, false] → ∀ (V : World) (h : Nat), Hid ((Below X.heap.size X V) ∧ (V.ownsRow X.heap.size 35 1 (.slice (some ⟨h, 0, none⟩) 1 1) 1 ([.int .u32 1]))) → wpAnyH Tryz.prog .any gknown_region_ops (NoPanic Q) (fun V : World => Below X.heap.size X V) 6 listed { tmps := (List.toArray (t0 :: t1 :: t2 :: t3 :: t4 :: t5 :: t6 :: t7 :: t8 :: t9 :: t10 :: t11 :: t12 :: t13 :: t14 :: t15 :: t16 :: t17 :: t18 :: t19 :: t20 :: t21 :: t22 :: t23 :: t24 :: t25 :: t26 :: t27 :: t28 :: t29 :: t30 :: t31 :: t32 :: t33 :: t34 :: t35 :: t36 :: t37 :: t38 :: t39 :: t40 :: t41 :: t42 :: t43 :: t44 :: t45 :: t46 :: t47 :: t48 :: t49 :: t50 :: t51 :: t52 :: t53 :: t54 :: t55 :: t56 :: t57 :: (.slice (some ⟨h, 0, none⟩) 1 1) :: t59 :: t60 :: rest)), defers := [] } V) := by
    rintro _ rfl V h HR
    refine wpAnyH_ready (rs := [0, 1, 5]) (by kernel_rfl) (by simp) ?_
    refine AllReadyH.cons (o := { dst := some 56, op := Op.call { callee := Callee.value (Operand.func 9), args := #[Operand.const (Value.int IntKind.i64 1), Operand.const (Value.int IntKind.i64 1)], argTypes := #[2, 2] }, type := 24, pos := "outright.go:121", after := #[], guard := none }) rfl (fun K hK => ?_) ?_
    · go_simp
      refine Calls.mono (gfrac11r V) ?_
      rintro e V' ⟨a1, k1, b1, l1, rfl, o1, o2, hb6, _⟩
      dsimp only
      have hb := hb6.out
      have new := And.intro (row_bt o1.out HR.out.1) (row_bt o2.out HR.out.1)
      have HB2 := hid (bt HR.out.1 hb)
      refine hK.out _ _ ?_ (fun hHeld => ?_)
      · exact HB2.out
      clear hK K
      try simp only [List.setIfInBounds_toArray, List.set_cons_zero, List.set_cons_succ]
      exact F_0_2.out _ (by kernel_rfl) _ a1 k1 b1 l1 h (hid ⟨HB2.out, new, owns_later HR.out.2 hb⟩)
    refine AllReadyH.cons (o := { dst := some 57, op := Op.makeSlice 22 (Operand.const (Value.int IntKind.i64 2049)) (Operand.const (Value.int IntKind.i64 2049)), type := 22, pos := "outright.go:121", after := #[], guard := none }) rfl (fun K hK => ?_) ?_
    · go_simp
      try rw [hmk]
      try dsimp only
      have hb := alloc_later V (.cells M 35)
      have new := made2049' (W0 := X) HM.out rfl HR.out.1
      have HB2 := hid (bt HR.out.1 hb)
      refine hK.out _ _ ?_ (fun hHeld => ?_)
      · exact HB2.out
      clear hK K
      try simp only [List.setIfInBounds_toArray, List.set_cons_zero, List.set_cons_succ]
      refine wpAnyH_take (i := 3) (oi := { dst := some 59, op := Op.build 24 #[(1, Operand.tmp 57), (2, Operand.tmp 58)], type := 24, pos := "outright.go:121", after := #[{ on := 1, ground := Ground.data }, { on := 2, ground := Ground.data }], guard := none }) (v := ?_) rfl (by kernel_rfl) (by kernel_rfl) (by kernel_rfl) (fun _ _ _ h => h) (Or.inl ⟨by rfl, ?_⟩) (by assumption) ?_
      rotate_left 1
      · intro V hSw
        go_simp
        try with_reducible rfl
      try simp only [Act.put, List.setIfInBounds_toArray, List.set_cons_zero, List.set_cons_succ]
      exact F_1_2.out _ (by kernel_rfl) _ V.heap.size h (hid ⟨HB2.out, new, owns_later HR.out.2 hb⟩)
    refine AllReadyH.cons (o := { dst := some 10, op := Op.alloc 26, type := 0, pos := "outright.go:121", after := #[], guard := none }) rfl (fun K hK => ?_) ?_
    · go_simp
      have hb := alloc_later V (.cells #[.bool false, .slice none 0 0, .slice none 0 0, .bool false, .slice none 0 0, .slice none 0 0] 26)
      have new := And.intro (Box.made V 26 #[.bool false, .slice none 0 0, .slice none 0 0, .bool false, .slice none 0 0, .slice none 0 0]) (HR.out.1).size
      have HB2 := hid (bt HR.out.1 hb)
      refine hK.out _ _ ?_ (fun hHeld => ?_)
      · exact HB2.out
      clear hK K
      try simp only [List.setIfInBounds_toArray, List.set_cons_zero, List.set_cons_succ]
      exact F_2_5.out _ (by kernel_rfl) _ h V.heap.size (hid ⟨HB2.out, owns_later HR.out.2 hb, new⟩)
    exact AllReadyH.nil
  have F_5 : Hid (∀ listed, listed = #[false, false, false, false, false, true, false] → ∀ (V : World) (b : Nat), Hid ((Below X.heap.size X V) ∧ (Box V b 26 #[.bool false, .slice none 0 0, .slice none 0 0, .bool false, .slice none 0 0, .slice none 0 0] ∧ X.heap.size ≤ b)) → wpAnyH Tryz.prog .any gknown_region_ops (NoPanic Q) (fun V : World => Below X.heap.size X V) 6 listed { tmps := (List.toArray (t0 :: t1 :: t2 :: t3 :: t4 :: t5 :: t6 :: t7 :: t8 :: t9 :: (.pointer (some ⟨b, 0, none⟩)) :: t11 :: t12 :: t13 :: t14 :: t15 :: t16 :: t17 :: t18 :: t19 :: t20 :: t21 :: t22 :: t23 :: t24 :: t25 :: t26 :: t27 :: t28 :: t29 :: t30 :: t31 :: t32 :: t33 :: t34 :: t35 :: t36 :: t37 :: t38 :: t39 :: t40 :: t41 :: t42 :: t43 :: t44 :: t45 :: t46 :: t47 :: t48 :: t49 :: t50 :: t51 :: t52 :: t53 :: t54 :: t55 :: t56 :: t57 :: t58 :: t59 :: t60 :: rest)), defers := [] } V) := by
    rintro _ rfl V b HR
    refine wpAnyH_ready (rs := [0, 1, 2]) (by kernel_rfl) (by simp) ?_
    refine AllReadyH.cons (o := { dst := some 56, op := Op.call { callee := Callee.value (Operand.func 9), args := #[Operand.const (Value.int IntKind.i64 1), Operand.const (Value.int IntKind.i64 1)], argTypes := #[2, 2] }, type := 24, pos := "outright.go:121", after := #[], guard := none }) rfl (fun K hK => ?_) ?_
    · go_simp
      refine Calls.mono (gfrac11r V) ?_
      rintro e V' ⟨a1, k1, b1, l1, rfl, o1, o2, hb6, _⟩
      dsimp only
      have hb := hb6.out
      have new := And.intro (row_bt o1.out HR.out.1) (row_bt o2.out HR.out.1)
      have HB2 := hid (bt HR.out.1 hb)
      refine hK.out _ _ ?_ (fun hHeld => ?_)
      · exact HB2.out
      clear hK K
      try simp only [List.setIfInBounds_toArray, List.set_cons_zero, List.set_cons_succ]
      exact F_0_5.out _ (by kernel_rfl) _ a1 k1 b1 l1 b (hid ⟨HB2.out, new, ⟨box_bt (HR.out.2).1 hb, (HR.out.2).2⟩⟩)
    refine AllReadyH.cons (o := { dst := some 57, op := Op.makeSlice 22 (Operand.const (Value.int IntKind.i64 2049)) (Operand.const (Value.int IntKind.i64 2049)), type := 22, pos := "outright.go:121", after := #[], guard := none }) rfl (fun K hK => ?_) ?_
    · go_simp
      try rw [hmk]
      try dsimp only
      have hb := alloc_later V (.cells M 35)
      have new := made2049' (W0 := X) HM.out rfl HR.out.1
      have HB2 := hid (bt HR.out.1 hb)
      refine hK.out _ _ ?_ (fun hHeld => ?_)
      · exact HB2.out
      clear hK K
      try simp only [List.setIfInBounds_toArray, List.set_cons_zero, List.set_cons_succ]
      exact F_1_5.out _ (by kernel_rfl) _ V.heap.size b (hid ⟨HB2.out, new, ⟨box_bt (HR.out.2).1 hb, (HR.out.2).2⟩⟩)
    refine AllReadyH.cons (o := { dst := some 58, op := Op.buildSlice 22 1 #[(0, Operand.const (Value.int IntKind.u32 1))], type := 22, pos := "outright.go:121", after := #[], guard := none }) rfl (fun K hK => ?_) ?_
    · go_simp
      have hb := alloc_later V (.cells #[.int .u32 1] 35)
      have new := made1' (W0 := X) (x := 1) rfl HR.out.1
      have HB2 := hid (bt HR.out.1 hb)
      refine hK.out _ _ ?_ (fun hHeld => ?_)
      · exact HB2.out
      clear hK K
      try simp only [List.setIfInBounds_toArray, List.set_cons_zero, List.set_cons_succ]
      exact F_2_5.out _ (by kernel_rfl) _ V.heap.size b (hid ⟨HB2.out, new, ⟨box_bt (HR.out.2).1 hb, (HR.out.2).2⟩⟩)
    exact AllReadyH.nil
  have F : Hid (∀ listed, listed = #[false, false, false, false, false, false, false] → ∀ (V : World) , Hid ((Below X.heap.size X V)) → wpAnyH Tryz.prog .any gknown_region_ops (NoPanic Q) (fun V : World => Below X.heap.size X V) 7 listed { tmps := (List.toArray (t0 :: t1 :: t2 :: t3 :: t4 :: t5 :: t6 :: t7 :: t8 :: t9 :: t10 :: t11 :: t12 :: t13 :: t14 :: t15 :: t16 :: t17 :: t18 :: t19 :: t20 :: t21 :: t22 :: t23 :: t24 :: t25 :: t26 :: t27 :: t28 :: t29 :: t30 :: t31 :: t32 :: t33 :: t34 :: t35 :: t36 :: t37 :: t38 :: t39 :: t40 :: t41 :: t42 :: t43 :: t44 :: t45 :: t46 :: t47 :: t48 :: t49 :: t50 :: t51 :: t52 :: t53 :: t54 :: t55 :: t56 :: t57 :: t58 :: t59 :: t60 :: rest)), defers := [] } V) := by
    rintro _ rfl V  HR
    refine wpAnyH_ready (rs := [0, 1, 2, 5]) (by kernel_rfl) (by simp) ?_
    refine AllReadyH.cons (o := { dst := some 56, op := Op.call { callee := Callee.value (Operand.func 9), args := #[Operand.const (Value.int IntKind.i64 1), Operand.const (Value.int IntKind.i64 1)], argTypes := #[2, 2] }, type := 24, pos := "outright.go:121", after := #[], guard := none }) rfl (fun K hK => ?_) ?_
    · go_simp
      refine Calls.mono (gfrac11r V) ?_
      rintro e V' ⟨a1, k1, b1, l1, rfl, o1, o2, hb6, _⟩
      dsimp only
      have hb := hb6.out
      have new := And.intro (row_bt o1.out HR.out) (row_bt o2.out HR.out)
      have HB2 := hid (bt HR.out hb)
      refine hK.out _ _ ?_ (fun hHeld => ?_)
      · exact HB2.out
      clear hK K
      try simp only [List.setIfInBounds_toArray, List.set_cons_zero, List.set_cons_succ]
      exact F_0.out _ (by kernel_rfl) _ a1 k1 b1 l1 (hid ⟨HB2.out, new⟩)
    refine AllReadyH.cons (o := { dst := some 57, op := Op.makeSlice 22 (Operand.const (Value.int IntKind.i64 2049)) (Operand.const (Value.int IntKind.i64 2049)), type := 22, pos := "outright.go:121", after := #[], guard := none }) rfl (fun K hK => ?_) ?_
    · go_simp
      try rw [hmk]
      try dsimp only
      have hb := alloc_later V (.cells M 35)
      have new := made2049' (W0 := X) HM.out rfl HR.out
      have HB2 := hid (bt HR.out hb)
      refine hK.out _ _ ?_ (fun hHeld => ?_)
      · exact HB2.out
      clear hK K
      try simp only [List.setIfInBounds_toArray, List.set_cons_zero, List.set_cons_succ]
      exact F_1.out _ (by kernel_rfl) _ V.heap.size (hid ⟨HB2.out, new⟩)
    refine AllReadyH.cons (o := { dst := some 58, op := Op.buildSlice 22 1 #[(0, Operand.const (Value.int IntKind.u32 1))], type := 22, pos := "outright.go:121", after := #[], guard := none }) rfl (fun K hK => ?_) ?_
    · go_simp
      have hb := alloc_later V (.cells #[.int .u32 1] 35)
      have new := made1' (W0 := X) (x := 1) rfl HR.out
      have HB2 := hid (bt HR.out hb)
      refine hK.out _ _ ?_ (fun hHeld => ?_)
      · exact HB2.out
      clear hK K
      try simp only [List.setIfInBounds_toArray, List.set_cons_zero, List.set_cons_succ]
      exact F_2.out _ (by kernel_rfl) _ V.heap.size (hid ⟨HB2.out, new⟩)
    refine AllReadyH.cons (o := { dst := some 10, op := Op.alloc 26, type := 0, pos := "outright.go:121", after := #[], guard := none }) rfl (fun K hK => ?_) ?_
    · go_simp
      have hb := alloc_later V (.cells #[.bool false, .slice none 0 0, .slice none 0 0, .bool false, .slice none 0 0, .slice none 0 0] 26)
      have new := And.intro (Box.made V 26 #[.bool false, .slice none 0 0, .slice none 0 0, .bool false, .slice none 0 0, .slice none 0 0]) (HR.out).size
      have HB2 := hid (bt HR.out hb)
      refine hK.out _ _ ?_ (fun hHeld => ?_)
      · exact HB2.out
      clear hK K
      try simp only [List.setIfInBounds_toArray, List.set_cons_zero, List.set_cons_succ]
      exact F_5.out _ (by kernel_rfl) _ V.heap.size (hid ⟨HB2.out, new⟩)
    exact AllReadyH.nil
  refine wp_region_noPanic ?_
  refine wp_region_held_drew (S := (fun V : World => Below X.heap.size X V)) (by kernel_rfl) ?_ (fun hHeld => ?_)
  · exact (Below.drew (Below.refl _ X))
  exact F.out _ (by kernel_rfl) _ (hid (Below.drew (Below.refl _ X)))
end Go.Proofs.YtakeolfaamnkkaaGreatDoor

/- GaussKnown: the document's examples. -/
namespace Go.Proofs.YtakeolfaamnkkaaGreatDoor
open Go.RowKit
set_option linter.unusedVariables false
set_option linter.unusedSimpArgs false

set_option maxHeartbeats 12800000 in
set_option maxRecDepth 100000 in
theorem gaussKnown_walk (w : World) (htab : Tab w) :
    Calls Tryz.prog 3 #[] w fun x w' => x = .returned (.bool true) ∧ Below w.heap.size w w' := by
  have HW0 := hid (Below.refl w.heap.size w)
  have HTAB : Hid (∀ V, Below w.heap.size w V → Tab V) := fun V hv => htab.later hv
  clear htab
  go_enter Tryz.func3, Tryz.ntmps3
  go_wp2_with fail
  refine Calls.mono (gint10 _) ?_
  rintro x w1 ⟨a1, ca1, b1, cb1, c1, cc1, d1, cd1, rfl, S1, hb_⟩
  have HW1 := hid (bt HW0.out hb_.out)
  clear HW0
  clear hb_
  go_wp2_with fail
  refine Calls.mono (gint00 _) ?_
  rintro x w2 ⟨a2, ca2, b2, cb2, c2, cc2, d2, cd2, rfl, S2, hb_⟩
  have HW2 := hid (bt HW1.out hb_.out)
  have S12 := hid (And.intro (S1.out.1.later hb_.out) (And.intro (S1.out.2.1.later hb_.out) (And.intro (S1.out.2.2.1.later hb_.out) (S1.out.2.2.2.later hb_.out))))
  clear HW1 S1
  clear hb_
  have HQ := hid (gquo0 a1 ca1 b1 cb1 c1 cc1 d1 cd1 a2 ca2 b2 cb2 c2 cc2 d2 cd2 w2 S12.out S2.out)
  go_wp2_with fail
  refine Calls.mono (HQ.out) ?_
  rintro x w3 ⟨a3, ca3, b3, cb3, c3, cc3, d3, cd3, rfl, hs_, hb_⟩
  have HW3 := hid (bt HW2.out hb_.out)
  have S13 := hid (And.intro (S12.out.1.later hb_.out) (And.intro (S12.out.2.1.later hb_.out) (And.intro (S12.out.2.2.1.later hb_.out) (S12.out.2.2.2.later hb_.out))))
  have S23 := hid (And.intro (S2.out.1.later hb_.out) (And.intro (S2.out.2.1.later hb_.out) (And.intro (S2.out.2.2.1.later hb_.out) (S2.out.2.2.2.later hb_.out))))
  clear HW2 S12 S2
  clear hb_ HQ hs_ S13 S23
  have GU := hid (Box.made w3 26 #[.bool false, .slice a3 0 ca3, .slice b3 0 cb3, .bool false, .slice c3 0 cc3, .slice d3 0 cd3])
  have LU := hid (alloc_later w3 (.cells #[.bool false, .slice a3 0 ca3, .slice b3 0 cb3, .bool false, .slice c3 0 cc3, .slice d3 0 cd3] 26))
  obtain ⟨YU, hYU⟩ : ∃ YU, w3.alloc (.cells #[.bool false, .slice a3 0 ca3, .slice b3 0 cb3, .bool false, .slice c3 0 cc3, .slice d3 0 cd3] 26) = YU := ⟨_, rfl⟩
  rw [hYU] at GU LU
  have HW4 := hid (bt HW3.out LU.out)
  clear HW3
  clear GU
  go_wp2_with fail
  refine Calls.mono (gparse35 _) ?_
  rintro x w4 ⟨a4, ca4, b4, cb4, c4, cc4, d4, cd4, rfl, SX, hb_⟩
  have HW5 := hid (bt HW4.out hb_.out)
  clear HW4
  clear hb_
  have GX := hid (Box.made w4 26 #[.bool false, .slice a4 1 ca4, .slice b4 1 cb4, .bool true, .slice c4 1 cc4, .slice d4 1 cd4])
  have LX := hid (alloc_later w4 (.cells #[.bool false, .slice a4 1 ca4, .slice b4 1 cb4, .bool true, .slice c4 1 cc4, .slice d4 1 cd4] 26))
  obtain ⟨YX, hYX⟩ : ∃ YX, w4.alloc (.cells #[.bool false, .slice a4 1 ca4, .slice b4 1 cb4, .bool true, .slice c4 1 cc4, .slice d4 1 cd4] 26) = YX := ⟨_, rfl⟩
  rw [hYX] at GX LX
  have HW6 := hid (bt HW5.out LX.out)
  have SX6 := hid (And.intro (SX.out.1.later LX.out) (And.intro (SX.out.2.1.later LX.out) (And.intro (SX.out.2.2.1.later LX.out) (SX.out.2.2.2.later LX.out))))
  clear HW5 SX
  have GT := hid (Box.made YX 9 #[.string ⟨#[54, 47, 49, 48, 32, 48]⟩, .string ⟨#[49]⟩, .string ⟨#[49, 32, 32, 50]⟩, .string ⟨#[49, 32, 50, 32, 51]⟩, .string ⟨#[49, 32, 50, 105]⟩, .string ⟨#[]⟩, .string ⟨#[32]⟩, .string ⟨#[49, 32]⟩, .string ⟨#[32, 49]⟩, .string ⟨#[45, 48, 32, 48]⟩, .string ⟨#[49, 47, 49, 32, 48]⟩])
  have LT := hid (alloc_later YX (.cells #[.string ⟨#[54, 47, 49, 48, 32, 48]⟩, .string ⟨#[49]⟩, .string ⟨#[49, 32, 32, 50]⟩, .string ⟨#[49, 32, 50, 32, 51]⟩, .string ⟨#[49, 32, 50, 105]⟩, .string ⟨#[]⟩, .string ⟨#[32]⟩, .string ⟨#[49, 32]⟩, .string ⟨#[32, 49]⟩, .string ⟨#[45, 48, 32, 48]⟩, .string ⟨#[49, 47, 49, 32, 48]⟩] 9))
  obtain ⟨YT, hYT⟩ : ∃ YT, YX.alloc (.cells #[.string ⟨#[54, 47, 49, 48, 32, 48]⟩, .string ⟨#[49]⟩, .string ⟨#[49, 32, 32, 50]⟩, .string ⟨#[49, 32, 50, 32, 51]⟩, .string ⟨#[49, 32, 50, 105]⟩, .string ⟨#[]⟩, .string ⟨#[32]⟩, .string ⟨#[49, 32]⟩, .string ⟨#[32, 49]⟩, .string ⟨#[45, 48, 32, 48]⟩, .string ⟨#[49, 47, 49, 32, 48]⟩] 9) = YT := ⟨_, rfl⟩
  rw [hYT] at GT LT
  have HW7 := hid (bt HW6.out LT.out)
  have HX7 := hid (GX.out.later LT.out GX.out.lt)
  have SX7 := hid (And.intro (SX6.out.1.later LT.out) (And.intro (SX6.out.2.1.later LT.out) (And.intro (SX6.out.2.2.1.later LT.out) (SX6.out.2.2.2.later LT.out))))
  clear HW6 GX SX6
  go_wp2_with fail
  refine wp_loop_rounds 12 ?_
  rw [rounds_succ]
  have HR := hid (grefused ⟨#[54, 47, 49, 48, 32, 48]⟩ YT (by decide) gz0)
  have clT_0 : YT.cell? ⟨YX.heap.size, 0, none⟩ = some (.string ⟨#[54, 47, 49, 48, 32, 48]⟩) := GT.out.cell 0
  go_wp2_with fail
  refine Calls.mono (HR.out) ?_
  rintro x p0 ⟨a_, ca_, b_, cb_, c_, cc_, d_, cd_, rfl, hs_, hb_⟩
  clear clT_0
  have HW8 := hid (bt HW7.out hb_.out)
  have HX8 := hid (HX7.out.later hb_.out HX7.out.lt)
  have HT8 := hid (GT.out.later hb_.out GT.out.lt)
  have SX8 := hid (And.intro (SX7.out.1.later hb_.out) (And.intro (SX7.out.2.1.later hb_.out) (And.intro (SX7.out.2.2.1.later hb_.out) (SX7.out.2.2.2.later hb_.out))))
  clear HW7 HX7 GT SX7
  have SQ := hs_
  clear hb_ HR
  have GQ0 := hid (Box.made p0 26 #[.bool false, .slice a_ 0 ca_, .slice b_ 0 cb_, .bool false, .slice c_ 0 cc_, .slice d_ 0 cd_])
  have LQ0 := hid (alloc_later p0 (.cells #[.bool false, .slice a_ 0 ca_, .slice b_ 0 cb_, .bool false, .slice c_ 0 cc_, .slice d_ 0 cd_] 26))
  obtain ⟨YQ0, hYQ0⟩ : ∃ YQ0, p0.alloc (.cells #[.bool false, .slice a_ 0 ca_, .slice b_ 0 cb_, .bool false, .slice c_ 0 cc_, .slice d_ 0 cd_] 26) = YQ0 := ⟨_, rfl⟩
  rw [hYQ0] at GQ0 LQ0
  have HW9 := hid (bt HW8.out LQ0.out)
  have HX9 := hid (HX8.out.later LQ0.out HX8.out.lt)
  have HT9 := hid (HT8.out.later LQ0.out HT8.out.lt)
  have SX9 := hid (And.intro (SX8.out.1.later LQ0.out) (And.intro (SX8.out.2.1.later LQ0.out) (And.intro (SX8.out.2.2.1.later LQ0.out) (SX8.out.2.2.2.later LQ0.out))))
  have SQ9 := hid (And.intro (SQ.out.1.later LQ0.out) (And.intro (SQ.out.2.1.later LQ0.out) (And.intro (SQ.out.2.2.1.later LQ0.out) (SQ.out.2.2.2.later LQ0.out))))
  clear HW8 HX8 HT8 SX8 SQ
  have HK := hid (gsameGauss_eq false a_ ca_ [] b_ cb_ [] false c_ cc_ [] d_ cd_ [] none 0 none 0 none 0 none 0 YQ0 SQ9.out.1 SQ9.out.2.1 SQ9.out.2.2.1 SQ9.out.2.2.2 (kz_nil _) (kz_nil _) (kz_nil _) (kz_nil _) (by decide) (by decide) (by decide) (by decide))
  have clQ0_0 : YQ0.cell? ⟨p0.heap.size, 0, none⟩ = some (.bool false) := GQ0.out.cell 0
  have clQ0_1 : YQ0.cell? ⟨p0.heap.size, 1, none⟩ = some (.slice a_ 0 ca_) := GQ0.out.cell 1
  have clQ0_2 : YQ0.cell? ⟨p0.heap.size, 2, none⟩ = some (.slice b_ 0 cb_) := GQ0.out.cell 2
  have clQ0_3 : YQ0.cell? ⟨p0.heap.size, 3, none⟩ = some (.bool false) := GQ0.out.cell 3
  have clQ0_4 : YQ0.cell? ⟨p0.heap.size, 4, none⟩ = some (.slice c_ 0 cc_) := GQ0.out.cell 4
  have clQ0_5 : YQ0.cell? ⟨p0.heap.size, 5, none⟩ = some (.slice d_ 0 cd_) := GQ0.out.cell 5
  go_wp2_with fail
  refine Calls.mono (HK.out) ?_
  rintro x q0 ⟨rfl, hb_⟩
  clear clQ0_0 clQ0_1 clQ0_2 clQ0_3 clQ0_4 clQ0_5
  have HW10 := hid (bt HW9.out hb_)
  have HX10 := hid (HX9.out.later hb_ HX9.out.lt)
  have HT10 := hid (HT9.out.later hb_ HT9.out.lt)
  have HQ010 := hid (GQ0.out.later hb_ GQ0.out.lt)
  have SX10 := hid (And.intro (SX9.out.1.later hb_) (And.intro (SX9.out.2.1.later hb_) (And.intro (SX9.out.2.2.1.later hb_) (SX9.out.2.2.2.later hb_))))
  have SQ10 := hid (And.intro (SQ9.out.1.later hb_) (And.intro (SQ9.out.2.1.later hb_) (And.intro (SQ9.out.2.2.1.later hb_) (SQ9.out.2.2.2.later hb_))))
  clear HW9 HX9 HT9 GQ0 SX9 SQ9
  clear hb_ HK hs_ SQ10 HQ010
  go_wp2_with fail
  rw [rounds_succ]
  have HR := hid (grefused ⟨#[49]⟩ q0 (by decide) gz1)
  have clT_1 : q0.cell? ⟨YX.heap.size, 1, none⟩ = some (.string ⟨#[49]⟩) := HT10.out.cell 1
  go_wp2_with fail
  refine Calls.mono (HR.out) ?_
  rintro x p1 ⟨a_, ca_, b_, cb_, c_, cc_, d_, cd_, rfl, hs_, hb_⟩
  clear clT_1
  have HW11 := hid (bt HW10.out hb_.out)
  have HX11 := hid (HX10.out.later hb_.out HX10.out.lt)
  have HT11 := hid (HT10.out.later hb_.out HT10.out.lt)
  have SX11 := hid (And.intro (SX10.out.1.later hb_.out) (And.intro (SX10.out.2.1.later hb_.out) (And.intro (SX10.out.2.2.1.later hb_.out) (SX10.out.2.2.2.later hb_.out))))
  clear HW10 HX10 HT10 SX10
  have SQ := hs_
  clear hb_ HR
  have GQ1 := hid (Box.made p1 26 #[.bool false, .slice a_ 0 ca_, .slice b_ 0 cb_, .bool false, .slice c_ 0 cc_, .slice d_ 0 cd_])
  have LQ1 := hid (alloc_later p1 (.cells #[.bool false, .slice a_ 0 ca_, .slice b_ 0 cb_, .bool false, .slice c_ 0 cc_, .slice d_ 0 cd_] 26))
  obtain ⟨YQ1, hYQ1⟩ : ∃ YQ1, p1.alloc (.cells #[.bool false, .slice a_ 0 ca_, .slice b_ 0 cb_, .bool false, .slice c_ 0 cc_, .slice d_ 0 cd_] 26) = YQ1 := ⟨_, rfl⟩
  rw [hYQ1] at GQ1 LQ1
  have HW12 := hid (bt HW11.out LQ1.out)
  have HX12 := hid (HX11.out.later LQ1.out HX11.out.lt)
  have HT12 := hid (HT11.out.later LQ1.out HT11.out.lt)
  have SX12 := hid (And.intro (SX11.out.1.later LQ1.out) (And.intro (SX11.out.2.1.later LQ1.out) (And.intro (SX11.out.2.2.1.later LQ1.out) (SX11.out.2.2.2.later LQ1.out))))
  have SQ12 := hid (And.intro (SQ.out.1.later LQ1.out) (And.intro (SQ.out.2.1.later LQ1.out) (And.intro (SQ.out.2.2.1.later LQ1.out) (SQ.out.2.2.2.later LQ1.out))))
  clear HW11 HX11 HT11 SX11 SQ
  have HK := hid (gsameGauss_eq false a_ ca_ [] b_ cb_ [] false c_ cc_ [] d_ cd_ [] none 0 none 0 none 0 none 0 YQ1 SQ12.out.1 SQ12.out.2.1 SQ12.out.2.2.1 SQ12.out.2.2.2 (kz_nil _) (kz_nil _) (kz_nil _) (kz_nil _) (by decide) (by decide) (by decide) (by decide))
  have clQ1_0 : YQ1.cell? ⟨p1.heap.size, 0, none⟩ = some (.bool false) := GQ1.out.cell 0
  have clQ1_1 : YQ1.cell? ⟨p1.heap.size, 1, none⟩ = some (.slice a_ 0 ca_) := GQ1.out.cell 1
  have clQ1_2 : YQ1.cell? ⟨p1.heap.size, 2, none⟩ = some (.slice b_ 0 cb_) := GQ1.out.cell 2
  have clQ1_3 : YQ1.cell? ⟨p1.heap.size, 3, none⟩ = some (.bool false) := GQ1.out.cell 3
  have clQ1_4 : YQ1.cell? ⟨p1.heap.size, 4, none⟩ = some (.slice c_ 0 cc_) := GQ1.out.cell 4
  have clQ1_5 : YQ1.cell? ⟨p1.heap.size, 5, none⟩ = some (.slice d_ 0 cd_) := GQ1.out.cell 5
  go_wp2_with fail
  refine Calls.mono (HK.out) ?_
  rintro x q1 ⟨rfl, hb_⟩
  clear clQ1_0 clQ1_1 clQ1_2 clQ1_3 clQ1_4 clQ1_5
  have HW13 := hid (bt HW12.out hb_)
  have HX13 := hid (HX12.out.later hb_ HX12.out.lt)
  have HT13 := hid (HT12.out.later hb_ HT12.out.lt)
  have HQ113 := hid (GQ1.out.later hb_ GQ1.out.lt)
  have SX13 := hid (And.intro (SX12.out.1.later hb_) (And.intro (SX12.out.2.1.later hb_) (And.intro (SX12.out.2.2.1.later hb_) (SX12.out.2.2.2.later hb_))))
  have SQ13 := hid (And.intro (SQ12.out.1.later hb_) (And.intro (SQ12.out.2.1.later hb_) (And.intro (SQ12.out.2.2.1.later hb_) (SQ12.out.2.2.2.later hb_))))
  clear HW12 HX12 HT12 GQ1 SX12 SQ12
  clear hb_ HK hs_ SQ13 HQ113
  go_wp2_with fail
  rw [rounds_succ]
  have HR := hid (grefused ⟨#[49, 32, 32, 50]⟩ q1 (by decide) gz2)
  have clT_2 : q1.cell? ⟨YX.heap.size, 2, none⟩ = some (.string ⟨#[49, 32, 32, 50]⟩) := HT13.out.cell 2
  go_wp2_with fail
  refine Calls.mono (HR.out) ?_
  rintro x p2 ⟨a_, ca_, b_, cb_, c_, cc_, d_, cd_, rfl, hs_, hb_⟩
  clear clT_2
  have HW14 := hid (bt HW13.out hb_.out)
  have HX14 := hid (HX13.out.later hb_.out HX13.out.lt)
  have HT14 := hid (HT13.out.later hb_.out HT13.out.lt)
  have SX14 := hid (And.intro (SX13.out.1.later hb_.out) (And.intro (SX13.out.2.1.later hb_.out) (And.intro (SX13.out.2.2.1.later hb_.out) (SX13.out.2.2.2.later hb_.out))))
  clear HW13 HX13 HT13 SX13
  have SQ := hs_
  clear hb_ HR
  have GQ2 := hid (Box.made p2 26 #[.bool false, .slice a_ 0 ca_, .slice b_ 0 cb_, .bool false, .slice c_ 0 cc_, .slice d_ 0 cd_])
  have LQ2 := hid (alloc_later p2 (.cells #[.bool false, .slice a_ 0 ca_, .slice b_ 0 cb_, .bool false, .slice c_ 0 cc_, .slice d_ 0 cd_] 26))
  obtain ⟨YQ2, hYQ2⟩ : ∃ YQ2, p2.alloc (.cells #[.bool false, .slice a_ 0 ca_, .slice b_ 0 cb_, .bool false, .slice c_ 0 cc_, .slice d_ 0 cd_] 26) = YQ2 := ⟨_, rfl⟩
  rw [hYQ2] at GQ2 LQ2
  have HW15 := hid (bt HW14.out LQ2.out)
  have HX15 := hid (HX14.out.later LQ2.out HX14.out.lt)
  have HT15 := hid (HT14.out.later LQ2.out HT14.out.lt)
  have SX15 := hid (And.intro (SX14.out.1.later LQ2.out) (And.intro (SX14.out.2.1.later LQ2.out) (And.intro (SX14.out.2.2.1.later LQ2.out) (SX14.out.2.2.2.later LQ2.out))))
  have SQ15 := hid (And.intro (SQ.out.1.later LQ2.out) (And.intro (SQ.out.2.1.later LQ2.out) (And.intro (SQ.out.2.2.1.later LQ2.out) (SQ.out.2.2.2.later LQ2.out))))
  clear HW14 HX14 HT14 SX14 SQ
  have HK := hid (gsameGauss_eq false a_ ca_ [] b_ cb_ [] false c_ cc_ [] d_ cd_ [] none 0 none 0 none 0 none 0 YQ2 SQ15.out.1 SQ15.out.2.1 SQ15.out.2.2.1 SQ15.out.2.2.2 (kz_nil _) (kz_nil _) (kz_nil _) (kz_nil _) (by decide) (by decide) (by decide) (by decide))
  have clQ2_0 : YQ2.cell? ⟨p2.heap.size, 0, none⟩ = some (.bool false) := GQ2.out.cell 0
  have clQ2_1 : YQ2.cell? ⟨p2.heap.size, 1, none⟩ = some (.slice a_ 0 ca_) := GQ2.out.cell 1
  have clQ2_2 : YQ2.cell? ⟨p2.heap.size, 2, none⟩ = some (.slice b_ 0 cb_) := GQ2.out.cell 2
  have clQ2_3 : YQ2.cell? ⟨p2.heap.size, 3, none⟩ = some (.bool false) := GQ2.out.cell 3
  have clQ2_4 : YQ2.cell? ⟨p2.heap.size, 4, none⟩ = some (.slice c_ 0 cc_) := GQ2.out.cell 4
  have clQ2_5 : YQ2.cell? ⟨p2.heap.size, 5, none⟩ = some (.slice d_ 0 cd_) := GQ2.out.cell 5
  go_wp2_with fail
  refine Calls.mono (HK.out) ?_
  rintro x q2 ⟨rfl, hb_⟩
  clear clQ2_0 clQ2_1 clQ2_2 clQ2_3 clQ2_4 clQ2_5
  have HW16 := hid (bt HW15.out hb_)
  have HX16 := hid (HX15.out.later hb_ HX15.out.lt)
  have HT16 := hid (HT15.out.later hb_ HT15.out.lt)
  have HQ216 := hid (GQ2.out.later hb_ GQ2.out.lt)
  have SX16 := hid (And.intro (SX15.out.1.later hb_) (And.intro (SX15.out.2.1.later hb_) (And.intro (SX15.out.2.2.1.later hb_) (SX15.out.2.2.2.later hb_))))
  have SQ16 := hid (And.intro (SQ15.out.1.later hb_) (And.intro (SQ15.out.2.1.later hb_) (And.intro (SQ15.out.2.2.1.later hb_) (SQ15.out.2.2.2.later hb_))))
  clear HW15 HX15 HT15 GQ2 SX15 SQ15
  clear hb_ HK hs_ SQ16 HQ216
  go_wp2_with fail
  rw [rounds_succ]
  have HR := hid (grefused ⟨#[49, 32, 50, 32, 51]⟩ q2 (by decide) gz3)
  have clT_3 : q2.cell? ⟨YX.heap.size, 3, none⟩ = some (.string ⟨#[49, 32, 50, 32, 51]⟩) := HT16.out.cell 3
  go_wp2_with fail
  refine Calls.mono (HR.out) ?_
  rintro x p3 ⟨a_, ca_, b_, cb_, c_, cc_, d_, cd_, rfl, hs_, hb_⟩
  clear clT_3
  have HW17 := hid (bt HW16.out hb_.out)
  have HX17 := hid (HX16.out.later hb_.out HX16.out.lt)
  have HT17 := hid (HT16.out.later hb_.out HT16.out.lt)
  have SX17 := hid (And.intro (SX16.out.1.later hb_.out) (And.intro (SX16.out.2.1.later hb_.out) (And.intro (SX16.out.2.2.1.later hb_.out) (SX16.out.2.2.2.later hb_.out))))
  clear HW16 HX16 HT16 SX16
  have SQ := hs_
  clear hb_ HR
  have GQ3 := hid (Box.made p3 26 #[.bool false, .slice a_ 0 ca_, .slice b_ 0 cb_, .bool false, .slice c_ 0 cc_, .slice d_ 0 cd_])
  have LQ3 := hid (alloc_later p3 (.cells #[.bool false, .slice a_ 0 ca_, .slice b_ 0 cb_, .bool false, .slice c_ 0 cc_, .slice d_ 0 cd_] 26))
  obtain ⟨YQ3, hYQ3⟩ : ∃ YQ3, p3.alloc (.cells #[.bool false, .slice a_ 0 ca_, .slice b_ 0 cb_, .bool false, .slice c_ 0 cc_, .slice d_ 0 cd_] 26) = YQ3 := ⟨_, rfl⟩
  rw [hYQ3] at GQ3 LQ3
  have HW18 := hid (bt HW17.out LQ3.out)
  have HX18 := hid (HX17.out.later LQ3.out HX17.out.lt)
  have HT18 := hid (HT17.out.later LQ3.out HT17.out.lt)
  have SX18 := hid (And.intro (SX17.out.1.later LQ3.out) (And.intro (SX17.out.2.1.later LQ3.out) (And.intro (SX17.out.2.2.1.later LQ3.out) (SX17.out.2.2.2.later LQ3.out))))
  have SQ18 := hid (And.intro (SQ.out.1.later LQ3.out) (And.intro (SQ.out.2.1.later LQ3.out) (And.intro (SQ.out.2.2.1.later LQ3.out) (SQ.out.2.2.2.later LQ3.out))))
  clear HW17 HX17 HT17 SX17 SQ
  have HK := hid (gsameGauss_eq false a_ ca_ [] b_ cb_ [] false c_ cc_ [] d_ cd_ [] none 0 none 0 none 0 none 0 YQ3 SQ18.out.1 SQ18.out.2.1 SQ18.out.2.2.1 SQ18.out.2.2.2 (kz_nil _) (kz_nil _) (kz_nil _) (kz_nil _) (by decide) (by decide) (by decide) (by decide))
  have clQ3_0 : YQ3.cell? ⟨p3.heap.size, 0, none⟩ = some (.bool false) := GQ3.out.cell 0
  have clQ3_1 : YQ3.cell? ⟨p3.heap.size, 1, none⟩ = some (.slice a_ 0 ca_) := GQ3.out.cell 1
  have clQ3_2 : YQ3.cell? ⟨p3.heap.size, 2, none⟩ = some (.slice b_ 0 cb_) := GQ3.out.cell 2
  have clQ3_3 : YQ3.cell? ⟨p3.heap.size, 3, none⟩ = some (.bool false) := GQ3.out.cell 3
  have clQ3_4 : YQ3.cell? ⟨p3.heap.size, 4, none⟩ = some (.slice c_ 0 cc_) := GQ3.out.cell 4
  have clQ3_5 : YQ3.cell? ⟨p3.heap.size, 5, none⟩ = some (.slice d_ 0 cd_) := GQ3.out.cell 5
  go_wp2_with fail
  refine Calls.mono (HK.out) ?_
  rintro x q3 ⟨rfl, hb_⟩
  clear clQ3_0 clQ3_1 clQ3_2 clQ3_3 clQ3_4 clQ3_5
  have HW19 := hid (bt HW18.out hb_)
  have HX19 := hid (HX18.out.later hb_ HX18.out.lt)
  have HT19 := hid (HT18.out.later hb_ HT18.out.lt)
  have HQ319 := hid (GQ3.out.later hb_ GQ3.out.lt)
  have SX19 := hid (And.intro (SX18.out.1.later hb_) (And.intro (SX18.out.2.1.later hb_) (And.intro (SX18.out.2.2.1.later hb_) (SX18.out.2.2.2.later hb_))))
  have SQ19 := hid (And.intro (SQ18.out.1.later hb_) (And.intro (SQ18.out.2.1.later hb_) (And.intro (SQ18.out.2.2.1.later hb_) (SQ18.out.2.2.2.later hb_))))
  clear HW18 HX18 HT18 GQ3 SX18 SQ18
  clear hb_ HK hs_ SQ19 HQ319
  go_wp2_with fail
  rw [rounds_succ]
  have HR := hid (grefused ⟨#[49, 32, 50, 105]⟩ q3 (by decide) gz4)
  have clT_4 : q3.cell? ⟨YX.heap.size, 4, none⟩ = some (.string ⟨#[49, 32, 50, 105]⟩) := HT19.out.cell 4
  go_wp2_with fail
  refine Calls.mono (HR.out) ?_
  rintro x p4 ⟨a_, ca_, b_, cb_, c_, cc_, d_, cd_, rfl, hs_, hb_⟩
  clear clT_4
  have HW20 := hid (bt HW19.out hb_.out)
  have HX20 := hid (HX19.out.later hb_.out HX19.out.lt)
  have HT20 := hid (HT19.out.later hb_.out HT19.out.lt)
  have SX20 := hid (And.intro (SX19.out.1.later hb_.out) (And.intro (SX19.out.2.1.later hb_.out) (And.intro (SX19.out.2.2.1.later hb_.out) (SX19.out.2.2.2.later hb_.out))))
  clear HW19 HX19 HT19 SX19
  have SQ := hs_
  clear hb_ HR
  have GQ4 := hid (Box.made p4 26 #[.bool false, .slice a_ 0 ca_, .slice b_ 0 cb_, .bool false, .slice c_ 0 cc_, .slice d_ 0 cd_])
  have LQ4 := hid (alloc_later p4 (.cells #[.bool false, .slice a_ 0 ca_, .slice b_ 0 cb_, .bool false, .slice c_ 0 cc_, .slice d_ 0 cd_] 26))
  obtain ⟨YQ4, hYQ4⟩ : ∃ YQ4, p4.alloc (.cells #[.bool false, .slice a_ 0 ca_, .slice b_ 0 cb_, .bool false, .slice c_ 0 cc_, .slice d_ 0 cd_] 26) = YQ4 := ⟨_, rfl⟩
  rw [hYQ4] at GQ4 LQ4
  have HW21 := hid (bt HW20.out LQ4.out)
  have HX21 := hid (HX20.out.later LQ4.out HX20.out.lt)
  have HT21 := hid (HT20.out.later LQ4.out HT20.out.lt)
  have SX21 := hid (And.intro (SX20.out.1.later LQ4.out) (And.intro (SX20.out.2.1.later LQ4.out) (And.intro (SX20.out.2.2.1.later LQ4.out) (SX20.out.2.2.2.later LQ4.out))))
  have SQ21 := hid (And.intro (SQ.out.1.later LQ4.out) (And.intro (SQ.out.2.1.later LQ4.out) (And.intro (SQ.out.2.2.1.later LQ4.out) (SQ.out.2.2.2.later LQ4.out))))
  clear HW20 HX20 HT20 SX20 SQ
  have HK := hid (gsameGauss_eq false a_ ca_ [] b_ cb_ [] false c_ cc_ [] d_ cd_ [] none 0 none 0 none 0 none 0 YQ4 SQ21.out.1 SQ21.out.2.1 SQ21.out.2.2.1 SQ21.out.2.2.2 (kz_nil _) (kz_nil _) (kz_nil _) (kz_nil _) (by decide) (by decide) (by decide) (by decide))
  have clQ4_0 : YQ4.cell? ⟨p4.heap.size, 0, none⟩ = some (.bool false) := GQ4.out.cell 0
  have clQ4_1 : YQ4.cell? ⟨p4.heap.size, 1, none⟩ = some (.slice a_ 0 ca_) := GQ4.out.cell 1
  have clQ4_2 : YQ4.cell? ⟨p4.heap.size, 2, none⟩ = some (.slice b_ 0 cb_) := GQ4.out.cell 2
  have clQ4_3 : YQ4.cell? ⟨p4.heap.size, 3, none⟩ = some (.bool false) := GQ4.out.cell 3
  have clQ4_4 : YQ4.cell? ⟨p4.heap.size, 4, none⟩ = some (.slice c_ 0 cc_) := GQ4.out.cell 4
  have clQ4_5 : YQ4.cell? ⟨p4.heap.size, 5, none⟩ = some (.slice d_ 0 cd_) := GQ4.out.cell 5
  go_wp2_with fail
  refine Calls.mono (HK.out) ?_
  rintro x q4 ⟨rfl, hb_⟩
  clear clQ4_0 clQ4_1 clQ4_2 clQ4_3 clQ4_4 clQ4_5
  have HW22 := hid (bt HW21.out hb_)
  have HX22 := hid (HX21.out.later hb_ HX21.out.lt)
  have HT22 := hid (HT21.out.later hb_ HT21.out.lt)
  have HQ422 := hid (GQ4.out.later hb_ GQ4.out.lt)
  have SX22 := hid (And.intro (SX21.out.1.later hb_) (And.intro (SX21.out.2.1.later hb_) (And.intro (SX21.out.2.2.1.later hb_) (SX21.out.2.2.2.later hb_))))
  have SQ22 := hid (And.intro (SQ21.out.1.later hb_) (And.intro (SQ21.out.2.1.later hb_) (And.intro (SQ21.out.2.2.1.later hb_) (SQ21.out.2.2.2.later hb_))))
  clear HW21 HX21 HT21 GQ4 SX21 SQ21
  clear hb_ HK hs_ SQ22 HQ422
  go_wp2_with fail
  rw [rounds_succ]
  have HR := hid (grefused ⟨#[]⟩ q4 (by decide) gz5)
  have clT_5 : q4.cell? ⟨YX.heap.size, 5, none⟩ = some (.string ⟨#[]⟩) := HT22.out.cell 5
  go_wp2_with fail
  refine Calls.mono (HR.out) ?_
  rintro x p5 ⟨a_, ca_, b_, cb_, c_, cc_, d_, cd_, rfl, hs_, hb_⟩
  clear clT_5
  have HW23 := hid (bt HW22.out hb_.out)
  have HX23 := hid (HX22.out.later hb_.out HX22.out.lt)
  have HT23 := hid (HT22.out.later hb_.out HT22.out.lt)
  have SX23 := hid (And.intro (SX22.out.1.later hb_.out) (And.intro (SX22.out.2.1.later hb_.out) (And.intro (SX22.out.2.2.1.later hb_.out) (SX22.out.2.2.2.later hb_.out))))
  clear HW22 HX22 HT22 SX22
  have SQ := hs_
  clear hb_ HR
  have GQ5 := hid (Box.made p5 26 #[.bool false, .slice a_ 0 ca_, .slice b_ 0 cb_, .bool false, .slice c_ 0 cc_, .slice d_ 0 cd_])
  have LQ5 := hid (alloc_later p5 (.cells #[.bool false, .slice a_ 0 ca_, .slice b_ 0 cb_, .bool false, .slice c_ 0 cc_, .slice d_ 0 cd_] 26))
  obtain ⟨YQ5, hYQ5⟩ : ∃ YQ5, p5.alloc (.cells #[.bool false, .slice a_ 0 ca_, .slice b_ 0 cb_, .bool false, .slice c_ 0 cc_, .slice d_ 0 cd_] 26) = YQ5 := ⟨_, rfl⟩
  rw [hYQ5] at GQ5 LQ5
  have HW24 := hid (bt HW23.out LQ5.out)
  have HX24 := hid (HX23.out.later LQ5.out HX23.out.lt)
  have HT24 := hid (HT23.out.later LQ5.out HT23.out.lt)
  have SX24 := hid (And.intro (SX23.out.1.later LQ5.out) (And.intro (SX23.out.2.1.later LQ5.out) (And.intro (SX23.out.2.2.1.later LQ5.out) (SX23.out.2.2.2.later LQ5.out))))
  have SQ24 := hid (And.intro (SQ.out.1.later LQ5.out) (And.intro (SQ.out.2.1.later LQ5.out) (And.intro (SQ.out.2.2.1.later LQ5.out) (SQ.out.2.2.2.later LQ5.out))))
  clear HW23 HX23 HT23 SX23 SQ
  have HK := hid (gsameGauss_eq false a_ ca_ [] b_ cb_ [] false c_ cc_ [] d_ cd_ [] none 0 none 0 none 0 none 0 YQ5 SQ24.out.1 SQ24.out.2.1 SQ24.out.2.2.1 SQ24.out.2.2.2 (kz_nil _) (kz_nil _) (kz_nil _) (kz_nil _) (by decide) (by decide) (by decide) (by decide))
  have clQ5_0 : YQ5.cell? ⟨p5.heap.size, 0, none⟩ = some (.bool false) := GQ5.out.cell 0
  have clQ5_1 : YQ5.cell? ⟨p5.heap.size, 1, none⟩ = some (.slice a_ 0 ca_) := GQ5.out.cell 1
  have clQ5_2 : YQ5.cell? ⟨p5.heap.size, 2, none⟩ = some (.slice b_ 0 cb_) := GQ5.out.cell 2
  have clQ5_3 : YQ5.cell? ⟨p5.heap.size, 3, none⟩ = some (.bool false) := GQ5.out.cell 3
  have clQ5_4 : YQ5.cell? ⟨p5.heap.size, 4, none⟩ = some (.slice c_ 0 cc_) := GQ5.out.cell 4
  have clQ5_5 : YQ5.cell? ⟨p5.heap.size, 5, none⟩ = some (.slice d_ 0 cd_) := GQ5.out.cell 5
  go_wp2_with fail
  refine Calls.mono (HK.out) ?_
  rintro x q5 ⟨rfl, hb_⟩
  clear clQ5_0 clQ5_1 clQ5_2 clQ5_3 clQ5_4 clQ5_5
  have HW25 := hid (bt HW24.out hb_)
  have HX25 := hid (HX24.out.later hb_ HX24.out.lt)
  have HT25 := hid (HT24.out.later hb_ HT24.out.lt)
  have HQ525 := hid (GQ5.out.later hb_ GQ5.out.lt)
  have SX25 := hid (And.intro (SX24.out.1.later hb_) (And.intro (SX24.out.2.1.later hb_) (And.intro (SX24.out.2.2.1.later hb_) (SX24.out.2.2.2.later hb_))))
  have SQ25 := hid (And.intro (SQ24.out.1.later hb_) (And.intro (SQ24.out.2.1.later hb_) (And.intro (SQ24.out.2.2.1.later hb_) (SQ24.out.2.2.2.later hb_))))
  clear HW24 HX24 HT24 GQ5 SX24 SQ24
  clear hb_ HK hs_ SQ25 HQ525
  go_wp2_with fail
  rw [rounds_succ]
  have HR := hid (grefused ⟨#[32]⟩ q5 (by decide) gz6)
  have clT_6 : q5.cell? ⟨YX.heap.size, 6, none⟩ = some (.string ⟨#[32]⟩) := HT25.out.cell 6
  go_wp2_with fail
  refine Calls.mono (HR.out) ?_
  rintro x p6 ⟨a_, ca_, b_, cb_, c_, cc_, d_, cd_, rfl, hs_, hb_⟩
  clear clT_6
  have HW26 := hid (bt HW25.out hb_.out)
  have HX26 := hid (HX25.out.later hb_.out HX25.out.lt)
  have HT26 := hid (HT25.out.later hb_.out HT25.out.lt)
  have SX26 := hid (And.intro (SX25.out.1.later hb_.out) (And.intro (SX25.out.2.1.later hb_.out) (And.intro (SX25.out.2.2.1.later hb_.out) (SX25.out.2.2.2.later hb_.out))))
  clear HW25 HX25 HT25 SX25
  have SQ := hs_
  clear hb_ HR
  have GQ6 := hid (Box.made p6 26 #[.bool false, .slice a_ 0 ca_, .slice b_ 0 cb_, .bool false, .slice c_ 0 cc_, .slice d_ 0 cd_])
  have LQ6 := hid (alloc_later p6 (.cells #[.bool false, .slice a_ 0 ca_, .slice b_ 0 cb_, .bool false, .slice c_ 0 cc_, .slice d_ 0 cd_] 26))
  obtain ⟨YQ6, hYQ6⟩ : ∃ YQ6, p6.alloc (.cells #[.bool false, .slice a_ 0 ca_, .slice b_ 0 cb_, .bool false, .slice c_ 0 cc_, .slice d_ 0 cd_] 26) = YQ6 := ⟨_, rfl⟩
  rw [hYQ6] at GQ6 LQ6
  have HW27 := hid (bt HW26.out LQ6.out)
  have HX27 := hid (HX26.out.later LQ6.out HX26.out.lt)
  have HT27 := hid (HT26.out.later LQ6.out HT26.out.lt)
  have SX27 := hid (And.intro (SX26.out.1.later LQ6.out) (And.intro (SX26.out.2.1.later LQ6.out) (And.intro (SX26.out.2.2.1.later LQ6.out) (SX26.out.2.2.2.later LQ6.out))))
  have SQ27 := hid (And.intro (SQ.out.1.later LQ6.out) (And.intro (SQ.out.2.1.later LQ6.out) (And.intro (SQ.out.2.2.1.later LQ6.out) (SQ.out.2.2.2.later LQ6.out))))
  clear HW26 HX26 HT26 SX26 SQ
  have HK := hid (gsameGauss_eq false a_ ca_ [] b_ cb_ [] false c_ cc_ [] d_ cd_ [] none 0 none 0 none 0 none 0 YQ6 SQ27.out.1 SQ27.out.2.1 SQ27.out.2.2.1 SQ27.out.2.2.2 (kz_nil _) (kz_nil _) (kz_nil _) (kz_nil _) (by decide) (by decide) (by decide) (by decide))
  have clQ6_0 : YQ6.cell? ⟨p6.heap.size, 0, none⟩ = some (.bool false) := GQ6.out.cell 0
  have clQ6_1 : YQ6.cell? ⟨p6.heap.size, 1, none⟩ = some (.slice a_ 0 ca_) := GQ6.out.cell 1
  have clQ6_2 : YQ6.cell? ⟨p6.heap.size, 2, none⟩ = some (.slice b_ 0 cb_) := GQ6.out.cell 2
  have clQ6_3 : YQ6.cell? ⟨p6.heap.size, 3, none⟩ = some (.bool false) := GQ6.out.cell 3
  have clQ6_4 : YQ6.cell? ⟨p6.heap.size, 4, none⟩ = some (.slice c_ 0 cc_) := GQ6.out.cell 4
  have clQ6_5 : YQ6.cell? ⟨p6.heap.size, 5, none⟩ = some (.slice d_ 0 cd_) := GQ6.out.cell 5
  go_wp2_with fail
  refine Calls.mono (HK.out) ?_
  rintro x q6 ⟨rfl, hb_⟩
  clear clQ6_0 clQ6_1 clQ6_2 clQ6_3 clQ6_4 clQ6_5
  have HW28 := hid (bt HW27.out hb_)
  have HX28 := hid (HX27.out.later hb_ HX27.out.lt)
  have HT28 := hid (HT27.out.later hb_ HT27.out.lt)
  have HQ628 := hid (GQ6.out.later hb_ GQ6.out.lt)
  have SX28 := hid (And.intro (SX27.out.1.later hb_) (And.intro (SX27.out.2.1.later hb_) (And.intro (SX27.out.2.2.1.later hb_) (SX27.out.2.2.2.later hb_))))
  have SQ28 := hid (And.intro (SQ27.out.1.later hb_) (And.intro (SQ27.out.2.1.later hb_) (And.intro (SQ27.out.2.2.1.later hb_) (SQ27.out.2.2.2.later hb_))))
  clear HW27 HX27 HT27 GQ6 SX27 SQ27
  clear hb_ HK hs_ SQ28 HQ628
  go_wp2_with fail
  rw [rounds_succ]
  have HR := hid (grefused ⟨#[49, 32]⟩ q6 (by decide) gz7)
  have clT_7 : q6.cell? ⟨YX.heap.size, 7, none⟩ = some (.string ⟨#[49, 32]⟩) := HT28.out.cell 7
  go_wp2_with fail
  refine Calls.mono (HR.out) ?_
  rintro x p7 ⟨a_, ca_, b_, cb_, c_, cc_, d_, cd_, rfl, hs_, hb_⟩
  clear clT_7
  have HW29 := hid (bt HW28.out hb_.out)
  have HX29 := hid (HX28.out.later hb_.out HX28.out.lt)
  have HT29 := hid (HT28.out.later hb_.out HT28.out.lt)
  have SX29 := hid (And.intro (SX28.out.1.later hb_.out) (And.intro (SX28.out.2.1.later hb_.out) (And.intro (SX28.out.2.2.1.later hb_.out) (SX28.out.2.2.2.later hb_.out))))
  clear HW28 HX28 HT28 SX28
  have SQ := hs_
  clear hb_ HR
  have GQ7 := hid (Box.made p7 26 #[.bool false, .slice a_ 0 ca_, .slice b_ 0 cb_, .bool false, .slice c_ 0 cc_, .slice d_ 0 cd_])
  have LQ7 := hid (alloc_later p7 (.cells #[.bool false, .slice a_ 0 ca_, .slice b_ 0 cb_, .bool false, .slice c_ 0 cc_, .slice d_ 0 cd_] 26))
  obtain ⟨YQ7, hYQ7⟩ : ∃ YQ7, p7.alloc (.cells #[.bool false, .slice a_ 0 ca_, .slice b_ 0 cb_, .bool false, .slice c_ 0 cc_, .slice d_ 0 cd_] 26) = YQ7 := ⟨_, rfl⟩
  rw [hYQ7] at GQ7 LQ7
  have HW30 := hid (bt HW29.out LQ7.out)
  have HX30 := hid (HX29.out.later LQ7.out HX29.out.lt)
  have HT30 := hid (HT29.out.later LQ7.out HT29.out.lt)
  have SX30 := hid (And.intro (SX29.out.1.later LQ7.out) (And.intro (SX29.out.2.1.later LQ7.out) (And.intro (SX29.out.2.2.1.later LQ7.out) (SX29.out.2.2.2.later LQ7.out))))
  have SQ30 := hid (And.intro (SQ.out.1.later LQ7.out) (And.intro (SQ.out.2.1.later LQ7.out) (And.intro (SQ.out.2.2.1.later LQ7.out) (SQ.out.2.2.2.later LQ7.out))))
  clear HW29 HX29 HT29 SX29 SQ
  have HK := hid (gsameGauss_eq false a_ ca_ [] b_ cb_ [] false c_ cc_ [] d_ cd_ [] none 0 none 0 none 0 none 0 YQ7 SQ30.out.1 SQ30.out.2.1 SQ30.out.2.2.1 SQ30.out.2.2.2 (kz_nil _) (kz_nil _) (kz_nil _) (kz_nil _) (by decide) (by decide) (by decide) (by decide))
  have clQ7_0 : YQ7.cell? ⟨p7.heap.size, 0, none⟩ = some (.bool false) := GQ7.out.cell 0
  have clQ7_1 : YQ7.cell? ⟨p7.heap.size, 1, none⟩ = some (.slice a_ 0 ca_) := GQ7.out.cell 1
  have clQ7_2 : YQ7.cell? ⟨p7.heap.size, 2, none⟩ = some (.slice b_ 0 cb_) := GQ7.out.cell 2
  have clQ7_3 : YQ7.cell? ⟨p7.heap.size, 3, none⟩ = some (.bool false) := GQ7.out.cell 3
  have clQ7_4 : YQ7.cell? ⟨p7.heap.size, 4, none⟩ = some (.slice c_ 0 cc_) := GQ7.out.cell 4
  have clQ7_5 : YQ7.cell? ⟨p7.heap.size, 5, none⟩ = some (.slice d_ 0 cd_) := GQ7.out.cell 5
  go_wp2_with fail
  refine Calls.mono (HK.out) ?_
  rintro x q7 ⟨rfl, hb_⟩
  clear clQ7_0 clQ7_1 clQ7_2 clQ7_3 clQ7_4 clQ7_5
  have HW31 := hid (bt HW30.out hb_)
  have HX31 := hid (HX30.out.later hb_ HX30.out.lt)
  have HT31 := hid (HT30.out.later hb_ HT30.out.lt)
  have HQ731 := hid (GQ7.out.later hb_ GQ7.out.lt)
  have SX31 := hid (And.intro (SX30.out.1.later hb_) (And.intro (SX30.out.2.1.later hb_) (And.intro (SX30.out.2.2.1.later hb_) (SX30.out.2.2.2.later hb_))))
  have SQ31 := hid (And.intro (SQ30.out.1.later hb_) (And.intro (SQ30.out.2.1.later hb_) (And.intro (SQ30.out.2.2.1.later hb_) (SQ30.out.2.2.2.later hb_))))
  clear HW30 HX30 HT30 GQ7 SX30 SQ30
  clear hb_ HK hs_ SQ31 HQ731
  go_wp2_with fail
  rw [rounds_succ]
  have HR := hid (grefused ⟨#[32, 49]⟩ q7 (by decide) gz8)
  have clT_8 : q7.cell? ⟨YX.heap.size, 8, none⟩ = some (.string ⟨#[32, 49]⟩) := HT31.out.cell 8
  go_wp2_with fail
  refine Calls.mono (HR.out) ?_
  rintro x p8 ⟨a_, ca_, b_, cb_, c_, cc_, d_, cd_, rfl, hs_, hb_⟩
  clear clT_8
  have HW32 := hid (bt HW31.out hb_.out)
  have HX32 := hid (HX31.out.later hb_.out HX31.out.lt)
  have HT32 := hid (HT31.out.later hb_.out HT31.out.lt)
  have SX32 := hid (And.intro (SX31.out.1.later hb_.out) (And.intro (SX31.out.2.1.later hb_.out) (And.intro (SX31.out.2.2.1.later hb_.out) (SX31.out.2.2.2.later hb_.out))))
  clear HW31 HX31 HT31 SX31
  have SQ := hs_
  clear hb_ HR
  have GQ8 := hid (Box.made p8 26 #[.bool false, .slice a_ 0 ca_, .slice b_ 0 cb_, .bool false, .slice c_ 0 cc_, .slice d_ 0 cd_])
  have LQ8 := hid (alloc_later p8 (.cells #[.bool false, .slice a_ 0 ca_, .slice b_ 0 cb_, .bool false, .slice c_ 0 cc_, .slice d_ 0 cd_] 26))
  obtain ⟨YQ8, hYQ8⟩ : ∃ YQ8, p8.alloc (.cells #[.bool false, .slice a_ 0 ca_, .slice b_ 0 cb_, .bool false, .slice c_ 0 cc_, .slice d_ 0 cd_] 26) = YQ8 := ⟨_, rfl⟩
  rw [hYQ8] at GQ8 LQ8
  have HW33 := hid (bt HW32.out LQ8.out)
  have HX33 := hid (HX32.out.later LQ8.out HX32.out.lt)
  have HT33 := hid (HT32.out.later LQ8.out HT32.out.lt)
  have SX33 := hid (And.intro (SX32.out.1.later LQ8.out) (And.intro (SX32.out.2.1.later LQ8.out) (And.intro (SX32.out.2.2.1.later LQ8.out) (SX32.out.2.2.2.later LQ8.out))))
  have SQ33 := hid (And.intro (SQ.out.1.later LQ8.out) (And.intro (SQ.out.2.1.later LQ8.out) (And.intro (SQ.out.2.2.1.later LQ8.out) (SQ.out.2.2.2.later LQ8.out))))
  clear HW32 HX32 HT32 SX32 SQ
  have HK := hid (gsameGauss_eq false a_ ca_ [] b_ cb_ [] false c_ cc_ [] d_ cd_ [] none 0 none 0 none 0 none 0 YQ8 SQ33.out.1 SQ33.out.2.1 SQ33.out.2.2.1 SQ33.out.2.2.2 (kz_nil _) (kz_nil _) (kz_nil _) (kz_nil _) (by decide) (by decide) (by decide) (by decide))
  have clQ8_0 : YQ8.cell? ⟨p8.heap.size, 0, none⟩ = some (.bool false) := GQ8.out.cell 0
  have clQ8_1 : YQ8.cell? ⟨p8.heap.size, 1, none⟩ = some (.slice a_ 0 ca_) := GQ8.out.cell 1
  have clQ8_2 : YQ8.cell? ⟨p8.heap.size, 2, none⟩ = some (.slice b_ 0 cb_) := GQ8.out.cell 2
  have clQ8_3 : YQ8.cell? ⟨p8.heap.size, 3, none⟩ = some (.bool false) := GQ8.out.cell 3
  have clQ8_4 : YQ8.cell? ⟨p8.heap.size, 4, none⟩ = some (.slice c_ 0 cc_) := GQ8.out.cell 4
  have clQ8_5 : YQ8.cell? ⟨p8.heap.size, 5, none⟩ = some (.slice d_ 0 cd_) := GQ8.out.cell 5
  go_wp2_with fail
  refine Calls.mono (HK.out) ?_
  rintro x q8 ⟨rfl, hb_⟩
  clear clQ8_0 clQ8_1 clQ8_2 clQ8_3 clQ8_4 clQ8_5
  have HW34 := hid (bt HW33.out hb_)
  have HX34 := hid (HX33.out.later hb_ HX33.out.lt)
  have HT34 := hid (HT33.out.later hb_ HT33.out.lt)
  have HQ834 := hid (GQ8.out.later hb_ GQ8.out.lt)
  have SX34 := hid (And.intro (SX33.out.1.later hb_) (And.intro (SX33.out.2.1.later hb_) (And.intro (SX33.out.2.2.1.later hb_) (SX33.out.2.2.2.later hb_))))
  have SQ34 := hid (And.intro (SQ33.out.1.later hb_) (And.intro (SQ33.out.2.1.later hb_) (And.intro (SQ33.out.2.2.1.later hb_) (SQ33.out.2.2.2.later hb_))))
  clear HW33 HX33 HT33 GQ8 SX33 SQ33
  clear hb_ HK hs_ SQ34 HQ834
  go_wp2_with fail
  rw [rounds_succ]
  have HR := hid (grefused ⟨#[45, 48, 32, 48]⟩ q8 (by decide) gz9)
  have clT_9 : q8.cell? ⟨YX.heap.size, 9, none⟩ = some (.string ⟨#[45, 48, 32, 48]⟩) := HT34.out.cell 9
  go_wp2_with fail
  refine Calls.mono (HR.out) ?_
  rintro x p9 ⟨a_, ca_, b_, cb_, c_, cc_, d_, cd_, rfl, hs_, hb_⟩
  clear clT_9
  have HW35 := hid (bt HW34.out hb_.out)
  have HX35 := hid (HX34.out.later hb_.out HX34.out.lt)
  have HT35 := hid (HT34.out.later hb_.out HT34.out.lt)
  have SX35 := hid (And.intro (SX34.out.1.later hb_.out) (And.intro (SX34.out.2.1.later hb_.out) (And.intro (SX34.out.2.2.1.later hb_.out) (SX34.out.2.2.2.later hb_.out))))
  clear HW34 HX34 HT34 SX34
  have SQ := hs_
  clear hb_ HR
  have GQ9 := hid (Box.made p9 26 #[.bool false, .slice a_ 0 ca_, .slice b_ 0 cb_, .bool false, .slice c_ 0 cc_, .slice d_ 0 cd_])
  have LQ9 := hid (alloc_later p9 (.cells #[.bool false, .slice a_ 0 ca_, .slice b_ 0 cb_, .bool false, .slice c_ 0 cc_, .slice d_ 0 cd_] 26))
  obtain ⟨YQ9, hYQ9⟩ : ∃ YQ9, p9.alloc (.cells #[.bool false, .slice a_ 0 ca_, .slice b_ 0 cb_, .bool false, .slice c_ 0 cc_, .slice d_ 0 cd_] 26) = YQ9 := ⟨_, rfl⟩
  rw [hYQ9] at GQ9 LQ9
  have HW36 := hid (bt HW35.out LQ9.out)
  have HX36 := hid (HX35.out.later LQ9.out HX35.out.lt)
  have HT36 := hid (HT35.out.later LQ9.out HT35.out.lt)
  have SX36 := hid (And.intro (SX35.out.1.later LQ9.out) (And.intro (SX35.out.2.1.later LQ9.out) (And.intro (SX35.out.2.2.1.later LQ9.out) (SX35.out.2.2.2.later LQ9.out))))
  have SQ36 := hid (And.intro (SQ.out.1.later LQ9.out) (And.intro (SQ.out.2.1.later LQ9.out) (And.intro (SQ.out.2.2.1.later LQ9.out) (SQ.out.2.2.2.later LQ9.out))))
  clear HW35 HX35 HT35 SX35 SQ
  have HK := hid (gsameGauss_eq false a_ ca_ [] b_ cb_ [] false c_ cc_ [] d_ cd_ [] none 0 none 0 none 0 none 0 YQ9 SQ36.out.1 SQ36.out.2.1 SQ36.out.2.2.1 SQ36.out.2.2.2 (kz_nil _) (kz_nil _) (kz_nil _) (kz_nil _) (by decide) (by decide) (by decide) (by decide))
  have clQ9_0 : YQ9.cell? ⟨p9.heap.size, 0, none⟩ = some (.bool false) := GQ9.out.cell 0
  have clQ9_1 : YQ9.cell? ⟨p9.heap.size, 1, none⟩ = some (.slice a_ 0 ca_) := GQ9.out.cell 1
  have clQ9_2 : YQ9.cell? ⟨p9.heap.size, 2, none⟩ = some (.slice b_ 0 cb_) := GQ9.out.cell 2
  have clQ9_3 : YQ9.cell? ⟨p9.heap.size, 3, none⟩ = some (.bool false) := GQ9.out.cell 3
  have clQ9_4 : YQ9.cell? ⟨p9.heap.size, 4, none⟩ = some (.slice c_ 0 cc_) := GQ9.out.cell 4
  have clQ9_5 : YQ9.cell? ⟨p9.heap.size, 5, none⟩ = some (.slice d_ 0 cd_) := GQ9.out.cell 5
  go_wp2_with fail
  refine Calls.mono (HK.out) ?_
  rintro x q9 ⟨rfl, hb_⟩
  clear clQ9_0 clQ9_1 clQ9_2 clQ9_3 clQ9_4 clQ9_5
  have HW37 := hid (bt HW36.out hb_)
  have HX37 := hid (HX36.out.later hb_ HX36.out.lt)
  have HT37 := hid (HT36.out.later hb_ HT36.out.lt)
  have HQ937 := hid (GQ9.out.later hb_ GQ9.out.lt)
  have SX37 := hid (And.intro (SX36.out.1.later hb_) (And.intro (SX36.out.2.1.later hb_) (And.intro (SX36.out.2.2.1.later hb_) (SX36.out.2.2.2.later hb_))))
  have SQ37 := hid (And.intro (SQ36.out.1.later hb_) (And.intro (SQ36.out.2.1.later hb_) (And.intro (SQ36.out.2.2.1.later hb_) (SQ36.out.2.2.2.later hb_))))
  clear HW36 HX36 HT36 GQ9 SX36 SQ36
  clear hb_ HK hs_ SQ37 HQ937
  go_wp2_with fail
  rw [rounds_succ]
  have HR := hid (grefused ⟨#[49, 47, 49, 32, 48]⟩ q9 (by decide) gz10)
  have clT_10 : q9.cell? ⟨YX.heap.size, 10, none⟩ = some (.string ⟨#[49, 47, 49, 32, 48]⟩) := HT37.out.cell 10
  go_wp2_with fail
  refine Calls.mono (HR.out) ?_
  rintro x p10 ⟨a_, ca_, b_, cb_, c_, cc_, d_, cd_, rfl, hs_, hb_⟩
  clear clT_10
  have HW38 := hid (bt HW37.out hb_.out)
  have HX38 := hid (HX37.out.later hb_.out HX37.out.lt)
  have HT38 := hid (HT37.out.later hb_.out HT37.out.lt)
  have SX38 := hid (And.intro (SX37.out.1.later hb_.out) (And.intro (SX37.out.2.1.later hb_.out) (And.intro (SX37.out.2.2.1.later hb_.out) (SX37.out.2.2.2.later hb_.out))))
  clear HW37 HX37 HT37 SX37
  have SQ := hs_
  clear hb_ HR
  have GQ10 := hid (Box.made p10 26 #[.bool false, .slice a_ 0 ca_, .slice b_ 0 cb_, .bool false, .slice c_ 0 cc_, .slice d_ 0 cd_])
  have LQ10 := hid (alloc_later p10 (.cells #[.bool false, .slice a_ 0 ca_, .slice b_ 0 cb_, .bool false, .slice c_ 0 cc_, .slice d_ 0 cd_] 26))
  obtain ⟨YQ10, hYQ10⟩ : ∃ YQ10, p10.alloc (.cells #[.bool false, .slice a_ 0 ca_, .slice b_ 0 cb_, .bool false, .slice c_ 0 cc_, .slice d_ 0 cd_] 26) = YQ10 := ⟨_, rfl⟩
  rw [hYQ10] at GQ10 LQ10
  have HW39 := hid (bt HW38.out LQ10.out)
  have HX39 := hid (HX38.out.later LQ10.out HX38.out.lt)
  have HT39 := hid (HT38.out.later LQ10.out HT38.out.lt)
  have SX39 := hid (And.intro (SX38.out.1.later LQ10.out) (And.intro (SX38.out.2.1.later LQ10.out) (And.intro (SX38.out.2.2.1.later LQ10.out) (SX38.out.2.2.2.later LQ10.out))))
  have SQ39 := hid (And.intro (SQ.out.1.later LQ10.out) (And.intro (SQ.out.2.1.later LQ10.out) (And.intro (SQ.out.2.2.1.later LQ10.out) (SQ.out.2.2.2.later LQ10.out))))
  clear HW38 HX38 HT38 SX38 SQ
  have HK := hid (gsameGauss_eq false a_ ca_ [] b_ cb_ [] false c_ cc_ [] d_ cd_ [] none 0 none 0 none 0 none 0 YQ10 SQ39.out.1 SQ39.out.2.1 SQ39.out.2.2.1 SQ39.out.2.2.2 (kz_nil _) (kz_nil _) (kz_nil _) (kz_nil _) (by decide) (by decide) (by decide) (by decide))
  have clQ10_0 : YQ10.cell? ⟨p10.heap.size, 0, none⟩ = some (.bool false) := GQ10.out.cell 0
  have clQ10_1 : YQ10.cell? ⟨p10.heap.size, 1, none⟩ = some (.slice a_ 0 ca_) := GQ10.out.cell 1
  have clQ10_2 : YQ10.cell? ⟨p10.heap.size, 2, none⟩ = some (.slice b_ 0 cb_) := GQ10.out.cell 2
  have clQ10_3 : YQ10.cell? ⟨p10.heap.size, 3, none⟩ = some (.bool false) := GQ10.out.cell 3
  have clQ10_4 : YQ10.cell? ⟨p10.heap.size, 4, none⟩ = some (.slice c_ 0 cc_) := GQ10.out.cell 4
  have clQ10_5 : YQ10.cell? ⟨p10.heap.size, 5, none⟩ = some (.slice d_ 0 cd_) := GQ10.out.cell 5
  go_wp2_with fail
  refine Calls.mono (HK.out) ?_
  rintro x q10 ⟨rfl, hb_⟩
  clear clQ10_0 clQ10_1 clQ10_2 clQ10_3 clQ10_4 clQ10_5
  have HW40 := hid (bt HW39.out hb_)
  have HX40 := hid (HX39.out.later hb_ HX39.out.lt)
  have HT40 := hid (HT39.out.later hb_ HT39.out.lt)
  have HQ1040 := hid (GQ10.out.later hb_ GQ10.out.lt)
  have SX40 := hid (And.intro (SX39.out.1.later hb_) (And.intro (SX39.out.2.1.later hb_) (And.intro (SX39.out.2.2.1.later hb_) (SX39.out.2.2.2.later hb_))))
  have SQ40 := hid (And.intro (SQ39.out.1.later hb_) (And.intro (SQ39.out.2.1.later hb_) (And.intro (SQ39.out.2.2.1.later hb_) (SQ39.out.2.2.2.later hb_))))
  clear HW39 HX39 HT39 GQ10 SX39 SQ39
  clear hb_ HK hs_ SQ40 HQ1040
  go_wp2_with fail
  rw [rounds_succ]
  clear HT40
  have R2 := hid (sl_one (made1 q10 2) (by decide) (by decide))
  have GM := hid (Box.made q10 35 #[.int .u32 2])
  have LM := hid (alloc_later q10 (.cells #[.int .u32 2] 35))
  obtain ⟨YM, hYM⟩ : ∃ YM, q10.alloc (.cells #[.int .u32 2] 35) = YM := ⟨_, rfl⟩
  rw [hYM] at GM LM
  have HW41 := hid (bt HW40.out LM.out)
  have HX41 := hid (HX40.out.later LM.out HX40.out.lt)
  have SX41 := hid (And.intro (SX40.out.1.later LM.out) (And.intro (SX40.out.2.1.later LM.out) (And.intro (SX40.out.2.2.1.later LM.out) (SX40.out.2.2.2.later LM.out))))
  clear HW40 HX40 SX40
  rw [hYM] at R2
  have R4 := hid (sl_one (made1 YM 4) (by decide) (by decide))
  have GN := hid (Box.made YM 35 #[.int .u32 4])
  have LN := hid (alloc_later YM (.cells #[.int .u32 4] 35))
  obtain ⟨YN, hYN⟩ : ∃ YN, YM.alloc (.cells #[.int .u32 4] 35) = YN := ⟨_, rfl⟩
  rw [hYN] at GN LN
  have HW42 := hid (bt HW41.out LN.out)
  have HX42 := hid (HX41.out.later LN.out HX41.out.lt)
  have HM42 := hid (GM.out.later LN.out GM.out.lt)
  have SX42 := hid (And.intro (SX41.out.1.later LN.out) (And.intro (SX41.out.2.1.later LN.out) (And.intro (SX41.out.2.2.1.later LN.out) (SX41.out.2.2.2.later LN.out))))
  clear HW41 HX41 GM SX41
  have SM42 := hid (R2.out.later LN.out)
  clear R2
  rw [hYN] at R4
  go_wp2_with fail
  refine Calls.mono (gfrac01 _) ?_
  rintro x v1 ⟨a5, ca5, b5, cb5, rfl, S5, hb_⟩
  have HW43 := hid (bt HW42.out hb_.out)
  have HX43 := hid (HX42.out.later hb_.out HX42.out.lt)
  have HM43 := hid (HM42.out.later hb_.out HM42.out.lt)
  have HN43 := hid (GN.out.later hb_.out GN.out.lt)
  have SX43 := hid (And.intro (SX42.out.1.later hb_.out) (And.intro (SX42.out.2.1.later hb_.out) (And.intro (SX42.out.2.2.1.later hb_.out) (SX42.out.2.2.2.later hb_.out))))
  clear HW42 HX42 HM42 GN SX42
  have SM43 := hid (SM42.out.later hb_.out)
  clear SM42
  have SN43 := hid (R4.out.later hb_.out)
  clear R4
  clear hb_
  have HC := hid (gcheck_any false _ [2] _ [4] false _ [] _ [1] v1 SM43.out SN43.out S5.out.1 S5.out.2)
  rw [gchk24] at HC
  go_wp2_with fail
  refine Calls.mono (HC.out) ?_
  rintro x v2 ⟨rfl, hb_⟩
  have HW44 := hid (bt HW43.out hb_)
  have HX44 := hid (HX43.out.later hb_ HX43.out.lt)
  have HM44 := hid (HM43.out.later hb_ HM43.out.lt)
  have HN44 := hid (HN43.out.later hb_ HN43.out.lt)
  have SX44 := hid (And.intro (SX43.out.1.later hb_) (And.intro (SX43.out.2.1.later hb_) (And.intro (SX43.out.2.2.1.later hb_) (SX43.out.2.2.2.later hb_))))
  have S544 := hid (And.intro (S5.out.1.later hb_) (S5.out.2.later hb_))
  clear HW43 HX43 HM43 HN43 SX43 S5
  have SM44 := hid (SM43.out.later hb_)
  clear SM43
  have SN44 := hid (SN43.out.later hb_)
  clear SN43
  clear hb_ HC SM44 SN44 S544 HM44 HN44
  have HC := hid (gcheck_any false _ [] _ [] false _ [] _ [] v2 (kz_nil _) (kz_nil _) (kz_nil _) (kz_nil _))
  rw [gchkno] at HC
  go_wp2_with fail
  refine Calls.mono (HC.out) ?_
  rintro x v3 ⟨rfl, hb_⟩
  have HW45 := hid (bt HW44.out hb_)
  have HX45 := hid (HX44.out.later hb_ HX44.out.lt)
  have SX45 := hid (And.intro (SX44.out.1.later hb_) (And.intro (SX44.out.2.1.later hb_) (And.intro (SX44.out.2.2.1.later hb_) (SX44.out.2.2.2.later hb_))))
  clear HW44 HX44 SX44
  clear hb_ HC
  go_upto_region 11 with fail
  refine gknown_region v3 _ _ _ _ _ _ _ _ _ _ _ _ _ _ _ _ _ _ _ _ _ _ _ _ _ _ _ _ _ _ _ _ _ _ _ _ _ _ _ _ _ _ _ _ _ _ _ _ _ _ _ _ _ _ _ _ _ _ _ _ _ _ _ (fun a6 k6 b6 l6 g6 h6 bq wc hcut => ?_)
  obtain ⟨bl, a1, k1, b1, l1, g, hh, eqb, HL, SL, hbl⟩ := hcut.out
  clear hcut
  cases eqb
  have HW46 := hid (bt HW45.out hbl.out)
  have HX46 := hid (HX45.out.later hbl.out HX45.out.lt)
  have SX46 := hid (And.intro (SX45.out.1.later hbl.out) (And.intro (SX45.out.2.1.later hbl.out) (And.intro (SX45.out.2.2.1.later hbl.out) (SX45.out.2.2.2.later hbl.out))))
  clear HW45 HX45 SX45
  clear hbl
  have HK : Hid (∀ V, Below wc.heap.size wc V → V.cell? ⟨w4.heap.size, 0, none⟩ = some (.bool false) ∧ V.cell? ⟨w4.heap.size, 1, none⟩ = some (.slice a4 1 ca4) ∧ V.cell? ⟨w4.heap.size, 2, none⟩ = some (.slice b4 1 cb4) ∧ V.cell? ⟨w4.heap.size, 3, none⟩ = some (.bool true) ∧ V.cell? ⟨w4.heap.size, 4, none⟩ = some (.slice c4 1 cc4) ∧ V.cell? ⟨w4.heap.size, 5, none⟩ = some (.slice d4 1 cd4) ∧ V.cell? ⟨bq, 0, none⟩ = some (.bool false) ∧ V.cell? ⟨bq, 1, none⟩ = some (.slice a1 1 k1) ∧ V.cell? ⟨bq, 2, none⟩ = some (.slice b1 1 l1) ∧ V.cell? ⟨bq, 3, none⟩ = some (.bool false) ∧ V.cell? ⟨bq, 4, none⟩ = some (.slice (some ⟨g, 0, none⟩) 2049 2049) ∧ V.cell? ⟨bq, 5, none⟩ = some (.slice (some ⟨hh, 0, none⟩) 1 1)) := hid (fun V hv => by
    obtain ⟨g0, g1, g2, g3, g4, g5⟩ := cells6 (HX46.out.later hv HX46.out.lt)
    obtain ⟨i0, i1, i2, i3, i4, i5⟩ := cells6 (HL.out.later hv HL.out.lt)
    exact ⟨g0, g1, g2, g3, g4, g5, i0, i1, i2, i3, i4, i5⟩)
  have HD := hid (Below.drew (Below.refl wc.heap.size wc))
  have hs0 := HK.out _ HD.out
  have Y1 : Hid (∀ V, Below wc.heap.size wc V → Calls Tryz.prog 10 #[] V fun x w' => x = .returned (.bool true) ∧ Below V.heap.size V w') := hid (fun V hv => gawake_any V (HTAB.out V (bt HW46.out hv)))
  have F35 : Hid (∀ V, Calls Tryz.prog 9 #[.int .i64 3, .int .i64 5] V (G2 V false 3 5)) := hid (fun V => gfrac_kn (3) (5) V (by decide) (by decide) (by decide) (by decide) (by decide) false [3] [5] (wd_of (by decide) (by decide)) (wd_of (by decide) (by decide)) rk35 (by decide +kernel))
  have Fm45 : Hid (∀ V, Calls Tryz.prog 9 #[.int .i64 (-4), .int .i64 5] V (G2 V true 4 5)) := hid (fun V => gfrac_kn ((-4)) (5) V (by decide) (by decide) (by decide) (by decide) (by decide) true [4] [5] (wd_of (by decide) (by decide)) (wd_of (by decide) (by decide)) rkm45 (by decide +kernel))
  have Y4 : Hid (∀ V aE caE bE cbE cE ccE dE cdE, Below wc.heap.size wc V → (Sl V (.slice aE 1 caE) [3] ∧ Sl V (.slice bE 1 cbE) [5]) → (Sl V (.slice cE 1 ccE) [4] ∧ Sl V (.slice dE 1 cdE) [5]) → Calls Tryz.prog 7 #[.agg #[.bool false, .slice a4 1 ca4, .slice b4 1 cb4, .bool true, .slice c4 1 cc4, .slice d4 1 cd4], .agg #[.bool false, .slice aE 1 caE, .slice bE 1 cbE, .bool true, .slice cE 1 ccE, .slice dE 1 cdE]] V fun x w' => x = .returned (.bool true) ∧ Below V.heap.size V w') := hid (fun V aE caE bE cbE cE ccE dE cdE hv hs ht => by
    have h := sl4 SX46.out hv
    exact gsameGauss_eq false a4 ca4 [3] b4 cb4 [5] true c4 cc4 [4] d4 cd4 [5] aE caE bE cbE cE ccE dE cdE V h.1 h.2.1 h.2.2.1 h.2.2.2 hs.1 hs.2 ht.1 ht.2 (by simp) (by simp) (by simp) (by simp))
  have Y5 : Hid (∀ V, Below wc.heap.size wc V → Calls Tryz.prog 8 #[.agg #[.bool false, .slice a1 1 k1, .slice b1 1 l1, .bool false, .slice (some ⟨g, 0, none⟩) 2049 2049, .slice (some ⟨hh, 0, none⟩) 1 1]] V fun x w' => x = .returned (.int .i64 3) ∧ Below V.heap.size V w') := hid (fun V hv => by
    have h := sl4 SL.out hv
    have e := gcheck_any false _ [1] _ [1] false _ zs2049 _ [1] V h.1 h.2.1 h.2.2.1 h.2.2.2
    rw [gchklong zs2049_len] at e
    exact e)
  have Y6 : Hid (∀ V, Below wc.heap.size wc V → Calls Tryz.prog 11 #[.agg #[.bool false, .slice a1 1 k1, .slice b1 1 l1, .bool false, .slice (some ⟨g, 0, none⟩) 2049 2049, .slice (some ⟨hh, 0, none⟩) 1 1]] V fun x w' => x = .returned (.bool false) ∧ Below V.heap.size V w') := hid (fun V hv => by
    have h := sl4 SL.out hv
    have e2 := zs2049_len
    generalize zs2049 = zs at h e2
    have h3 : Sl V (.slice (some ⟨g, 0, none⟩) zs.length 2049) zs := by rw [e2]; exact h.2.2.1
    have e := gZero_any false a1 k1 [1] b1 l1 [1] false (some ⟨g, 0, none⟩) 2049 zs (some ⟨hh, 0, none⟩) 1 [1] V h.1 h.2.1 h3 h.2.2.2
    rw [e2] at e
    exact e)
  have Y8 : Hid (∀ V aE caE bE cbE cE ccE dE cdE, (Sl V (.slice aE 0 caE) [] ∧ Sl V (.slice bE 1 cbE) [1] ∧ Sl V (.slice cE 0 ccE) [] ∧ Sl V (.slice dE 1 cdE) [1]) → Calls Tryz.prog 11 #[.agg #[.bool false, .slice aE 0 caE, .slice bE 1 cbE, .bool false, .slice cE 0 ccE, .slice dE 1 cdE]] V fun x w' => x = .returned (.bool true) ∧ Below V.heap.size V w') := hid (fun V aE caE bE cbE cE ccE dE cdE h => by
    have e := gZero_any false aE caE [] bE cbE [1] false cE ccE [] dE cdE [1] V h.1 h.2.1 h.2.2.1 h.2.2.2
    rw [gchk00] at e
    exact e)
  go_upto_region 12 with fail
  go_region_held3 (fun V : World => V.cell? ⟨w4.heap.size, 0, none⟩ = some (.bool false) ∧ V.cell? ⟨w4.heap.size, 1, none⟩ = some (.slice a4 1 ca4) ∧ V.cell? ⟨w4.heap.size, 2, none⟩ = some (.slice b4 1 cb4) ∧ V.cell? ⟨w4.heap.size, 3, none⟩ = some (.bool true) ∧ V.cell? ⟨w4.heap.size, 4, none⟩ = some (.slice c4 1 cc4) ∧ V.cell? ⟨w4.heap.size, 5, none⟩ = some (.slice d4 1 cd4) ∧ V.cell? ⟨bq, 0, none⟩ = some (.bool false) ∧ V.cell? ⟨bq, 1, none⟩ = some (.slice a1 1 k1) ∧ V.cell? ⟨bq, 2, none⟩ = some (.slice b1 1 l1) ∧ V.cell? ⟨bq, 3, none⟩ = some (.bool false) ∧ V.cell? ⟨bq, 4, none⟩ = some (.slice (some ⟨g, 0, none⟩) 2049 2049) ∧ V.cell? ⟨bq, 5, none⟩ = some (.slice (some ⟨hh, 0, none⟩) 1 1)) (first | with_reducible exact hs8 | with_reducible exact hs7 | with_reducible exact hs6 | with_reducible exact hs5 | with_reducible exact hs4 | with_reducible exact hs3 | with_reducible exact hs2 | with_reducible exact hs1 | with_reducible exact hs0)
    (first
      | (go_at_call 11; (with_reducible refine Calls.mono (Y8.out _ aF caF bF cbF cF ccF dF cdF HS7.out) ?_); rintro x x8 ⟨rfl, hbx⟩; have hb8 := hid (bt hb7.out hbx); clear hbx; have hs8 := HK.out _ hb8.out; clear hs7)
      | (go_at_call 5; (with_reducible refine Calls.mono (gint00 x6) ?_); rintro x x7 ⟨aF, caF, bF, cbF, cF, ccF, dF, cdF, rfl, HS7, hbx⟩; have hb7 := hid (bt hb6.out hbx.out); clear hbx; have hs7 := HK.out _ hb7.out; clear hs6)
      | (go_at_call 11; (with_reducible refine Calls.mono (Y6.out _ hb5.out) ?_); rintro x x6 ⟨rfl, hbx⟩; have hb6 := hid (bt hb5.out hbx); clear hbx; have hs6 := HK.out _ hb6.out; clear hs5)
      | (go_at_call 8; (with_reducible refine Calls.mono (Y5.out _ hb4.out) ?_); rintro x x5 ⟨rfl, hbx⟩; have hb5 := hid (bt hb4.out hbx); clear hbx; have hs5 := HK.out _ hb5.out; clear hs4)
      | (go_at_call 7; (with_reducible refine Calls.mono (Y4.out _ aE caE bE cbE cE ccE dE cdE hb3.out HS2n.out HS3.out) ?_); rintro x x4 ⟨rfl, hbx⟩; have hb4 := hid (bt hb3.out hbx); clear hbx; have hs4 := HK.out _ hb4.out; clear hs3)
      | (go_at_call 9; (with_reducible refine Calls.mono (Fm45.out x2) ?_); rintro x x3 ⟨cE, ccE, dE, cdE, rfl, HS3, hbx⟩; have hb3 := hid (bt hb2.out hbx.out); have HS2n := hid (sl2 HS2.out hbx.out); clear hbx; have hs3 := HK.out _ hb3.out; clear hs2)
      | (go_at_call 9; (with_reducible refine Calls.mono (F35.out x1) ?_); rintro x x2 ⟨aE, caE, bE, cbE, rfl, HS2, hbx⟩; have hb2 := hid (bt hb1.out hbx.out); clear hbx; have hs2 := HK.out _ hb2.out; clear hs1)
      | (go_at_call 10; (with_reducible refine Calls.mono (Y1.out _ HD.out) ?_); rintro x x1 ⟨rfl, hbx⟩; have hb1 := hid (bt HD.out hbx); clear hbx; have hs1 := HK.out _ hb1.out; clear hs0))
  all_goals
    go_wp2_with fail
    go_ret
    exact ⟨rfl, bt HW46.out hb8.out⟩
end Go.Proofs.YtakeolfaamnkkaaGreatDoor

