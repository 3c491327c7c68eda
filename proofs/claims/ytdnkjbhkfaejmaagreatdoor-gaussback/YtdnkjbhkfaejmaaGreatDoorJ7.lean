/- My texts on the way to GaussBack, one behind the other: contracts of the program and of the document's answers. -/
import Derived.Test.YtdnkjbhkfaejmaaGreatDoorJ1
import Derived.Test.YtdnkjbhkfaejmaaGreatDoorJ3
import Derived.Test.YtdnkjbhkfaejmaaGreatDoorJ4
import Derived.Test.YtdnkjbhkfaejmaaGreatDoorJ5
import Derived.Test.YtdnkjbhkfaejmaaGreatDoorJ6
import Derived.Test.YtdnkjbhkfaejmaaGreatDoorShelf
import Derived.Lib.IndexBytes
import Derived.Lib.CutLaws
import Derived.Shelf.RegionOpenPlain
import Derived.Lib.ItoaLen
import Derived.Lib.AtoiAll
import Derived.Deep.Cut
/- strings.Cut at one byte. -/
namespace Go.Proofs.YtdnkjbhkfaejmaaGreatDoor
open Go.RowKit Go.Lib
set_option linter.unusedVariables false
set_option linter.unusedSimpArgs false

set_option maxHeartbeats 1600000 in
set_option maxRecDepth 100000 in
theorem zcut0_any (s : ByteArray) (c : UInt8) (w : World) (hs : s.size ≤ 281474976710656) :
    Calls Tryz.prog 37 #[.string s, .string ⟨#[c]⟩] w fun e w' => e = .returned (.tuple #[.string ⟨(Lib.cut s.data.toList [c]).1.toArray⟩, .string ⟨(Lib.cut s.data.toList [c]).2.1.toArray⟩, .bool (Lib.cut s.data.toList [c]).2.2]) ∧ Below w.heap.size w w' := by
  have HI := hid (Tryz.stringslite_Index_one s c w)
  rw [← Lib.index_one] at HI
  rcases Lib.indexB_cases s ⟨#[c]⟩ with hix | ⟨i, hix, hroom⟩
  · obtain ⟨e1, e2, e3⟩ := Lib.cutB_miss s ⟨#[c]⟩ hix
    have e1' : (⟨(Lib.cut s.data.toList [c]).1.toArray⟩ : ByteArray) = _ := e1
    have e2' : (⟨(Lib.cut s.data.toList [c]).2.1.toArray⟩ : ByteArray) = _ := e2
    have e3' : (Lib.cut s.data.toList [c]).2.2 = _ := e3
    have hix' : Lib.index s.data.toList [c] = -1 := hix
    rw [hix'] at HI
    rw [e1', e2', e3']
    clear e1 e2 e3 e1' e2' e3' hix hix'
    go_enter Tryz.func37, Tryz.ntmps37
    go_wp2_with fail
    refine Calls.mono HI.out ?_
    rintro e w1 ⟨rfl, rfl⟩
    go_wp2_with fail
    go_returns
    exact ⟨rfl, Below.refl _ _⟩
  · obtain ⟨e1, e2, e3⟩ := Lib.cutB_hit s ⟨#[c]⟩ i hix
    have e1' : (⟨(Lib.cut s.data.toList [c]).1.toArray⟩ : ByteArray) = _ := e1
    have e2' : (⟨(Lib.cut s.data.toList [c]).2.1.toArray⟩ : ByteArray) = _ := e2
    have e3' : (Lib.cut s.data.toList [c]).2.2 = _ := e3
    have hix' : Lib.index s.data.toList [c] = (i : Int) := hix
    rw [hix'] at HI
    rw [e1', e2', e3']
    have hr : i + 1 ≤ s.size := hroom
    have c1 : (0 : Int) ≤ ↑i := by omega
    have c2 : (↑i : Int) ≤ ↑s.size := by omega
    have c3 : (0 : Int) ≤ ↑i + 1 := by omega
    have c4 : (↑i + 1 : Int) ≤ ↑s.size := by omega
    have hw : IntKind.i64.wrap ((i : Int) + 1) = (i : Int) + 1 := by rw [IntKind.wrap_i64]; omega
    have ht : ((i : Int) + 1).toNat = i + 1 := by omega
    clear e1 e2 e3 e1' e2' e3' hix hix' hroom
    go_enter Tryz.func37, Tryz.ntmps37
    go_wp2_with fail
    refine Calls.mono HI.out ?_
    rintro e w1 ⟨rfl, rfl⟩
    go_wp2_with fail
    go_region
    go_wp2_with fail
    go_returns
    exact ⟨rfl, (Below.refl _ _).drew⟩
set_option maxHeartbeats 1600000 in
set_option maxRecDepth 100000 in
theorem zcut_any (s : ByteArray) (c : UInt8) (w : World) (hs : s.size ≤ 281474976710656) :
    Calls Tryz.prog 20 #[.string s, .string ⟨#[c]⟩] w fun e w' => e = .returned (.tuple #[.string ⟨(Lib.cut s.data.toList [c]).1.toArray⟩, .string ⟨(Lib.cut s.data.toList [c]).2.1.toArray⟩, .bool (Lib.cut s.data.toList [c]).2.2]) ∧ Below w.heap.size w w' := by
  have HC := hid (zcut0_any s c w hs)
  generalize (Lib.cut s.data.toList [c]).1.toArray = A at *
  generalize (Lib.cut s.data.toList [c]).2.1.toArray = B at *
  generalize (Lib.cut s.data.toList [c]).2.2 = C at *
  go_enter Tryz.func20, Tryz.ntmps20
  go_wp2_with fail
  refine Calls.mono HC.out ?_
  rintro e w1 ⟨rfl, hb⟩
  go_wp2_with fail
  go_returns
  exact ⟨rfl, hb⟩
theorem zcut_len (l : List UInt8) (c : UInt8) : (Lib.cut l [c]).1.length ≤ l.length ∧ (Lib.cut l [c]).2.1.length ≤ l.length := by
  unfold Lib.cut
  split
  · simp
    omega
  · simp
end Go.Proofs.YtdnkjbhkfaejmaaGreatDoor

/- Complex fractions: gauss.Parse: of any text. -/
namespace Go.Proofs.YtdnkjbhkfaejmaaGreatDoor
open Go.RowKit Go.Lib
set_option linter.unusedVariables false

/-- A complex fraction told in new memory, all four rows apart. -/
def GToldC (w : World) (E : Int) (L : Prop) (q1 q2 : Rat) (x : Ending) (w' : World) : Prop :=
  ∃ n a ca xs b cb ys m c cc us d cd vs code, x = .returned (.tuple #[.agg #[.bool n, .slice a (List.length xs) ca, .slice b (List.length ys) cb, .bool m, .slice c (List.length us) cc, .slice d (List.length vs) cd], .int .i64 code]) ∧ (w'.ownsRow w.heap.size 40 1 (.slice a xs.length ca) xs.length (xs.map (Value.int .u32)) ∧ w'.ownsRow w.heap.size 40 1 (.slice b ys.length cb) ys.length (ys.map (Value.int .u32)) ∧ w'.ownsRow w.heap.size 40 1 (.slice c us.length cc) us.length (us.map (Value.int .u32)) ∧ w'.ownsRow w.heap.size 40 1 (.slice d vs.length cd) vs.length (vs.map (Value.int .u32))) ∧ GTells E L q1 q2 n xs ys m us vs code ∧ Below w.heap.size w w' ∧ ∃ W1, Cut w (.slice a xs.length ca) (.slice b ys.length cb) W1 ∧ Cut W1 (.slice c us.length cc) (.slice d vs.length cd) w'
theorem GToldC.told {w w' : World} {E : Int} {L : Prop} {q1 q2 : Rat} {x : Ending} (h : GToldC w E L q1 q2 x w') : GTold w E L q1 q2 x w' := by
  obtain ⟨n, a, ca, xs, b, cb, ys, m, c, cc, us, d, cd, vs, code, e, o, t, hb, _⟩ := h
  exact ⟨n, a, ca, xs, b, cb, ys, m, c, cc, us, d, cd, vs, code, e, o, t, hb⟩
theorem cut_nil (w w' : World) (h : w.heap.size ≤ w'.heap.size) : Cut w (.slice none 0 0) (.slice none 0 0) w' := ⟨w.heap.size, Nat.le_refl _, h, fun g hg => by simp [Value.ownBlock] at hg, fun g hg => by simp [Value.ownBlock] at hg⟩
theorem gtoldc_zero {w W : World} {E : Int} {L : Prop} {q1 q2 : Rat} {code : Int} (h : E ≠ 0 ∧ code = E ∨ E = 0 ∧ L ∧ code = 3) (hb : Below w.heap.size w W) : GToldC w E L q1 q2 (.returned (.tuple #[.agg #[.bool false, .slice none 0 0, .slice none 0 0, .bool false, .slice none 0 0, .slice none 0 0], .int .i64 code])) W := by
  refine ⟨false, none, 0, [], none, 0, [], false, none, 0, [], none, 0, [], code, rfl, ⟨World.ownsRow_nil _ _ _ _, World.ownsRow_nil _ _ _ _, World.ownsRow_nil _ _ _ _, World.ownsRow_nil _ _ _ _⟩, ⟨⟨Wd.nil, Wd.nil, Wd.nil, Wd.nil⟩, fun he => ⟨⟨rfl, rfl, rfl, rfl, rfl, rfl⟩, ?_⟩, fun he hl => ⟨⟨rfl, rfl, rfl, rfl, rfl, rfl⟩, ?_⟩, fun he hl => ?_⟩, hb, W, cut_nil _ _ hb.size, cut_nil _ _ (Nat.le_refl _)⟩
  · rcases h with h | h
    · exact h.2
    · exact absurd h.1 he
  · rcases h with h | h
    · exact absurd he h.1
    · exact h.2.2
  · rcases h with h | h
    · exact absurd he h.1
    · exact absurd h.2.1 hl

/-- The two pieces of a text. -/
def gp1 (l : List UInt8) : List UInt8 := (Lib.cut l [32]).1
def gp2 (l : List UInt8) : List UInt8 := (Lib.cut l [32]).2.1
def ggood (l : List UInt8) : Prop := rgood (gp1 l) ∧ rgood (gp2 l)
def gplong (l : List UInt8) : Prop := rlong (rpq (gp1 l)) ∨ rlong (rpq (gp2 l))
open Classical in
/-- What is refused of a text, but for numbers that are too long. -/
noncomputable def gpE (s : ByteArray) : Int := if 65536 < s.size then 3 else if ggood s.data.toList then 0 else 140
theorem gpE_long {s : ByteArray} (h : 65536 < s.size) : gpE s = 3 := by unfold gpE; rw [if_pos h]
theorem gpE_good {s : ByteArray} (hs : s.size ≤ 65536) (h : ggood s.data.toList) : gpE s = 0 := by unfold gpE; rw [if_neg (by omega), if_pos h]
theorem gpE_bad {s : ByteArray} (hs : s.size ≤ 65536) (h : ¬ ggood s.data.toList) : gpE s = 140 := by unfold gpE; rw [if_neg (by omega), if_neg h]
/-- The codes of both pieces, and what is told of them. -/
theorem gpar_codes {l1 l2 : List UInt8} (z1 : l1.length ≤ 65536) (z2 : l2.length ≤ 65536) {n m : Bool} {xs ys us vs : List Int} {c1 c2 : Int} (h1 : RTells (prErr ⟨l1.toArray⟩) (rpq l1) n xs ys c1) (h2 : RTells (prErr ⟨l2.toArray⟩) (rpq l2) m us vs c2) :
    (c1 = 130 ∧ ¬ (rgood l1 ∧ rgood l2)) ∨ (c1 ≠ 130 ∧ c2 = 130 ∧ ¬ (rgood l1 ∧ rgood l2)) ∨ ((rgood l1 ∧ rgood l2) ∧ c1 = 3 ∧ c2 ≠ 130 ∧ (rlong (rpq l1) ∨ rlong (rpq l2))) ∨ ((rgood l1 ∧ rgood l2) ∧ c1 = 0 ∧ c2 = 3 ∧ (rlong (rpq l1) ∨ rlong (rpq l2))) ∨ ((rgood l1 ∧ rgood l2) ∧ c1 = 0 ∧ c2 = 0 ∧ ¬ (rlong (rpq l1) ∨ rlong (rpq l2)) ∧ (rchk n xs ys = 0 ∧ rq n xs ys = rpq l1) ∧ rchk m us vs = 0 ∧ rq m us vs = rpq l2) := by
  have s1 : (⟨l1.toArray⟩ : ByteArray).size ≤ 65536 := by show l1.toArray.size ≤ 65536; simpa using z1
  have s2 : (⟨l2.toArray⟩ : ByteArray).size ≤ 65536 := by show l2.toArray.size ≤ 65536; simpa using z2
  have g1 : (⟨l1.toArray⟩ : ByteArray).data.toList = l1 := by simp
  have g2 : (⟨l2.toArray⟩ : ByteArray).data.toList = l2 := by simp
  have c2f : ¬ rgood l2 → c2 = 130 := fun h => by
    have e := prErr_bad s2 (by rw [g2]; exact h)
    rw [e] at h2
    exact (h2.bad (by decide)).2.2.2
  have c2t : rgood l2 → (c2 = 3 ∧ rlong (rpq l2)) ∨ (c2 = 0 ∧ ¬ rlong (rpq l2) ∧ rchk m us vs = 0 ∧ rq m us vs = rpq l2) := fun h => by
    have e := prErr_good s2 (by rw [g2]; exact h)
    rw [e] at h2
    by_cases hl : rlong (rpq l2)
    · exact .inl ⟨(h2.long rfl hl).2.2.2, hl⟩
    · exact .inr ⟨(h2.good rfl hl).1, hl, (h2.good rfl hl).2⟩
  by_cases k1 : rgood l1
  · have e := prErr_good s1 (by rw [g1]; exact k1)
    rw [e] at h1
    by_cases k2 : rgood l2
    · rcases c2t k2 with ⟨d, hl2⟩ | ⟨d, hl2, hk⟩
      · by_cases hl : rlong (rpq l1)
        · exact .inr (.inr (.inl ⟨⟨k1, k2⟩, (h1.long rfl hl).2.2.2, by omega, .inl hl⟩))
        · exact .inr (.inr (.inr (.inl ⟨⟨k1, k2⟩, (h1.good rfl hl).1, d, .inr hl2⟩)))
      · by_cases hl : rlong (rpq l1)
        · exact .inr (.inr (.inl ⟨⟨k1, k2⟩, (h1.long rfl hl).2.2.2, by omega, .inl hl⟩))
        · exact .inr (.inr (.inr (.inr ⟨⟨k1, k2⟩, (h1.good rfl hl).1, d, fun h => h.elim hl hl2, (h1.good rfl hl).2, hk⟩)))
    · refine .inr (.inl ⟨?_, c2f k2, fun h => k2 h.2⟩)
      by_cases hl : rlong (rpq l1)
      · have := (h1.long rfl hl).2.2.2; omega
      · have := (h1.good rfl hl).1; omega
  · have e := prErr_bad s1 (by rw [g1]; exact k1)
    rw [e] at h1
    exact .inl ⟨(h1.bad (by decide)).2.2.2, fun h => k1 h.1⟩

set_option maxHeartbeats 1600000 in
set_option maxRecDepth 100000 in
theorem gParse_long (s : ByteArray) (w : World) (hs : 65536 < s.size) (hm : s.size ≤ 281474976710656) (L : Prop) (q1 q2 : Rat) : Calls Tryz.prog 8 #[.string s] w (GToldC w 3 L q1 q2) := by
  have HX := hid (Box.made w 26 #[.bool false, .slice none 0 0, .slice none 0 0, .bool false, .slice none 0 0, .slice none 0 0])
  have HB := hid (alloc_later w (.cells #[.bool false, .slice none 0 0, .slice none 0 0, .bool false, .slice none 0 0, .slice none 0 0] 26))
  obtain ⟨X, hX⟩ : ∃ X, w.alloc (.cells #[.bool false, .slice none 0 0, .slice none 0 0, .bool false, .slice none 0 0, .slice none 0 0] 26) = X := ⟨_, rfl⟩
  rw [hX] at HX HB
  have m0 : X.cell? ⟨w.heap.size, 0, none⟩ = some (.bool false) := HX.out.cell 0
  have m1 : X.cell? ⟨w.heap.size, 1, none⟩ = some (.slice none 0 0) := HX.out.cell 1
  have m2 : X.cell? ⟨w.heap.size, 2, none⟩ = some (.slice none 0 0) := HX.out.cell 2
  have m3 : X.cell? ⟨w.heap.size, 3, none⟩ = some (.bool false) := HX.out.cell 3
  have m4 : X.cell? ⟨w.heap.size, 4, none⟩ = some (.slice none 0 0) := HX.out.cell 4
  have m5 : X.cell? ⟨w.heap.size, 5, none⟩ = some (.slice none 0 0) := HX.out.cell 5
  have f0 := HX.out.free 0
  have f1 := HX.out.free 1
  have f2 := HX.out.free 2
  have f3 := HX.out.free 3
  have f4 := HX.out.free 4
  have f5 := HX.out.free 5
  have hs' : (65536 : Int) < (s.size : Int) := by omega
  clear hs
  go_enter Tryz.func8, Tryz.ntmps8
  go_wp2_with fail
  have B1 := box_put6 HX.out (.bool false) (.slice none 0 0) (.slice none 0 0) (.bool false) (.slice none 0 0) (.slice none 0 0)
  have G1 := below_put6 HB.out w.heap.size (Nat.le_refl _) (.bool false) (.slice none 0 0) (.slice none 0 0) (.bool false) (.slice none 0 0) (.slice none 0 0)
  clear m0 m1 m2 m3 m4 m5 f0 f1 f2 f3 f4 f5
  exact bodyPost_ret (gres_run (by rfl) B1 _ rfl) rfl (gtoldc_zero (E := 3) (.inl ⟨by decide, rfl⟩) G1)

set_option maxHeartbeats 3200000 in
set_option maxRecDepth 100000 in
theorem gParse_any (s : ByteArray) (w : World) (hm : s.size ≤ 281474976710656) : Calls Tryz.prog 8 #[.string s] w (GToldC w (gpE s) (gplong s.data.toList) (rpq (gp1 s.data.toList)) (rpq (gp2 s.data.toList))) := by
  by_cases hs : 65536 < s.size
  · rw [gpE_long hs]
    exact gParse_long s w hs hm _ _ _
  have HX := hid (Box.made w 26 #[.bool false, .slice none 0 0, .slice none 0 0, .bool false, .slice none 0 0, .slice none 0 0])
  have HB := hid (alloc_later w (.cells #[.bool false, .slice none 0 0, .slice none 0 0, .bool false, .slice none 0 0, .slice none 0 0] 26))
  obtain ⟨X, hX⟩ : ∃ X, w.alloc (.cells #[.bool false, .slice none 0 0, .slice none 0 0, .bool false, .slice none 0 0, .slice none 0 0] 26) = X := ⟨_, rfl⟩
  rw [hX] at HX HB
  have hs' : ¬ (65536 : Int) < (s.size : Int) := by omega
  have HC := hid (zcut_any s 32 X hm)
  have hl : s.data.toList.length = s.size := Array.length_toList
  have hz1 : (Lib.cut s.data.toList [32]).1.length ≤ 65536 := by have := (zcut_len s.data.toList 32).1; omega
  have hz2 : (Lib.cut s.data.toList [32]).2.1.length ≤ 65536 := by have := (zcut_len s.data.toList 32).2; omega
  have HEG : Hid (ggood s.data.toList → gpE s = 0) := gpE_good (by omega)
  have HEB : Hid (¬ ggood s.data.toList → gpE s = 140) := gpE_bad (by omega)
  have HGG : Hid (ggood s.data.toList ↔ (rgood (gp1 s.data.toList) ∧ rgood (gp2 s.data.toList))) := Iff.rfl
  have HLL : Hid (gplong s.data.toList ↔ (rlong (rpq (gp1 s.data.toList)) ∨ rlong (rpq (gp2 s.data.toList)))) := Iff.rfl
  have e1 : gp1 s.data.toList = (Lib.cut s.data.toList [32]).1 := rfl
  have e2 : gp2 s.data.toList = (Lib.cut s.data.toList [32]).2.1 := rfl
  rw [← e1] at hz1 HC
  rw [← e2] at hz2 HC
  clear e1 e2 hl hs
  generalize gp1 s.data.toList = l1 at *
  generalize gp2 s.data.toList = l2 at *
  generalize ggood s.data.toList = GG at *
  generalize gplong s.data.toList = GL at *
  generalize gpE s = E at *
  have H1 : Hid (∀ V, Calls Tryz.prog 21 #[.string ⟨l1.toArray⟩] V (RToldA V (prErr ⟨l1.toArray⟩) (rpq l1))) := fun V => rparse_any ⟨l1.toArray⟩ V (by show l1.toArray.size ≤ 65536; simpa using hz1)
  have H2 : Hid (∀ V, Calls Tryz.prog 21 #[.string ⟨l2.toArray⟩] V (RToldA V (prErr ⟨l2.toArray⟩) (rpq l2))) := fun V => rparse_any ⟨l2.toArray⟩ V (by show l2.toArray.size ≤ 65536; simpa using hz2)
  have HP : Hid (∀ {n m : Bool} {xs ys us vs : List Int} {c1 c2 : Int}, RTells (prErr ⟨l1.toArray⟩) (rpq l1) n xs ys c1 → RTells (prErr ⟨l2.toArray⟩) (rpq l2) m us vs c2 → _) := fun h1 h2 => gpar_codes hz1 hz2 h1 h2
  generalize prErr ⟨l1.toArray⟩ = p1 at *
  generalize prErr ⟨l2.toArray⟩ = p2 at *
  generalize rpq l1 = q1 at *
  generalize rpq l2 = q2 at *
  generalize (rgood l1 ∧ rgood l2) = GD at *
  generalize (Lib.cut s.data.toList [32]).2.2 = fnd at *
  generalize l1.toArray = A1 at *
  generalize l2.toArray = A2 at *
  clear hz1 hz2
  go_enter Tryz.func8, Tryz.ntmps8
  go_wp2_with fail
  refine Calls.mono HC.out ?_
  rintro e w1 ⟨rfl, hb1⟩
  have HW1 := hid (bt HB.out hb1)
  have HR1 := hid (HX.out.later hb1 HX.out.lt)
  clear hb1 HC
  go_wp2_with fail
  refine Calls.mono (H1.out _) ?_
  rintro x w2 ⟨n, v, xs, u, ys, code1, rfl, ov1, ou1, ht1, hb2, hcut1⟩
  obtain ⟨av1, cv1, rfl⟩ := own_slice' ov1
  obtain ⟨au1, cu1, rfl⟩ := own_slice' ou1
  have HW2 := hid (bt HW1.out hb2)
  have HR2 := hid (HR1.out.later hb2 HR1.out.lt)
  have HN := hid (Box.made w2 24 #[.bool n, .slice av1 xs.length cv1, .slice au1 ys.length cu1])
  have HNB := hid (alloc_later w2 (.cells #[.bool n, .slice av1 xs.length cv1, .slice au1 ys.length cu1] 24))
  obtain ⟨Z, hZ⟩ : ∃ Z, w2.alloc (.cells #[.bool n, .slice av1 xs.length cv1, .slice au1 ys.length cu1] 24) = Z := ⟨_, rfl⟩
  rw [hZ] at HN HNB
  have HV1 := hid ov1
  have HU1 := hid ou1
  have HT1 := hid ht1
  have HC1 := hid hcut1
  have h12 : w1.heap.size ≤ w2.heap.size := hb2.size
  clear ov1 ou1 ht1 hcut1 hb2 H1
  go_wp2_with fail
  refine Calls.mono (H2.out _) ?_
  rintro x w3 ⟨m, v, us, u, vs, code2, rfl, ov2, ou2, ht2, hb3, hcut2⟩
  obtain ⟨av2, cv2, rfl⟩ := own_slice' ov2
  obtain ⟨au2, cu2, rfl⟩ := own_slice' ou2
  have HM := hid (Box.made w3 24 #[.bool m, .slice av2 us.length cv2, .slice au2 vs.length cu2])
  have HMB := hid (alloc_later w3 (.cells #[.bool m, .slice av2 us.length cv2, .slice au2 vs.length cu2] 24))
  obtain ⟨Q, hQ⟩ : ∃ Q, w3.alloc (.cells #[.bool m, .slice av2 us.length cv2, .slice au2 vs.length cu2] 24) = Q := ⟨_, rfl⟩
  rw [hQ] at HM HMB
  have hb2Q : Below w2.heap.size w2 Q := bt HNB.out (bt hb3 HMB.out)
  have HW3 := hid (bt HW2.out hb2Q)
  have HR3 := hid (HR2.out.later hb2Q HR2.out.lt)
  have HN3 := hid (HN.out.later (bt hb3 HMB.out) HN.out.lt)
  have HOO := hid (And.intro (owns_later HV1.out hb2Q) (And.intro (owns_later HU1.out hb2Q) (And.intro (owns_later ov2 HMB.out) (owns_later ou2 HMB.out))))
  have HC2 : Hid (Cut w2 (.slice av2 us.length cv2) (.slice au2 vs.length cu2) Q) := hcut2.up HNB.out.size HMB.out.size
  have HTT := hid (HP.out HT1.out ht2)
  have HWD := hid (And.intro HT1.out.wx (And.intro HT1.out.wy (And.intro ht2.wx ht2.wy)))
  have hsz1 : w.heap.size ≤ w1.heap.size := HW1.out.size
  have hszZ : w2.heap.size ≤ Z.heap.size := HNB.out.size
  clear ov2 ou2 ht2 hcut2 H2 HP hb2Q hb3 HT1
  have m0 : Q.cell? ⟨w.heap.size, 0, none⟩ = some (.bool false) := HR3.out.cell 0
  have m1 : Q.cell? ⟨w.heap.size, 1, none⟩ = some (.slice none 0 0) := HR3.out.cell 1
  have m2 : Q.cell? ⟨w.heap.size, 2, none⟩ = some (.slice none 0 0) := HR3.out.cell 2
  have m3 : Q.cell? ⟨w.heap.size, 3, none⟩ = some (.bool false) := HR3.out.cell 3
  have m4 : Q.cell? ⟨w.heap.size, 4, none⟩ = some (.slice none 0 0) := HR3.out.cell 4
  have m5 : Q.cell? ⟨w.heap.size, 5, none⟩ = some (.slice none 0 0) := HR3.out.cell 5
  have f0 := HR3.out.free 0
  have f1 := HR3.out.free 1
  have f2 := HR3.out.free 2
  have f3 := HR3.out.free 3
  have f4 := HR3.out.free 4
  have f5 := HR3.out.free 5
  rcases HTT.out with ⟨rfl, hg⟩ | ⟨d1, rfl, hg⟩ | ⟨hg, rfl, d2, hL⟩ | ⟨hg, rfl, rfl, hL⟩ | ⟨hg, rfl, rfl, hL, hk⟩
  · have HE := hid (HEB.out (fun h => hg (HGG.out.1 h)))
    clear HTT
    go_wp2_with fail
    have B1 := box_put6 HR3.out (.bool false) (.slice none 0 0) (.slice none 0 0) (.bool false) (.slice none 0 0) (.slice none 0 0)
    have G1 := below_put6 HW3.out w.heap.size (Nat.le_refl _) (.bool false) (.slice none 0 0) (.slice none 0 0) (.bool false) (.slice none 0 0) (.slice none 0 0)
    clear m0 m1 m2 m3 m4 m5 f0 f1 f2 f3 f4 f5
    exact bodyPost_ret (gres_run (by rfl) B1 _ rfl) rfl (gtoldc_zero (E := E) (.inl ⟨by rw [HE.out]; decide, HE.out.symm⟩) G1)
  · have HE := hid (HEB.out (fun h => hg (HGG.out.1 h)))
    have d1' : (code1 == 130) = false := by simp [d1]
    clear d1
    clear HTT
    go_wp2_with fail
    have B1 := box_put6 HR3.out (.bool false) (.slice none 0 0) (.slice none 0 0) (.bool false) (.slice none 0 0) (.slice none 0 0)
    have G1 := below_put6 HW3.out w.heap.size (Nat.le_refl _) (.bool false) (.slice none 0 0) (.slice none 0 0) (.bool false) (.slice none 0 0) (.slice none 0 0)
    clear m0 m1 m2 m3 m4 m5 f0 f1 f2 f3 f4 f5
    exact bodyPost_ret (gres_run (by rfl) B1 _ rfl) rfl (gtoldc_zero (E := E) (.inl ⟨by rw [HE.out]; decide, HE.out.symm⟩) G1)
  · have HE := hid (HEG.out (HGG.out.2 hg))
    have d2' : (code2 == 130) = false := by simp [d2]
    have HLo := hid (HLL.out.2 hL)
    clear d2 hL hg
    clear HTT
    go_wp2_with fail
    have B1 := box_put6 HR3.out (.bool false) (.slice none 0 0) (.slice none 0 0) (.bool false) (.slice none 0 0) (.slice none 0 0)
    have G1 := below_put6 HW3.out w.heap.size (Nat.le_refl _) (.bool false) (.slice none 0 0) (.slice none 0 0) (.bool false) (.slice none 0 0) (.slice none 0 0)
    clear m0 m1 m2 m3 m4 m5 f0 f1 f2 f3 f4 f5
    exact bodyPost_ret (gres_run (by rfl) B1 _ rfl) rfl (gtoldc_zero (E := E) (.inr ⟨HE.out, HLo.out, rfl⟩) G1)
  · have HE := hid (HEG.out (HGG.out.2 hg))
    have HLo := hid (HLL.out.2 hL)
    clear hL hg
    clear HTT
    go_wp2_with fail
    have B1 := box_put6 HR3.out (.bool false) (.slice none 0 0) (.slice none 0 0) (.bool false) (.slice none 0 0) (.slice none 0 0)
    have G1 := below_put6 HW3.out w.heap.size (Nat.le_refl _) (.bool false) (.slice none 0 0) (.slice none 0 0) (.bool false) (.slice none 0 0) (.slice none 0 0)
    clear m0 m1 m2 m3 m4 m5 f0 f1 f2 f3 f4 f5
    exact bodyPost_ret (gres_run (by rfl) B1 _ rfl) rfl (gtoldc_zero (E := E) (.inr ⟨HE.out, HLo.out, rfl⟩) G1)
  · have HE := hid (HEG.out (HGG.out.2 hg))
    have HLo := hid (fun h => hL (HLL.out.1 h))
    have HKK := hid hk
    have ka0 : Q.cell? ⟨w2.heap.size, 0, none⟩ = some (.bool n) := HN3.out.cell 0
    have ka1 : Q.cell? ⟨w2.heap.size, 1, none⟩ = some (.slice av1 xs.length cv1) := HN3.out.cell 1
    have ka2 : Q.cell? ⟨w2.heap.size, 2, none⟩ = some (.slice au1 ys.length cu1) := HN3.out.cell 2
    have kb0 : Q.cell? ⟨w3.heap.size, 0, none⟩ = some (.bool m) := HM.out.cell 0
    have kb1 : Q.cell? ⟨w3.heap.size, 1, none⟩ = some (.slice av2 us.length cv2) := HM.out.cell 1
    have kb2 : Q.cell? ⟨w3.heap.size, 2, none⟩ = some (.slice au2 vs.length cu2) := HM.out.cell 2
    clear HTT hL hk hg
    go_wp2_with fail
    have B1 := box_put6 HR3.out (.bool n) (.slice av1 xs.length cv1) (.slice au1 ys.length cu1) (.bool m) (.slice av2 us.length cv2) (.slice au2 vs.length cu2)
    have G1 := below_put6 HW3.out w.heap.size (Nat.le_refl _) (.bool n) (.slice av1 xs.length cv1) (.slice au1 ys.length cu1) (.bool m) (.slice av2 us.length cv2) (.slice au2 vs.length cu2)
    have hwX : w.heap.size < X.heap.size := HX.out.lt
    have hX1 : w.heap.size < w1.heap.size := HR1.out.lt
    have hput : ∀ {base k : Nat} {v : Value} {l : List Value}, Q.ownsRow base 40 1 v k l → (∀ g, v.ownBlock = some g → w1.heap.size ≤ g) → ((((((Q.setCell ⟨w.heap.size, 0, none⟩ (.bool n)).setCell ⟨w.heap.size, 1, none⟩ (.slice av1 xs.length cv1)).setCell ⟨w.heap.size, 2, none⟩ (.slice au1 ys.length cu1)).setCell ⟨w.heap.size, 3, none⟩ (.bool m)).setCell ⟨w.heap.size, 4, none⟩ (.slice av2 us.length cv2)).setCell ⟨w.heap.size, 5, none⟩ (.slice au2 vs.length cu2)).ownsRow base 40 1 v k l := fun h hb => own_put6 h _ (fun g hg => by have := hb g hg; omega) _ _ _ _ _ _
    clear m0 m1 m2 m3 m4 m5 f0 f1 f2 f3 f4 f5
    refine bodyPost_ret (gres_run (by rfl) B1 _ rfl) rfl ?_
    have hszQ : w.heap.size ≤ Z.heap.size := by omega
    refine ⟨n, av1, cv1, xs, au1, cu1, ys, m, av2, cv2, us, au2, cu2, vs, 0, rfl, ⟨owns_base (hput HOO.out.1 (fun g hg => (HOO.out.1.lt g hg).1)) hsz1, owns_base (hput HOO.out.2.1 (fun g hg => (HOO.out.2.1.lt g hg).1)) hsz1, owns_base (hput HOO.out.2.2.1 (fun g hg => by have := (HOO.out.2.2.1.lt g hg).1; omega)) hszQ, owns_base (hput HOO.out.2.2.2 (fun g hg => by have := (HOO.out.2.2.2.lt g hg).1; omega)) hszQ⟩, ⟨HWD.out, fun h => absurd HE.out h, fun _ h => absurd h HLo.out, fun _ _ => ⟨rfl, HKK.out⟩⟩, G1, w2, HC1.out.up hsz1 (Nat.le_refl _), HC2.out.up (Nat.le_refl _) (by simp [World.setCell])⟩
end Go.Proofs.YtdnkjbhkfaejmaaGreatDoor

/- Texts of fractions beside one another: cut at a blank, read back. Nothing here speaks of the program. -/
namespace Go.Proofs.YtdnkjbhkfaejmaaGreatDoor
open Go.RowKit Go.Lib
set_option linter.unusedVariables false
set_option linter.unusedSimpArgs false

theorem zdig_one {u : Nat} (h : u < 10) : decDigits u = [UInt8.ofNat (48 + u)] := by rw [decDigits, dif_pos h]
theorem zdig_more {u : Nat} (h : ¬ u < 10) : decDigits u = decDigits (u / 10) ++ [UInt8.ofNat (48 + u % 10)] := by rw [decDigits, dif_neg h]
theorem zdigit_nat (d : Nat) (h : d < 10) : (UInt8.ofNat (48 + d)).toNat = 48 + d := by rw [UInt8.toNat_ofNat']; omega
theorem zdec_all (n : Nat) : (∀ x ∈ decDigits n, 48 ≤ x.toNat ∧ x.toNat ≤ 57) ∧ decDigits n ≠ [] := by
  by_cases h : n < 10
  · rw [zdig_one h]
    refine ⟨fun x hx => ?_, by simp⟩
    rw [List.mem_singleton] at hx
    rw [hx, zdigit_nat n h]; omega
  · rw [zdig_more h]
    have ih := zdec_all (n / 10)
    refine ⟨fun x hx => ?_, by simp⟩
    rcases List.mem_append.1 hx with hx | hx
    · exact ih.1 x hx
    · rw [List.mem_singleton] at hx
      rw [hx, zdigit_nat (n % 10) (by omega)]; omega
termination_by n
decreasing_by omega
theorem zpum (n : Nat) (r : List UInt8) (hn : n < 9223372036854775808) : parseUint10 0 (decDigits n ++ r) = parseUint10 n r := by
  by_cases h : n < 10
  · rw [zdig_one h]
    show parseUint10 0 (UInt8.ofNat (48 + n) :: r) = _
    rw [parseUint10, zdigit_nat n h, if_pos (by omega), if_neg (by omega), if_neg (by omega)]
    congr 1; omega
  · rw [zdig_more h, List.append_assoc]
    rw [zpum (n / 10) _ (by omega)]
    show parseUint10 (n / 10) (UInt8.ofNat (48 + n % 10) :: r) = _
    rw [parseUint10, zdigit_nat (n % 10) (by omega), if_pos (by omega), if_neg (by omega), if_neg (by omega)]
    congr 1; omega
termination_by n
decreasing_by omega
theorem zdig_short {n k : Nat} (h : n < 10 ^ (k + 1)) : nDigits n ≤ k + 1 := by
  induction k generalizing n with
  | zero => rw [nDigits_small (by simpa using h)]; omega
  | succ k ih =>
    by_cases hn : n < 10
    · rw [nDigits_small hn]; omega
    · rw [nDigits_big hn]
      have : n / 10 < 10 ^ (k + 1) := by
        rw [Nat.div_lt_iff_lt_mul (by decide)]
        rw [Nat.pow_succ] at h
        exact h
      have := ih this
      omega
theorem zsg_parts {n m : Bool} {x y : Int} (hx : 0 ≤ x) (hy : 0 ≤ y) (h1 : n = false ∨ 0 < x) (h2 : m = false ∨ 0 < y) (h : sg n x = sg m y) : n = m ∧ x = y := by
  cases n <;> cases m <;> simp [sg] at h h1 h2 ⊢ <;> omega
/-- What was read prints as it was. -/
theorem zread_text {l : List UInt8} (h : rgood l) {n : Bool} {xs ys : List Int} (wx : Wd xs) (wy : Wd ys) (hk : rchk n xs ys = 0) (hq : rq n xs ys = rpq l) : rtext n xs ys = l := by
  obtain ⟨lx, ly, tx, ty, y0, s0, g⟩ := rchk_ok hk
  have py := val_pos' wy ty y0
  obtain ⟨a1, a2⟩ := fr_num (x := sg n (val xs)) py (by rw [gcd_sg]; exact g)
  obtain ⟨b1, b2⟩ := fr_num (x := sg (rneg l) (rnu l)) h.2.2.1 (by rw [gcd_sg]; exact h.2.2.2.2)
  have e : Rat.divInt (sg n (val xs)) (val ys) = Rat.divInt (sg (rneg l) (rnu l)) (rde l) := hq
  rw [e] at a1 a2
  have n0 : 0 ≤ rnu l := (numTo_bounds h.1.2.2 _).1
  obtain ⟨c1, c2⟩ := zsg_parts (val_nonneg wx) n0 (s0.imp id (fun t => val_pos' wx tx t)) h.2.2.2.1 (a1.symm.trans b1)
  rw [c1]
  exact says_text h wy ty c2 (by omega)

theorem tcut_eq (l : List UInt8) : cut (32 :: l) [32] = ([], l, true) := by
  unfold cut
  rw [index_one, indexByte]
  simp
theorem tcut_ne (c : UInt8) (l : List UInt8) (h : c ≠ 32) : cut (c :: l) [32] = (c :: (cut l [32]).1, (cut l [32]).2.1, (cut l [32]).2.2) := by
  have hb : (c == 32) = false := by simpa using h
  unfold cut
  rw [index_one, index_one, indexByte, hb]
  by_cases hi : indexByte l 32 = -1
  · rw [hi]
    simp
  · have h0 : 0 ≤ indexByte l 32 := by
      have := index_ge l [32]
      rw [index_one] at this
      omega
    have h1 : (indexByte l 32 == -1) = false := by simpa using hi
    rw [h1]
    simp only [Bool.false_eq_true, if_false]
    rw [if_pos (by omega), if_pos h0]
    have e : (indexByte l 32 + 1).toNat = (indexByte l 32).toNat + 1 := by omega
    rw [e]
    simp
theorem tcut_split : ∀ (a b : List UInt8), (∀ x ∈ a, x ≠ 32) → cut (a ++ 32 :: b) [32] = (a, b, true)
  | [], b, _ => tcut_eq b
  | c :: a, b, h => by
    show cut (c :: (a ++ 32 :: b)) [32] = _
    rw [tcut_ne c _ (h c (by simp)), tcut_split a b (fun x hx => h x (by simp [hx]))]
theorem tcut_parts : ∀ l : List UInt8, ((cut l [32]).2.2 = true ∧ l = (cut l [32]).1 ++ 32 :: (cut l [32]).2.1) ∨ ((cut l [32]).2.1 = [])
  | [] => .inr (by decide)
  | c :: l => by
    by_cases h : c = 32
    · subst h; rw [tcut_eq]; exact .inl ⟨rfl, rfl⟩
    · rw [tcut_ne c l h]
      rcases tcut_parts l with ⟨h1, h2⟩ | h2
      · refine .inl ⟨h1, ?_⟩
        show c :: l = c :: ((cut l [32]).1 ++ 32 :: (cut l [32]).2.1)
        rw [← h2]
      · exact .inr h2
theorem rgood_nil : ¬ rgood [] := fun h => by
  have h1 := h.1.1
  have e : rup [] = [] := by decide
  rw [e] at h1
  exact absurd h1 (by decide)
theorem rtext_bytes (n : Bool) (xs ys : List Int) : ∀ x ∈ rtext n xs ys, x ≠ 32 := by
  have hd : ∀ k : Nat, ∀ x ∈ decDigits k, x ≠ 32 := fun k x hx e => by
    have := (zdec_all k).1 x hx
    rw [e] at this; exact absurd this (by decide)
  rw [rtext_eq]
  intro x hx
  rcases List.mem_append.1 hx with hx | hx
  · cases n with
    | false => simp at hx
    | true => simp at hx; rw [hx]; decide
  · rcases List.mem_append.1 hx with hx | hx
    · exact hd _ x hx
    · split at hx
      · simp at hx
      · rcases List.mem_cons.1 hx with hx | hx
        · rw [hx]; decide
        · exact hd _ x hx
theorem zform2 {n : Bool} {xs ys : List Int} (h : rchk n xs ys = 0) : rform n xs ys := by
  unfold rchk at h
  by_cases hl : 2048 < max xs.length ys.length
  · rw [if_pos hl] at h; exact absurd h (by decide)
  · rw [if_neg hl] at h
    by_cases c : rform n xs ys
    · exact c
    · rw [if_neg c] at h; exact absurd h (by decide)
theorem znotlong {n : Bool} {xs ys : List Int} (wx : Wd xs) (wy : Wd ys) (h : rchk n xs ys = 0) : ¬ rlong (rq n xs ys) := fun hl => absurd ((RTells.self wx wy h).long rfl hl).2.2.2 (by decide)
theorem zbytes {S : ByteArray} {l : List UInt8} (e : S.data.toList = l) : S = ⟨l.toArray⟩ := by
  cases S with | mk d => simp only at e ⊢; rw [← Array.toArray_toList (xs := d), e]
theorem gcut_text (n : Bool) (xs ys : List Int) (m : Bool) (us vs : List Int) : gp1 (gtext n xs ys m us vs) = rtext n xs ys ∧ gp2 (gtext n xs ys m us vs) = rtext m us vs := by
  have c4 : cut (gtext n xs ys m us vs) [32] = (rtext n xs ys, rtext m us vs, true) := tcut_split _ _ (rtext_bytes n xs ys)
  unfold gp1 gp2
  rw [c4]
  exact ⟨rfl, rfl⟩
theorem ggood_text {l : List UInt8} (h : ggood l) : l = gp1 l ++ 32 :: gp2 l := by
  rcases tcut_parts l with ⟨_, e⟩ | e
  · exact e
  · have e' : gp2 l = [] := e
    have h2 := h.2
    rw [e'] at h2
    exact absurd h2 rgood_nil
end Go.Proofs.YtdnkjbhkfaejmaaGreatDoor

/- Complex fractions that are good: what the calls tell of them, by their fractions. -/
namespace Go.Proofs.YtdnkjbhkfaejmaaGreatDoor
open Go.RowKit
set_option linter.unusedVariables false
set_option linter.unusedSimpArgs false

/-- Both parts may be, and are these. -/
def GQ (n : Bool) (xs ys : List Int) (m : Bool) (us vs : List Int) (q1 q2 : Rat) : Prop := (rchk n xs ys = 0 ∧ rq n xs ys = q1) ∧ rchk m us vs = 0 ∧ rq m us vs = q2
def GOk2 (w : World) (q1 q2 : Rat) (x : Ending) (w' : World) : Prop := ∃ n a ca xs b cb ys m c cc us d cd vs, x = .returned (.tuple #[.agg #[.bool n, .slice a (List.length xs) ca, .slice b (List.length ys) cb, .bool m, .slice c (List.length us) cc, .slice d (List.length vs) cd], .int .i64 0]) ∧ Hid (Sl w' (.slice a (List.length xs) ca) xs ∧ Sl w' (.slice b (List.length ys) cb) ys ∧ Sl w' (.slice c (List.length us) cc) us ∧ Sl w' (.slice d (List.length vs) cd) vs) ∧ Hid (GQ n xs ys m us vs q1 q2) ∧ Hid (Below w.heap.size w w')
def ROk2 (w : World) (q : Rat) (x : Ending) (w' : World) : Prop := ∃ n a ca xs b cb ys, x = .returned (.tuple #[.agg #[.bool n, .slice a (List.length xs) ca, .slice b (List.length ys) cb], .int .i64 0]) ∧ Hid (Sl w' (.slice a (List.length xs) ca) xs ∧ Sl w' (.slice b (List.length ys) cb) ys) ∧ Hid (rchk n xs ys = 0 ∧ rq n xs ys = q) ∧ Hid (Below w.heap.size w w')
theorem gok_of {f : Nat} {args : Array Value} {w : World} {E : Int} {L : Prop} {q1 q2 : Rat} (H : Calls Tryz.prog f args w (GToldC w E L q1 q2)) (hE : E = 0) (hL : ¬ L) : Calls Tryz.prog f args w (GOk2 w q1 q2) := by
  subst hE
  refine Calls.mono H ?_
  rintro x w' ⟨n, a, ca, xs, b, cb, ys, m, c, cc, us, d, cd, vs, code, rfl, ⟨o1, o2, o3, o4⟩, t, hb, _⟩
  obtain ⟨rfl, k1, k2⟩ := t.good rfl hL
  exact ⟨n, a, ca, xs, b, cb, ys, m, c, cc, us, d, cd, vs, rfl, ⟨Sl.own o1 t.wd.1, Sl.own o2 t.wd.2.1, Sl.own o3 t.wd.2.2.1, Sl.own o4 t.wd.2.2.2⟩, ⟨k1, k2⟩, hb⟩
theorem rok_of {f : Nat} {args : Array Value} {w : World} {E : Int} {q : Rat} (H : Calls Tryz.prog f args w (RToldA w E q)) (hE : E = 0) (hL : ¬ rlong q) : Calls Tryz.prog f args w (ROk2 w q) := by
  subst hE
  refine Calls.mono H ?_
  rintro x w' ⟨n, v, xs, u, ys, code, rfl, o1, o2, t, hb, _⟩
  obtain ⟨rfl, k⟩ := t.good rfl hL
  obtain ⟨a, ca, rfl⟩ := own_slice' o1
  obtain ⟨b, cb, rfl⟩ := own_slice' o2
  exact ⟨n, a, ca, xs, b, cb, ys, rfl, ⟨Sl.own o1 t.wx, Sl.own o2 t.wy⟩, k, hb⟩
theorem GQ.chk {n m : Bool} {xs ys us vs : List Int} {q1 q2 : Rat} (h : GQ n xs ys m us vs q1 q2) : gchk n xs ys m us vs = 0 := by unfold gchk; rw [h.1.1, fstE_zero, h.2.1]
theorem GQ.same {n m n' m' : Bool} {xs ys us vs xs' ys' us' vs' : List Int} {q1 q2 : Rat} (h : GQ n xs ys m us vs q1 q2) (g : GQ n' xs' ys' m' us' vs' q1 q2) (wx : Wd xs) (wy : Wd ys) (wu : Wd us) (wv : Wd vs) (wx' : Wd xs') (wy' : Wd ys') (wu' : Wd us') (wv' : Wd vs') : (n = n' ∧ xs = xs' ∧ ys = ys') ∧ m = m' ∧ us = us' ∧ vs = vs' :=
  ⟨rq_inj wx wy wx' wy' h.1.1 g.1.1 (h.1.2.trans g.1.2.symm), rq_inj wu wv wu' wv' h.2.1 g.2.1 (h.2.2.trans g.2.2.symm)⟩
theorem GQ.len {n m : Bool} {xs ys us vs : List Int} {q1 q2 : Rat} (h : GQ n xs ys m us vs q1 q2) : xs.length ≤ 2048 ∧ ys.length ≤ 2048 ∧ us.length ≤ 2048 ∧ vs.length ≤ 2048 := ⟨(rchk_ok h.1.1).1, (rchk_ok h.1.1).2.1, (rchk_ok h.2.1).1, (rchk_ok h.2.1).2.1⟩
theorem rlong_neg {q : Rat} : rlong (-q) ↔ rlong q := by
  unfold rlong
  rw [Rat.neg_num, Int.natAbs_neg, Rat.neg_den]
theorem GQ.short {n m : Bool} {xs ys us vs : List Int} {q1 q2 : Rat} (h : GQ n xs ys m us vs q1 q2) (wx : Wd xs) (wy : Wd ys) (wu : Wd us) (wv : Wd vs) : ¬ rlong q1 ∧ ¬ rlong q2 := by
  rw [← h.1.2, ← h.2.2]
  exact ⟨znotlong wx wy h.1.1, znotlong wu wv h.2.1⟩
/-- The digits of a number of few words are few. -/
theorem zdec_few {xs : List Int} (wx : Wd xs) {k : Nat} (h : xs.length ≤ k) : (Lib.decDigits (val xs).toNat).length ≤ 10 * k + 1 := by
  rw [Lib.decDigits_length]
  have h1 := hgt_val wx h
  have h0 := val_nonneg wx
  have h2 : (2 : Nat) ^ (32 * k) ≤ 10 ^ (10 * k) := by
    have e1 : (2 : Nat) ^ (32 * k) = (2 ^ 32) ^ k := by rw [Nat.pow_mul]
    have e2 : (10 : Nat) ^ (10 * k) = (10 ^ 10) ^ k := by rw [Nat.pow_mul]
    rw [e1, e2]
    exact Nat.pow_le_pow_left (by decide) k
  have h3 : (val xs).toNat < 10 ^ (10 * k + 1) := by
    rw [Nat.pow_succ]
    have : 0 < 10 ^ (10 * k) := Nat.pow_pos (by decide)
    omega
  exact zdig_short h3
theorem zrtext_few {n : Bool} {xs ys : List Int} (wx : Wd xs) (wy : Wd ys) {k : Nat} (hx : xs.length ≤ k) (hy : ys.length ≤ k) : (rtext n xs ys).length ≤ 20 * k + 4 := by
  have h1 := zdec_few wx hx
  have h2 := zdec_few wy hy
  rw [rtext_eq]
  have h3 : (if n then [45] else [] : List UInt8).length ≤ 1 := by cases n <;> simp
  have h4 : (if ys = [1] then [] else 47 :: Lib.decDigits (val ys).toNat : List UInt8).length ≤ 10 * k + 2 := by
    by_cases hy1 : ys = [1]
    · rw [if_pos hy1]; simp
    · rw [if_neg hy1, List.length_cons]; omega
  rw [List.length_append, List.length_append]
  omega
theorem zgtext_few {n m : Bool} {xs ys us vs : List Int} (wx : Wd xs) (wy : Wd ys) (wu : Wd us) (wv : Wd vs) (hx : xs.length ≤ 20) (hy : ys.length ≤ 20) (hu : us.length ≤ 20) (hv : vs.length ≤ 20) : (gtext n xs ys m us vs).length ≤ 809 := by
  have h1 := zrtext_few (n := n) wx wy hx hy
  have h2 := zrtext_few (n := m) wu wv hu hv
  unfold gtext
  rw [List.length_append, List.length_cons]
  omega
theorem zshort_mul {n m : Bool} {xs ys us vs : List Int} (wx : Wd xs) (wy : Wd ys) (wu : Wd us) (wv : Wd vs) (h1 : rchk n xs ys = 0) (h2 : rchk m us vs = 0) (lx : xs.length ≤ 20) (ly : ys.length ≤ 20) (lu : us.length ≤ 20) (lv : vs.length ≤ 20) : ¬ rlong (rq n xs ys * rq m us vs) := by
  obtain ⟨k, hk⟩ : ∃ k : Nat, k = 20 := ⟨_, rfl⟩
  rw [← hk] at lx ly lu lv
  have h := (hgt_words wx wy h1 lx ly).mul (hgt_words wu wv h2 lu lv)
  rw [← Nat.pow_add] at h
  exact h.short (by omega)
theorem zshort_div {n m : Bool} {xs ys us vs : List Int} (wx : Wd xs) (wy : Wd ys) (wu : Wd us) (wv : Wd vs) (h1 : rchk n xs ys = 0) (h2 : rchk m us vs = 0) (lx : xs.length ≤ 20) (ly : ys.length ≤ 20) (lu : us.length ≤ 20) (lv : vs.length ≤ 20) : ¬ rlong (rq n xs ys / rq m us vs) := by
  obtain ⟨k, hk⟩ : ∃ k : Nat, k = 20 := ⟨_, rfl⟩
  rw [← hk] at lx ly lu lv
  have h := (hgt_words wx wy h1 lx ly).div (hgt_words wu wv h2 lu lv)
  rw [← Nat.pow_add] at h
  exact h.short (by omega)
theorem gsame_eq (n : Bool) (a : Option Addr) (ca : Nat) (xs : List Int) (b : Option Addr) (cb : Nat) (ys : List Int) (m : Bool) (c : Option Addr) (cc : Nat) (us : List Int) (d : Option Addr) (cd : Nat) (vs : List Int) (n2 : Bool) (a2 : Option Addr) (ca2 : Nat) (xs2 : List Int) (b2 : Option Addr) (cb2 : Nat) (ys2 : List Int) (m2 : Bool) (c2 : Option Addr) (cc2 : Nat) (us2 : List Int) (d2 : Option Addr) (cd2 : Nat) (vs2 : List Int) (w : World) (hs1 : Sl w (.slice a xs.length ca) xs ∧ Sl w (.slice b ys.length cb) ys ∧ Sl w (.slice c us.length cc) us ∧ Sl w (.slice d vs.length cd) vs) (hs2 : Sl w (.slice a2 xs2.length ca2) xs2 ∧ Sl w (.slice b2 ys2.length cb2) ys2 ∧ Sl w (.slice c2 us2.length cc2) us2 ∧ Sl w (.slice d2 vs2.length cd2) vs2) {q1 q2 : Rat} (h : GQ n xs ys m us vs q1 q2) (g : GQ n2 xs2 ys2 m2 us2 vs2 q1 q2) :
    Calls Tryz.prog 10 #[.agg #[.bool n, .slice a (List.length xs) ca, .slice b (List.length ys) cb, .bool m, .slice c (List.length us) cc, .slice d (List.length vs) cd], .agg #[.bool n2, .slice a2 (List.length xs2) ca2, .slice b2 (List.length ys2) cb2, .bool m2, .slice c2 (List.length us2) cc2, .slice d2 (List.length vs2) cd2]] w fun x w' => x = .returned (.bool true) ∧ Below w.heap.size w w' := by
  have l1 := h.len
  obtain ⟨⟨rfl, rfl, rfl⟩, rfl, rfl, rfl⟩ := h.same g hs1.1.wd hs1.2.1.wd hs1.2.2.1.wd hs1.2.2.2.wd hs2.1.wd hs2.2.1.wd hs2.2.2.1.wd hs2.2.2.2.wd
  exact gsameGauss_eq n a ca xs b cb ys m c cc us d cd vs a2 ca2 b2 cb2 c2 cc2 d2 cd2 w hs1.1 hs1.2.1 hs1.2.2.1 hs1.2.2.2 hs2.1 hs2.2.1 hs2.2.2.1 hs2.2.2.2 (by omega) (by omega) (by omega) (by omega)
/-- Print of a good one whose text is short. -/
theorem gprint_good (n : Bool) (a : Option Addr) (ca : Nat) (xs : List Int) (b : Option Addr) (cb : Nat) (ys : List Int) (m : Bool) (c : Option Addr) (cc : Nat) (us : List Int) (d : Option Addr) (cd : Nat) (vs : List Int) (w : World) (sx : Sl w (.slice a xs.length ca) xs) (sy : Sl w (.slice b ys.length cb) ys) (su : Sl w (.slice c us.length cc) us) (sv : Sl w (.slice d vs.length cd) vs) (htab : Tab w) (hk : gchk n xs ys m us vs = 0) (hl : (gtext n xs ys m us vs).length ≤ 65536) :
    Calls Tryz.prog 7 #[.agg #[.bool n, .slice a (List.length xs) ca, .slice b (List.length ys) cb, .bool m, .slice c (List.length us) cc, .slice d (List.length vs) cd]] w fun x w' => x = .returned (.tuple #[.string ⟨(gtext n xs ys m us vs).toArray⟩, .int .i64 0]) ∧ Below w.heap.size w w' := by
  refine Calls.mono (gPrint_any n a ca xs b cb ys m c cc us d cd vs w sx sy su sv htab) ?_
  rintro x w' ⟨S, rfl, hS, _, hb⟩
  have hg : gpErr n xs ys m us vs = 0 := by unfold gpErr; rw [hk, fstE_zero, if_neg (by omega)]
  rw [hg, zbytes (hS hg)]
  exact ⟨rfl, hb⟩
/-- Parse of the text of a good one. -/
theorem gparse_text {n m : Bool} {xs ys us vs : List Int} (wx : Wd xs) (wy : Wd ys) (wu : Wd us) (wv : Wd vs) (hk : gchk n xs ys m us vs = 0) (hl : (gtext n xs ys m us vs).length ≤ 65536) (w : World) :
    Calls Tryz.prog 8 #[.string ⟨(gtext n xs ys m us vs).toArray⟩] w (GOk2 w (rq n xs ys) (rq m us vs)) := by
  obtain ⟨g1, g2⟩ := gchk_ok hk
  obtain ⟨p1, p2⟩ := gcut_text n xs ys m us vs
  have hs : (⟨(gtext n xs ys m us vs).toArray⟩ : ByteArray).size ≤ 65536 := by show (gtext n xs ys m us vs).toArray.size ≤ _; simpa using hl
  have e0 : (⟨(gtext n xs ys m us vs).toArray⟩ : ByteArray).data.toList = gtext n xs ys m us vs := by simp
  have H := gParse_any ⟨(gtext n xs ys m us vs).toArray⟩ w (by omega)
  have hE : gpE ⟨(gtext n xs ys m us vs).toArray⟩ = 0 := gpE_good hs (by
    rw [e0]
    unfold ggood
    rw [p1, p2]
    exact ⟨rgood_text wx wy (zform2 g1), rgood_text wu wv (zform2 g2)⟩)
  rw [e0, p1, p2, rpq_text n wx wy, rpq_text m wu wv] at H
  refine gok_of H hE ?_
  unfold gplong
  rw [p1, p2, rpq_text n wx wy, rpq_text m wu wv]
  rintro (h | h)
  · exact znotlong wx wy g1 h
  · exact znotlong wu wv g2 h
/-- Parse of any text: where one is told it may be, and prints as the text; else nothing is told. -/
theorem gparse_both (t : ByteArray) (w : World) (hm : t.size ≤ 2000) :
    Calls Tryz.prog 8 #[.string t] w fun x w' => ∃ n a ca xs b cb ys m c cc us d cd vs code, x = .returned (.tuple #[.agg #[.bool n, .slice a (List.length xs) ca, .slice b (List.length ys) cb, .bool m, .slice c (List.length us) cc, .slice d (List.length vs) cd], .int .i64 code]) ∧ Hid (Sl w' (.slice a (List.length xs) ca) xs ∧ Sl w' (.slice b (List.length ys) cb) ys ∧ Sl w' (.slice c (List.length us) cc) us ∧ Sl w' (.slice d (List.length vs) cd) vs) ∧ Hid (code = 0 → gchk n xs ys m us vs = 0 ∧ gtext n xs ys m us vs = t.data.toList) ∧ Hid (code ≠ 0 → n = false ∧ xs = [] ∧ ys = [] ∧ m = false ∧ us = [] ∧ vs = []) ∧ Hid (Below w.heap.size w w') := by
  have hz : t.size ≤ 65536 := by omega
  refine Calls.mono (gParse_any t w (by omega)) ?_
  rintro x w' ⟨n, a, ca, xs, b, cb, ys, m, c, cc, us, d, cd, vs, code, rfl, ⟨o1, o2, o3, o4⟩, tt, hb, _⟩
  refine ⟨n, a, ca, xs, b, cb, ys, m, c, cc, us, d, cd, vs, code, rfl, ⟨Sl.own o1 tt.wd.1, Sl.own o2 tt.wd.2.1, Sl.own o3 tt.wd.2.2.1, Sl.own o4 tt.wd.2.2.2⟩, ?_, ?_, hb⟩
  · intro hc
    have hE : gpE t = 0 := Classical.byContradiction fun hn => hn (((tt.bad hn).2).symm.trans hc)
    have hL : ¬ gplong t.data.toList := fun hl => absurd ((tt.long hE hl).2.symm.trans hc) (by decide)
    have hgd : ggood t.data.toList := Classical.byContradiction fun hn => by
      rw [gpE_bad hz hn] at hE; exact absurd hE (by decide)
    obtain ⟨_, ⟨k1, g1⟩, k2, g2⟩ := tt.good hE hL
    refine ⟨?_, ?_⟩
    · unfold gchk
      rw [k1, fstE_zero, k2]
    · unfold gtext
      rw [zread_text hgd.1 tt.wd.1 tt.wd.2.1 k1 g1, zread_text hgd.2 tt.wd.2.2.1 tt.wd.2.2.2 k2 g2]
      exact (ggood_text hgd).symm
  · intro hc
    by_cases hE : gpE t = 0
    · by_cases hL : gplong t.data.toList
      · exact (tt.long hE hL).1
      · exact absurd (tt.good hE hL).1 hc
    · exact (tt.bad hE).1
end Go.Proofs.YtdnkjbhkfaejmaaGreatDoor

/- GaussBack: of every complex fraction and text: there and back. -/
namespace Go.Proofs.YtdnkjbhkfaejmaaGreatDoor
open Go.RowKit
set_option linter.unusedVariables false
set_option linter.unusedSimpArgs false

theorem zsl_nil2 (w : World) : Sl w (.slice none 0 0) [] := ⟨none, 0, rfl, rfl, Wd.nil, .inl rfl, Nat.le_refl _, Nat.zero_le _, fun _ => rfl⟩
theorem gSame_eq (n : Bool) (a : Option Addr) (ca : Nat) (xs : List Int) (b : Option Addr) (cb : Nat) (ys : List Int) (m : Bool) (c : Option Addr) (cc : Nat) (us : List Int) (d : Option Addr) (cd : Nat) (vs : List Int) (n2 : Bool) (a2 : Option Addr) (ca2 : Nat) (xs2 : List Int) (b2 : Option Addr) (cb2 : Nat) (ys2 : List Int) (m2 : Bool) (c2 : Option Addr) (cc2 : Nat) (us2 : List Int) (d2 : Option Addr) (cd2 : Nat) (vs2 : List Int) (w : World) (hs1 : Sl w (.slice a xs.length ca) xs ∧ Sl w (.slice b ys.length cb) ys ∧ Sl w (.slice c us.length cc) us ∧ Sl w (.slice d vs.length cd) vs) (hs2 : Sl w (.slice a2 xs2.length ca2) xs2 ∧ Sl w (.slice b2 ys2.length cb2) ys2 ∧ Sl w (.slice c2 us2.length cc2) us2 ∧ Sl w (.slice d2 vs2.length cd2) vs2) {q1 q2 : Rat} (h : GQ n xs ys m us vs q1 q2) (g : GQ n2 xs2 ys2 m2 us2 vs2 q1 q2) :
    Calls Tryz.prog 9 #[.agg #[.bool n, .slice a xs.length ca, .slice b ys.length cb, .bool m, .slice c us.length cc, .slice d vs.length cd], .agg #[.bool n2, .slice a2 xs2.length ca2, .slice b2 ys2.length cb2, .bool m2, .slice c2 us2.length cc2, .slice d2 vs2.length cd2]] w fun x w' => x = .returned (.bool true) ∧ Below w.heap.size w w' := by
  have l1 := h.len
  have l2 := g.len
  refine Calls.mono (gSame_any n a ca xs b cb ys m c cc us d cd vs n2 a2 ca2 xs2 b2 cb2 ys2 m2 c2 cc2 us2 d2 cd2 vs2 w hs1.1 hs1.2.1 hs1.2.2.1 hs1.2.2.2 hs2.1 hs2.2.1 hs2.2.2.1 hs2.2.2.2 (by omega) (by omega) (by omega) (by omega) (by omega) (by omega) (by omega) (by omega)) ?_
  rintro x w' ⟨rfl, hb⟩
  obtain ⟨e1, e2⟩ := h.same g hs1.1.wd hs1.2.1.wd hs1.2.2.1.wd hs1.2.2.2.wd hs2.1.wd hs2.2.1.wd hs2.2.2.1.wd hs2.2.2.2.wd
  rw [decide_eq_true e1, decide_eq_true e2, h.chk]
  exact ⟨rfl, hb⟩

set_option maxHeartbeats 12800000 in
set_option maxRecDepth 100000 in
theorem gaussBack_walk (n : Bool) (a : Option Addr) (ca : Nat) (xs : List Int) (b : Option Addr) (cb : Nat) (ys : List Int) (m : Bool) (c : Option Addr) (cc : Nat) (us : List Int) (d : Option Addr) (cd : Nat) (vs : List Int) (t0 : ByteArray) (w : World) (ht0 : t0.size ≤ 9223372036854775807) (sx : Sl w (.slice a xs.length ca) xs) (sy : Sl w (.slice b ys.length cb) ys) (su : Sl w (.slice c us.length cc) us) (sv : Sl w (.slice d vs.length cd) vs) (htab : Tab w) :
    Calls Tryz.prog 3 #[.agg #[.bool n, .slice a xs.length ca, .slice b ys.length cb, .bool m, .slice c us.length cc, .slice d vs.length cd], .string t0] w fun x w' => x = .returned (.bool true) ∧ Below w.heap.size w w' := by
  have HX := hid (Box.made w 26 #[.bool n, .slice a xs.length ca, .slice b ys.length cb, .bool m, .slice c us.length cc, .slice d vs.length cd])
  have HW0 := hid (alloc_later w (.cells #[.bool n, .slice a xs.length ca, .slice b ys.length cb, .bool m, .slice c us.length cc, .slice d vs.length cd] 26))
  obtain ⟨X, hX⟩ : ∃ X, w.alloc (.cells #[.bool n, .slice a xs.length ca, .slice b ys.length cb, .bool m, .slice c us.length cc, .slice d vs.length cd] 26) = X := ⟨_, rfl⟩
  rw [hX] at HX HW0
  have HA0 := hid HX.out
  have SA0 := hid (And.intro (sx.later HW0.out) (And.intro (sy.later HW0.out) (And.intro (su.later HW0.out) (sv.later HW0.out))))
  have HTAB : Hid (∀ V, Below w.heap.size w V → Tab V) := fun V hv => htab.later hv
  have HAW := hid (gawake_any X (htab.later HW0.out))
  clear HX sx sy su sv htab
  go_enter Tryz.func3, Tryz.ntmps3
  go_wp2_with fail
  refine Calls.mono (HAW.out) ?_
  rintro x w1 ⟨rfl, hb1⟩
  have HW1 := hid (bt HW0.out hb1)
  have HA1 := hid (HA0.out.later hb1 HA0.out.lt)
  have SA1 := hid (And.intro (SA0.out.1.later hb1) (And.intro (SA0.out.2.1.later hb1) (And.intro (SA0.out.2.2.1.later hb1) (SA0.out.2.2.2.later hb1))))
  clear HW0 HA0 SA0
  clear hb1 HAW
  have HFT := hid (gfit_any n a ca xs b cb ys m c cc us d cd vs w1 SA1.out.1 SA1.out.2.1 SA1.out.2.2.1 SA1.out.2.2.2)
  have A_0 : w1.cell? ⟨w.heap.size, 0, none⟩ = some (.bool n) := HA1.out.cell 0
  have A_1 : w1.cell? ⟨w.heap.size, 1, none⟩ = some (.slice a xs.length ca) := HA1.out.cell 1
  have A_2 : w1.cell? ⟨w.heap.size, 2, none⟩ = some (.slice b ys.length cb) := HA1.out.cell 2
  have A_3 : w1.cell? ⟨w.heap.size, 3, none⟩ = some (.bool m) := HA1.out.cell 3
  have A_4 : w1.cell? ⟨w.heap.size, 4, none⟩ = some (.slice c us.length cc) := HA1.out.cell 4
  have A_5 : w1.cell? ⟨w.heap.size, 5, none⟩ = some (.slice d vs.length cd) := HA1.out.cell 5
  go_wp2_with fail
  refine Calls.mono (HFT.out) ?_
  rintro x w2 ⟨ft, rfl, hft, hb2⟩
  clear A_0 A_1 A_2 A_3 A_4 A_5
  have HW2 := hid (bt HW1.out hb2)
  have HA2 := hid (HA1.out.later hb2 HA1.out.lt)
  have SA2 := hid (And.intro (SA1.out.1.later hb2) (And.intro (SA1.out.2.1.later hb2) (And.intro (SA1.out.2.2.1.later hb2) (SA1.out.2.2.2.later hb2))))
  clear HW1 HA1 SA1
  have HFF := hid hft
  clear hb2 HFT hft
  go_upto_if 16 with fail
  go_cut [6, 7, 8, 9] from 17 (fun s0_ s1_ s2_ s3_ wx => Hid (Below w2.heap.size w2 wx))
  case first =>
    cases ft with
    | false =>
      go_wp2_with fail
      go_meet
      exact Below.refl _ _
    | true =>
      have HF := hid (HFF.out.1 rfl)
      clear HFF
      have HTL := hid (zgtext_few (n := n) (m := m) SA2.out.1.wd SA2.out.2.1.wd SA2.out.2.2.1.wd SA2.out.2.2.2.wd HF.out.2.1 HF.out.2.2.1 HF.out.2.2.2.1 HF.out.2.2.2.2)
      have HPA := hid (gprint_good n a ca xs b cb ys m c cc us d cd vs w2 SA2.out.1 SA2.out.2.1 SA2.out.2.2.1 SA2.out.2.2.2 (HTAB.out _ HW2.out) HF.out.1 (by have := HTL.out; omega))
      have HRD := hid (fun V => gparse_text (n := n) (m := m) SA2.out.1.wd SA2.out.2.1.wd SA2.out.2.2.1.wd SA2.out.2.2.2.wd HF.out.1 (by have := HTL.out; omega) V)
      generalize (⟨(gtext n xs ys m us vs).toArray⟩ : ByteArray) = TX at *
      have HZ2 := hid (Below.refl w2.heap.size w2)
      have A_0 : w2.cell? ⟨w.heap.size, 0, none⟩ = some (.bool n) := HA2.out.cell 0
      have A_1 : w2.cell? ⟨w.heap.size, 1, none⟩ = some (.slice a xs.length ca) := HA2.out.cell 1
      have A_2 : w2.cell? ⟨w.heap.size, 2, none⟩ = some (.slice b ys.length cb) := HA2.out.cell 2
      have A_3 : w2.cell? ⟨w.heap.size, 3, none⟩ = some (.bool m) := HA2.out.cell 3
      have A_4 : w2.cell? ⟨w.heap.size, 4, none⟩ = some (.slice c us.length cc) := HA2.out.cell 4
      have A_5 : w2.cell? ⟨w.heap.size, 5, none⟩ = some (.slice d vs.length cd) := HA2.out.cell 5
      go_wp2_with fail
      refine Calls.mono (HPA.out) ?_
      rintro x w3 ⟨rfl, hb3⟩
      clear A_0 A_1 A_2 A_3 A_4 A_5
      have HW3 := hid (bt HW2.out hb3)
      have HA3 := hid (HA2.out.later hb3 HA2.out.lt)
      have SA3 := hid (And.intro (SA2.out.1.later hb3) (And.intro (SA2.out.2.1.later hb3) (And.intro (SA2.out.2.2.1.later hb3) (SA2.out.2.2.2.later hb3))))
      clear HW2 HA2 SA2
      have HZ3 := hid (bt HZ2.out hb3)
      clear hb3 HPA HTL
      go_wp2_with fail
      refine Calls.mono (HRD.out _) ?_
      rintro x w4 ⟨n1, a1, ca1, xs1, b1, cb1, ys1, m1, c1, cc1, us1, d1, cd1, vs1, rfl, hs1, hq1, hb4⟩
      have HW4 := hid (bt HW3.out hb4.out)
      have HA4 := hid (HA3.out.later hb4.out HA3.out.lt)
      have SA4 := hid (And.intro (SA3.out.1.later hb4.out) (And.intro (SA3.out.2.1.later hb4.out) (And.intro (SA3.out.2.2.1.later hb4.out) (SA3.out.2.2.2.later hb4.out))))
      clear HW3 HA3 SA3
      have HZ4 := hid (bt HZ3.out hb4.out)
      have SB := hs1
      have QB := hq1
      clear hb4 HRD
      have GB := hid (Box.made w4 26 #[.bool n1, .slice a1 xs1.length ca1, .slice b1 ys1.length cb1, .bool m1, .slice c1 us1.length cc1, .slice d1 vs1.length cd1])
      have LB := hid (alloc_later w4 (.cells #[.bool n1, .slice a1 xs1.length ca1, .slice b1 ys1.length cb1, .bool m1, .slice c1 us1.length cc1, .slice d1 vs1.length cd1] 26))
      obtain ⟨YB, hYB⟩ : ∃ YB, w4.alloc (.cells #[.bool n1, .slice a1 xs1.length ca1, .slice b1 ys1.length cb1, .bool m1, .slice c1 us1.length cc1, .slice d1 vs1.length cd1] 26) = YB := ⟨_, rfl⟩
      rw [hYB] at GB LB
      have HW5 := hid (bt HW4.out LB.out)
      have HA5 := hid (HA4.out.later LB.out HA4.out.lt)
      have SA5 := hid (And.intro (SA4.out.1.later LB.out) (And.intro (SA4.out.2.1.later LB.out) (And.intro (SA4.out.2.2.1.later LB.out) (SA4.out.2.2.2.later LB.out))))
      have SB5 := hid (And.intro (SB.out.1.later LB.out) (And.intro (SB.out.2.1.later LB.out) (And.intro (SB.out.2.2.1.later LB.out) (SB.out.2.2.2.later LB.out))))
      clear HW4 HA4 SA4 SB
      have HZ5 := hid (bt HZ4.out LB.out)
      have HQA : Hid (GQ n xs ys m us vs (rq n xs ys) (rq m us vs)) := ⟨⟨(gchk_ok HF.out.1).1, rfl⟩, (gchk_ok HF.out.1).2, rfl⟩
      have HSM := hid (gSame_eq n a ca xs b cb ys m c cc us d cd vs n1 a1 ca1 xs1 b1 cb1 ys1 m1 c1 cc1 us1 d1 cd1 vs1 YB SA5.out SB5.out HQA.out QB.out)
      have A_0 : YB.cell? ⟨w.heap.size, 0, none⟩ = some (.bool n) := HA5.out.cell 0
      have A_1 : YB.cell? ⟨w.heap.size, 1, none⟩ = some (.slice a xs.length ca) := HA5.out.cell 1
      have A_2 : YB.cell? ⟨w.heap.size, 2, none⟩ = some (.slice b ys.length cb) := HA5.out.cell 2
      have A_3 : YB.cell? ⟨w.heap.size, 3, none⟩ = some (.bool m) := HA5.out.cell 3
      have A_4 : YB.cell? ⟨w.heap.size, 4, none⟩ = some (.slice c us.length cc) := HA5.out.cell 4
      have A_5 : YB.cell? ⟨w.heap.size, 5, none⟩ = some (.slice d vs.length cd) := HA5.out.cell 5
      have B_0 : YB.cell? ⟨w4.heap.size, 0, none⟩ = some (.bool n1) := GB.out.cell 0
      have B_1 : YB.cell? ⟨w4.heap.size, 1, none⟩ = some (.slice a1 xs1.length ca1) := GB.out.cell 1
      have B_2 : YB.cell? ⟨w4.heap.size, 2, none⟩ = some (.slice b1 ys1.length cb1) := GB.out.cell 2
      have B_3 : YB.cell? ⟨w4.heap.size, 3, none⟩ = some (.bool m1) := GB.out.cell 3
      have B_4 : YB.cell? ⟨w4.heap.size, 4, none⟩ = some (.slice c1 us1.length cc1) := GB.out.cell 4
      have B_5 : YB.cell? ⟨w4.heap.size, 5, none⟩ = some (.slice d1 vs1.length cd1) := GB.out.cell 5
      go_wp2_with fail
      refine Calls.mono (HSM.out) ?_
      rintro x w5 ⟨rfl, hb5⟩
      clear A_0 A_1 A_2 A_3 A_4 A_5 B_0 B_1 B_2 B_3 B_4 B_5
      have HW6 := hid (bt HW5.out hb5)
      have HA6 := hid (HA5.out.later hb5 HA5.out.lt)
      have HB6 := hid (GB.out.later hb5 GB.out.lt)
      have SA6 := hid (And.intro (SA5.out.1.later hb5) (And.intro (SA5.out.2.1.later hb5) (And.intro (SA5.out.2.2.1.later hb5) (SA5.out.2.2.2.later hb5))))
      have SB6 := hid (And.intro (SB5.out.1.later hb5) (And.intro (SB5.out.2.1.later hb5) (And.intro (SB5.out.2.2.1.later hb5) (SB5.out.2.2.2.later hb5))))
      clear HW5 HA5 GB SA5 SB5
      have HZ6 := hid (bt HZ5.out hb5)
      clear hb5 HSM
      go_wp2_with fail
      go_meet
      exact HZ6
  case rest =>
    have hbc := hid hcut.out
    clear hcut HFF
    have HW3 := hid (bt HW2.out hbc.out)
    clear HW2
    clear hbc
    obtain ⟨v0, hv0⟩ : ∃ v0, wc = v0 := ⟨_, rfl⟩
    subst wc
    have HT0 : Hid ((t0.extract 0 2000).size ≤ 2000) := by show _ ≤ _; rw [ByteArray.size_extract]; omega
    go_upto_if 41 with fail
    go_cut [1] from 42 (fun sv wx => Hid (∃ t : ByteArray, sv = .string t ∧ t.size ≤ 2000 ∧ wx = v0))
    case first =>
      by_cases hlong : 2000 < (t0.size : Int)
      · go_wp2_with fail
        go_meet
        exact ⟨_, rfl, HT0.out, rfl⟩
      · have hle : t0.size ≤ 2000 := by omega
        have HLE := hid hle
        clear hle
        go_wp2_with fail
        go_meet
        exact ⟨t0, rfl, HLE.out, rfl⟩
    case rest =>
      obtain ⟨t, e1, ht, e2⟩ := hcut.out
      subst e1
      subst wc
      clear hcut HT0
      have HPB := hid (gparse_both t v0 ht)
      go_wp2_with fail
      refine Calls.mono (HPB.out) ?_
      rintro x v1 ⟨n2, a2, ca2, xs2, b2, cb2, ys2, m2, c2, cc2, us2, d2, cd2, vs2, code, rfl, hs2, hk2, hn2, hb6⟩
      have HW4 := hid (bt HW3.out hb6.out)
      clear HW3
      have SX := hs2
      clear hb6 HPB
      have GX := hid (Box.made v1 26 #[.bool n2, .slice a2 xs2.length ca2, .slice b2 ys2.length cb2, .bool m2, .slice c2 us2.length cc2, .slice d2 vs2.length cd2])
      have LX := hid (alloc_later v1 (.cells #[.bool n2, .slice a2 xs2.length ca2, .slice b2 ys2.length cb2, .bool m2, .slice c2 us2.length cc2, .slice d2 vs2.length cd2] 26))
      obtain ⟨YX, hYX⟩ : ∃ YX, v1.alloc (.cells #[.bool n2, .slice a2 xs2.length ca2, .slice b2 ys2.length cb2, .bool m2, .slice c2 us2.length cc2, .slice d2 vs2.length cd2] 26) = YX := ⟨_, rfl⟩
      rw [hYX] at GX LX
      have HW5 := hid (bt HW4.out LX.out)
      have SX5 := hid (And.intro (SX.out.1.later LX.out) (And.intro (SX.out.2.1.later LX.out) (And.intro (SX.out.2.2.1.later LX.out) (SX.out.2.2.2.later LX.out))))
      clear HW4 SX
      by_cases hc : code = 0
      · obtain ⟨k1_, k2_⟩ := hk2.out hc
        subst hc
        have HPX := hid (gprint_good n2 a2 ca2 xs2 b2 cb2 ys2 m2 c2 cc2 us2 d2 cd2 vs2 YX SX5.out.1 SX5.out.2.1 SX5.out.2.2.1 SX5.out.2.2.2 (HTAB.out _ HW5.out) k1_ (by
          rw [k2_]
          have e2 : t.data.toList.length = t.size := Array.length_toList
          omega))
        rw [k2_] at HPX
        have HTT : Hid ((⟨t.data.toList.toArray⟩ : ByteArray) = t) := by show _ = _; simp
        rw [HTT.out] at HPX
        clear k1_ k2_ HTT
        have X_0 : YX.cell? ⟨v1.heap.size, 0, none⟩ = some (.bool n2) := GX.out.cell 0
        have X_1 : YX.cell? ⟨v1.heap.size, 1, none⟩ = some (.slice a2 xs2.length ca2) := GX.out.cell 1
        have X_2 : YX.cell? ⟨v1.heap.size, 2, none⟩ = some (.slice b2 ys2.length cb2) := GX.out.cell 2
        have X_3 : YX.cell? ⟨v1.heap.size, 3, none⟩ = some (.bool m2) := GX.out.cell 3
        have X_4 : YX.cell? ⟨v1.heap.size, 4, none⟩ = some (.slice c2 us2.length cc2) := GX.out.cell 4
        have X_5 : YX.cell? ⟨v1.heap.size, 5, none⟩ = some (.slice d2 vs2.length cd2) := GX.out.cell 5
        go_wp2_with fail
        refine Calls.mono (HPX.out) ?_
        rintro x v2 ⟨rfl, hb7⟩
        clear X_0 X_1 X_2 X_3 X_4 X_5
        have HW6 := hid (bt HW5.out hb7)
        have HX6 := hid (GX.out.later hb7 GX.out.lt)
        have SX6 := hid (And.intro (SX5.out.1.later hb7) (And.intro (SX5.out.2.1.later hb7) (And.intro (SX5.out.2.2.1.later hb7) (SX5.out.2.2.2.later hb7))))
        clear HW5 GX SX5
        clear hb7 HPX
        go_wp2_with fail
        go_ret
        exact ⟨rfl, HW6.out⟩
      · have hc1 : (code == 0) = false := by simpa using hc
        have hc2 : (code != 0) = true := by simpa using hc
        obtain ⟨rfl, rfl, rfl, rfl, rfl, rfl⟩ := hn2.out hc
        have HSG := hid (gsameGauss_eq false a2 ca2 [] b2 cb2 [] false c2 cc2 [] d2 cd2 [] none 0 none 0 none 0 none 0 YX SX5.out.1 SX5.out.2.1 SX5.out.2.2.1 SX5.out.2.2.2 (zsl_nil2 _) (zsl_nil2 _) (zsl_nil2 _) (zsl_nil2 _) (by decide) (by decide) (by decide) (by decide))
        have hYX2 : v1.alloc (.cells #[.bool false, .slice a2 0 ca2, .slice b2 0 cb2, .bool false, .slice c2 0 cc2, .slice d2 0 cd2] 26) = YX := hYX
        clear hYX
        have X_0 : YX.cell? ⟨v1.heap.size, 0, none⟩ = some (.bool false) := GX.out.cell 0
        have X_1 : YX.cell? ⟨v1.heap.size, 1, none⟩ = some (.slice a2 0 ca2) := GX.out.cell 1
        have X_2 : YX.cell? ⟨v1.heap.size, 2, none⟩ = some (.slice b2 0 cb2) := GX.out.cell 2
        have X_3 : YX.cell? ⟨v1.heap.size, 3, none⟩ = some (.bool false) := GX.out.cell 3
        have X_4 : YX.cell? ⟨v1.heap.size, 4, none⟩ = some (.slice c2 0 cc2) := GX.out.cell 4
        have X_5 : YX.cell? ⟨v1.heap.size, 5, none⟩ = some (.slice d2 0 cd2) := GX.out.cell 5
        go_wp2_with fail
        refine Calls.mono (HSG.out) ?_
        rintro x v2 ⟨rfl, hb7⟩
        clear X_0 X_1 X_2 X_3 X_4 X_5
        have HW6 := hid (bt HW5.out hb7)
        have HX6 := hid (GX.out.later hb7 GX.out.lt)
        have SX6 := hid (And.intro (SX5.out.1.later hb7) (And.intro (SX5.out.2.1.later hb7) (And.intro (SX5.out.2.2.1.later hb7) (SX5.out.2.2.2.later hb7))))
        clear HW5 GX SX5
        clear hb7 HSG
        go_wp2_with fail
        go_ret
        exact ⟨rfl, HW6.out⟩
theorem gaussBack_in (n : Bool) (a : Option Addr) (ka ca : Nat) (xs : List Int) (b : Option Addr) (kb cb : Nat) (ys : List Int) (m : Bool) (c : Option Addr) (kc cc : Nat) (us : List Int) (d : Option Addr) (kd cd : Nat) (vs : List Int) (t : ByteArray) (w : World) (ht : t.size ≤ maxLen) (h1 : Reads w w.heap.size a ka ca xs) (h2 : Reads w w.heap.size b kb cb ys) (h3 : Reads w w.heap.size c kc cc us) (h4 : Reads w w.heap.size d kd cd vs) (htab : Tab w) :
    Calls Tryz.prog 3 #[.agg #[.bool n, .slice a ka ca, .slice b kb cb, .bool m, .slice c kc cc, .slice d kd cd], .string t] w fun x w' => x = .returned (.bool true) ∧ Below w.heap.size w w' := by
  have e1 := h1.1; have e2 := h2.1; have e3 := h3.1; have e4 := h4.1
  subst e1; subst e2; subst e3; subst e4
  have hm : maxLen ≤ 9223372036854775807 := by unfold maxLen; omega
  exact gaussBack_walk n a ca xs b cb ys m c cc us d cd vs t w (by omega) ⟨_, _, rfl, h1⟩ ⟨_, _, rfl, h2⟩ ⟨_, _, rfl, h3⟩ ⟨_, _, rfl, h4⟩ htab
end Go.Proofs.YtdnkjbhkfaejmaaGreatDoor

