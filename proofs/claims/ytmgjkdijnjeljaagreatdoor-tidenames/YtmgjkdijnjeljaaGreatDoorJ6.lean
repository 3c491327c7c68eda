/- My texts on the way to TideNames, one behind the other: contracts of the program and of the document's answers. -/
import Derived.Test.YtmgjkdijnjeljaaGreatDoorJ2
import Derived.Test.YtmgjkdijnjeljaaGreatDoorJ3
import Derived.Test.YtmgjkdijnjeljaaGreatDoorJ4
import Derived.Test.YtmgjkdijnjeljaaGreatDoorJ5
import Derived.Test.YtmgjkdijnjeljaaGreatDoorShelf
import Derived.Lib.IndexBytes
import Derived.Lib.CutLaws
import Derived.Shelf.RegionOpenPlain
import Derived.Lib.AtoiErrMem
import Derived.Lib.ItoaLen
/- strings.Cut at one byte. -/
namespace Go.Proofs.YtmgjkdijnjeljaaGreatDoor
open Go.RowKit Go.Lib
set_option linter.unusedVariables false
set_option linter.unusedSimpArgs false

set_option maxHeartbeats 1600000 in
set_option maxRecDepth 100000 in
theorem zcut0_any (s : ByteArray) (c : UInt8) (w : World) (hs : s.size ≤ 281474976710656) :
    Calls Tryz.prog 36 #[.string s, .string ⟨#[c]⟩] w fun e w' => e = .returned (.tuple #[.string ⟨(Lib.cut s.data.toList [c]).1.toArray⟩, .string ⟨(Lib.cut s.data.toList [c]).2.1.toArray⟩, .bool (Lib.cut s.data.toList [c]).2.2]) ∧ Below w.heap.size w w' := by
  have HI := hid (Tryz.stringslite_Index_one s c w)
  rw [← Lib.index_one] at HI
  rcases Lib.indexB_cases s ⟨#[c]⟩ with hix | ⟨i, hix, hroom⟩
  · obtain ⟨e1, e2, e3⟩ := Lib.cutB_miss s ⟨#[c]⟩ hix
    have e1' : (⟨(Lib.cut s.data.toList [c]).1.toArray⟩ : ByteArray) = _ := e1
    have e2' : (⟨(Lib.cut s.data.toList [c]).2.1.toArray⟩ : ByteArray) = _ := e2
    have e3' : (Lib.cut s.data.toList [c]).2.2 = _ := e3
    have hix' : Lib.index s.data.toList [c] = -1 := hix
    rw [hix'] at HI
    rw [e1', e2', e3']
    clear e1 e2 e3 e1' e2' e3' hix hix'
    go_enter Tryz.func36, Tryz.ntmps36
    go_wp2_with fail
    refine Calls.mono HI.out ?_
    rintro e w1 ⟨rfl, rfl⟩
    go_wp2_with fail
    go_returns
    exact ⟨rfl, Below.refl _ _⟩
  · obtain ⟨e1, e2, e3⟩ := Lib.cutB_hit s ⟨#[c]⟩ i hix
    have e1' : (⟨(Lib.cut s.data.toList [c]).1.toArray⟩ : ByteArray) = _ := e1
    have e2' : (⟨(Lib.cut s.data.toList [c]).2.1.toArray⟩ : ByteArray) = _ := e2
    have e3' : (Lib.cut s.data.toList [c]).2.2 = _ := e3
    have hix' : Lib.index s.data.toList [c] = (i : Int) := hix
    rw [hix'] at HI
    rw [e1', e2', e3']
    have hr : i + 1 ≤ s.size := hroom
    have c1 : (0 : Int) ≤ ↑i := by omega
    have c2 : (↑i : Int) ≤ ↑s.size := by omega
    have c3 : (0 : Int) ≤ ↑i + 1 := by omega
    have c4 : (↑i + 1 : Int) ≤ ↑s.size := by omega
    have hw : IntKind.i64.wrap ((i : Int) + 1) = (i : Int) + 1 := by rw [IntKind.wrap_i64]; omega
    have ht : ((i : Int) + 1).toNat = i + 1 := by omega
    clear e1 e2 e3 e1' e2' e3' hix hix' hroom
    go_enter Tryz.func36, Tryz.ntmps36
    go_wp2_with fail
    refine Calls.mono HI.out ?_
    rintro e w1 ⟨rfl, rfl⟩
    go_wp2_with fail
    go_region
    go_wp2_with fail
    go_returns
    exact ⟨rfl, (Below.refl _ _).drew⟩
set_option maxHeartbeats 1600000 in
set_option maxRecDepth 100000 in
theorem zcut_any (s : ByteArray) (c : UInt8) (w : World) (hs : s.size ≤ 281474976710656) :
    Calls Tryz.prog 20 #[.string s, .string ⟨#[c]⟩] w fun e w' => e = .returned (.tuple #[.string ⟨(Lib.cut s.data.toList [c]).1.toArray⟩, .string ⟨(Lib.cut s.data.toList [c]).2.1.toArray⟩, .bool (Lib.cut s.data.toList [c]).2.2]) ∧ Below w.heap.size w w' := by
  have HC := hid (zcut0_any s c w hs)
  generalize (Lib.cut s.data.toList [c]).1.toArray = A at *
  generalize (Lib.cut s.data.toList [c]).2.1.toArray = B at *
  generalize (Lib.cut s.data.toList [c]).2.2 = C at *
  go_enter Tryz.func20, Tryz.ntmps20
  go_wp2_with fail
  refine Calls.mono HC.out ?_
  rintro e w1 ⟨rfl, hb⟩
  go_wp2_with fail
  go_returns
  exact ⟨rfl, hb⟩
theorem zcut_len (l : List UInt8) (c : UInt8) : (Lib.cut l [c]).1.length ≤ l.length ∧ (Lib.cut l [c]).2.1.length ≤ l.length := by
  unfold Lib.cut
  split
  · simp
    omega
  · simp
end Go.Proofs.YtmgjkdijnjeljaaGreatDoor

/- Complex fractions: gauss.Parse: of any text. -/
namespace Go.Proofs.YtmgjkdijnjeljaaGreatDoor
open Go.RowKit Go.Lib
set_option linter.unusedVariables false

/-- A complex fraction told in new memory, all four rows apart. -/
def GToldC (w : World) (E : Int) (L : Prop) (q1 q2 : Rat) (x : Ending) (w' : World) : Prop :=
  ∃ n a ca xs b cb ys m c cc us d cd vs code, x = .returned (.tuple #[.agg #[.bool n, .slice a (List.length xs) ca, .slice b (List.length ys) cb, .bool m, .slice c (List.length us) cc, .slice d (List.length vs) cd], .int .i64 code]) ∧ (w'.ownsRow w.heap.size 85 1 (.slice a xs.length ca) xs.length (xs.map (Value.int .u32)) ∧ w'.ownsRow w.heap.size 85 1 (.slice b ys.length cb) ys.length (ys.map (Value.int .u32)) ∧ w'.ownsRow w.heap.size 85 1 (.slice c us.length cc) us.length (us.map (Value.int .u32)) ∧ w'.ownsRow w.heap.size 85 1 (.slice d vs.length cd) vs.length (vs.map (Value.int .u32))) ∧ GTells E L q1 q2 n xs ys m us vs code ∧ Below w.heap.size w w' ∧ ∃ W1, Cut w (.slice a xs.length ca) (.slice b ys.length cb) W1 ∧ Cut W1 (.slice c us.length cc) (.slice d vs.length cd) w'
theorem GToldC.told {w w' : World} {E : Int} {L : Prop} {q1 q2 : Rat} {x : Ending} (h : GToldC w E L q1 q2 x w') : GTold w E L q1 q2 x w' := by
  obtain ⟨n, a, ca, xs, b, cb, ys, m, c, cc, us, d, cd, vs, code, e, o, t, hb, _⟩ := h
  exact ⟨n, a, ca, xs, b, cb, ys, m, c, cc, us, d, cd, vs, code, e, o, t, hb⟩
theorem cut_nil (w w' : World) (h : w.heap.size ≤ w'.heap.size) : Cut w (.slice none 0 0) (.slice none 0 0) w' := ⟨w.heap.size, Nat.le_refl _, h, fun g hg => by simp [Value.ownBlock] at hg, fun g hg => by simp [Value.ownBlock] at hg⟩
theorem gtoldc_zero {w W : World} {E : Int} {L : Prop} {q1 q2 : Rat} {code : Int} (h : E ≠ 0 ∧ code = E ∨ E = 0 ∧ L ∧ code = 3) (hb : Below w.heap.size w W) : GToldC w E L q1 q2 (.returned (.tuple #[.agg #[.bool false, .slice none 0 0, .slice none 0 0, .bool false, .slice none 0 0, .slice none 0 0], .int .i64 code])) W := by
  refine ⟨false, none, 0, [], none, 0, [], false, none, 0, [], none, 0, [], code, rfl, ⟨World.ownsRow_nil _ _ _ _, World.ownsRow_nil _ _ _ _, World.ownsRow_nil _ _ _ _, World.ownsRow_nil _ _ _ _⟩, ⟨⟨Wd.nil, Wd.nil, Wd.nil, Wd.nil⟩, fun he => ⟨⟨rfl, rfl, rfl, rfl, rfl, rfl⟩, ?_⟩, fun he hl => ⟨⟨rfl, rfl, rfl, rfl, rfl, rfl⟩, ?_⟩, fun he hl => ?_⟩, hb, W, cut_nil _ _ hb.size, cut_nil _ _ (Nat.le_refl _)⟩
  · rcases h with h | h
    · exact h.2
    · exact absurd h.1 he
  · rcases h with h | h
    · exact absurd he h.1
    · exact h.2.2
  · rcases h with h | h
    · exact absurd he h.1
    · exact absurd h.2.1 hl

/-- The two pieces of a text. -/
def gp1 (l : List UInt8) : List UInt8 := (Lib.cut l [32]).1
def gp2 (l : List UInt8) : List UInt8 := (Lib.cut l [32]).2.1
def ggood (l : List UInt8) : Prop := rgood (gp1 l) ∧ rgood (gp2 l)
def gplong (l : List UInt8) : Prop := rlong (rpq (gp1 l)) ∨ rlong (rpq (gp2 l))
open Classical in
/-- What is refused of a text, but for numbers that are too long. -/
noncomputable def gpE (s : ByteArray) : Int := if 65536 < s.size then 3 else if ggood s.data.toList then 0 else 140
theorem gpE_long {s : ByteArray} (h : 65536 < s.size) : gpE s = 3 := by unfold gpE; rw [if_pos h]
theorem gpE_good {s : ByteArray} (hs : s.size ≤ 65536) (h : ggood s.data.toList) : gpE s = 0 := by unfold gpE; rw [if_neg (by omega), if_pos h]
theorem gpE_bad {s : ByteArray} (hs : s.size ≤ 65536) (h : ¬ ggood s.data.toList) : gpE s = 140 := by unfold gpE; rw [if_neg (by omega), if_neg h]
/-- The codes of both pieces, and what is told of them. -/
theorem gpar_codes {l1 l2 : List UInt8} (z1 : l1.length ≤ 65536) (z2 : l2.length ≤ 65536) {n m : Bool} {xs ys us vs : List Int} {c1 c2 : Int} (h1 : RTells (prErr ⟨l1.toArray⟩) (rpq l1) n xs ys c1) (h2 : RTells (prErr ⟨l2.toArray⟩) (rpq l2) m us vs c2) :
    (c1 = 130 ∧ ¬ (rgood l1 ∧ rgood l2)) ∨ (c1 ≠ 130 ∧ c2 = 130 ∧ ¬ (rgood l1 ∧ rgood l2)) ∨ ((rgood l1 ∧ rgood l2) ∧ c1 = 3 ∧ c2 ≠ 130 ∧ (rlong (rpq l1) ∨ rlong (rpq l2))) ∨ ((rgood l1 ∧ rgood l2) ∧ c1 = 0 ∧ c2 = 3 ∧ (rlong (rpq l1) ∨ rlong (rpq l2))) ∨ ((rgood l1 ∧ rgood l2) ∧ c1 = 0 ∧ c2 = 0 ∧ ¬ (rlong (rpq l1) ∨ rlong (rpq l2)) ∧ (rchk n xs ys = 0 ∧ rq n xs ys = rpq l1) ∧ rchk m us vs = 0 ∧ rq m us vs = rpq l2) := by
  have s1 : (⟨l1.toArray⟩ : ByteArray).size ≤ 65536 := by show l1.toArray.size ≤ 65536; simpa using z1
  have s2 : (⟨l2.toArray⟩ : ByteArray).size ≤ 65536 := by show l2.toArray.size ≤ 65536; simpa using z2
  have g1 : (⟨l1.toArray⟩ : ByteArray).data.toList = l1 := by simp
  have g2 : (⟨l2.toArray⟩ : ByteArray).data.toList = l2 := by simp
  have c2f : ¬ rgood l2 → c2 = 130 := fun h => by
    have e := prErr_bad s2 (by rw [g2]; exact h)
    rw [e] at h2
    exact (h2.bad (by decide)).2.2.2
  have c2t : rgood l2 → (c2 = 3 ∧ rlong (rpq l2)) ∨ (c2 = 0 ∧ ¬ rlong (rpq l2) ∧ rchk m us vs = 0 ∧ rq m us vs = rpq l2) := fun h => by
    have e := prErr_good s2 (by rw [g2]; exact h)
    rw [e] at h2
    by_cases hl : rlong (rpq l2)
    · exact .inl ⟨(h2.long rfl hl).2.2.2, hl⟩
    · exact .inr ⟨(h2.good rfl hl).1, hl, (h2.good rfl hl).2⟩
  by_cases k1 : rgood l1
  · have e := prErr_good s1 (by rw [g1]; exact k1)
    rw [e] at h1
    by_cases k2 : rgood l2
    · rcases c2t k2 with ⟨d, hl2⟩ | ⟨d, hl2, hk⟩
      · by_cases hl : rlong (rpq l1)
        · exact .inr (.inr (.inl ⟨⟨k1, k2⟩, (h1.long rfl hl).2.2.2, by omega, .inl hl⟩))
        · exact .inr (.inr (.inr (.inl ⟨⟨k1, k2⟩, (h1.good rfl hl).1, d, .inr hl2⟩)))
      · by_cases hl : rlong (rpq l1)
        · exact .inr (.inr (.inl ⟨⟨k1, k2⟩, (h1.long rfl hl).2.2.2, by omega, .inl hl⟩))
        · exact .inr (.inr (.inr (.inr ⟨⟨k1, k2⟩, (h1.good rfl hl).1, d, fun h => h.elim hl hl2, (h1.good rfl hl).2, hk⟩)))
    · refine .inr (.inl ⟨?_, c2f k2, fun h => k2 h.2⟩)
      by_cases hl : rlong (rpq l1)
      · have := (h1.long rfl hl).2.2.2; omega
      · have := (h1.good rfl hl).1; omega
  · have e := prErr_bad s1 (by rw [g1]; exact k1)
    rw [e] at h1
    exact .inl ⟨(h1.bad (by decide)).2.2.2, fun h => k1 h.1⟩

set_option maxHeartbeats 1600000 in
set_option maxRecDepth 100000 in
theorem gParse_long (s : ByteArray) (w : World) (hs : 65536 < s.size) (hm : s.size ≤ 281474976710656) (L : Prop) (q1 q2 : Rat) : Calls Tryz.prog 22 #[.string s] w (GToldC w 3 L q1 q2) := by
  have HX := hid (Box.made w 29 #[.bool false, .slice none 0 0, .slice none 0 0, .bool false, .slice none 0 0, .slice none 0 0])
  have HB := hid (alloc_later w (.cells #[.bool false, .slice none 0 0, .slice none 0 0, .bool false, .slice none 0 0, .slice none 0 0] 29))
  obtain ⟨X, hX⟩ : ∃ X, w.alloc (.cells #[.bool false, .slice none 0 0, .slice none 0 0, .bool false, .slice none 0 0, .slice none 0 0] 29) = X := ⟨_, rfl⟩
  rw [hX] at HX HB
  have m0 : X.cell? ⟨w.heap.size, 0, none⟩ = some (.bool false) := HX.out.cell 0
  have m1 : X.cell? ⟨w.heap.size, 1, none⟩ = some (.slice none 0 0) := HX.out.cell 1
  have m2 : X.cell? ⟨w.heap.size, 2, none⟩ = some (.slice none 0 0) := HX.out.cell 2
  have m3 : X.cell? ⟨w.heap.size, 3, none⟩ = some (.bool false) := HX.out.cell 3
  have m4 : X.cell? ⟨w.heap.size, 4, none⟩ = some (.slice none 0 0) := HX.out.cell 4
  have m5 : X.cell? ⟨w.heap.size, 5, none⟩ = some (.slice none 0 0) := HX.out.cell 5
  have f0 := HX.out.free 0
  have f1 := HX.out.free 1
  have f2 := HX.out.free 2
  have f3 := HX.out.free 3
  have f4 := HX.out.free 4
  have f5 := HX.out.free 5
  have hs' : (65536 : Int) < (s.size : Int) := by omega
  clear hs
  go_enter Tryz.func22, Tryz.ntmps22
  go_wp2_with fail
  have B1 := box_put6 HX.out (.bool false) (.slice none 0 0) (.slice none 0 0) (.bool false) (.slice none 0 0) (.slice none 0 0)
  have G1 := below_put6 HB.out w.heap.size (Nat.le_refl _) (.bool false) (.slice none 0 0) (.slice none 0 0) (.bool false) (.slice none 0 0) (.slice none 0 0)
  clear m0 m1 m2 m3 m4 m5 f0 f1 f2 f3 f4 f5
  exact bodyPost_ret (gres_run (by rfl) B1 _ rfl) rfl (gtoldc_zero (E := 3) (.inl ⟨by decide, rfl⟩) G1)

set_option maxHeartbeats 3200000 in
set_option maxRecDepth 100000 in
theorem gParse_any (s : ByteArray) (w : World) (hm : s.size ≤ 281474976710656) : Calls Tryz.prog 22 #[.string s] w (GToldC w (gpE s) (gplong s.data.toList) (rpq (gp1 s.data.toList)) (rpq (gp2 s.data.toList))) := by
  by_cases hs : 65536 < s.size
  · rw [gpE_long hs]
    exact gParse_long s w hs hm _ _ _
  have HX := hid (Box.made w 29 #[.bool false, .slice none 0 0, .slice none 0 0, .bool false, .slice none 0 0, .slice none 0 0])
  have HB := hid (alloc_later w (.cells #[.bool false, .slice none 0 0, .slice none 0 0, .bool false, .slice none 0 0, .slice none 0 0] 29))
  obtain ⟨X, hX⟩ : ∃ X, w.alloc (.cells #[.bool false, .slice none 0 0, .slice none 0 0, .bool false, .slice none 0 0, .slice none 0 0] 29) = X := ⟨_, rfl⟩
  rw [hX] at HX HB
  have hs' : ¬ (65536 : Int) < (s.size : Int) := by omega
  have HC := hid (zcut_any s 32 X hm)
  have hl : s.data.toList.length = s.size := Array.length_toList
  have hz1 : (Lib.cut s.data.toList [32]).1.length ≤ 65536 := by have := (zcut_len s.data.toList 32).1; omega
  have hz2 : (Lib.cut s.data.toList [32]).2.1.length ≤ 65536 := by have := (zcut_len s.data.toList 32).2; omega
  have HEG : Hid (ggood s.data.toList → gpE s = 0) := gpE_good (by omega)
  have HEB : Hid (¬ ggood s.data.toList → gpE s = 140) := gpE_bad (by omega)
  have HGG : Hid (ggood s.data.toList ↔ (rgood (gp1 s.data.toList) ∧ rgood (gp2 s.data.toList))) := Iff.rfl
  have HLL : Hid (gplong s.data.toList ↔ (rlong (rpq (gp1 s.data.toList)) ∨ rlong (rpq (gp2 s.data.toList)))) := Iff.rfl
  have e1 : gp1 s.data.toList = (Lib.cut s.data.toList [32]).1 := rfl
  have e2 : gp2 s.data.toList = (Lib.cut s.data.toList [32]).2.1 := rfl
  rw [← e1] at hz1 HC
  rw [← e2] at hz2 HC
  clear e1 e2 hl hs
  generalize gp1 s.data.toList = l1 at *
  generalize gp2 s.data.toList = l2 at *
  generalize ggood s.data.toList = GG at *
  generalize gplong s.data.toList = GL at *
  generalize gpE s = E at *
  have H1 : Hid (∀ V, Calls Tryz.prog 38 #[.string ⟨l1.toArray⟩] V (RToldA V (prErr ⟨l1.toArray⟩) (rpq l1))) := fun V => rparse_any ⟨l1.toArray⟩ V (by show l1.toArray.size ≤ 65536; simpa using hz1)
  have H2 : Hid (∀ V, Calls Tryz.prog 38 #[.string ⟨l2.toArray⟩] V (RToldA V (prErr ⟨l2.toArray⟩) (rpq l2))) := fun V => rparse_any ⟨l2.toArray⟩ V (by show l2.toArray.size ≤ 65536; simpa using hz2)
  have HP : Hid (∀ {n m : Bool} {xs ys us vs : List Int} {c1 c2 : Int}, RTells (prErr ⟨l1.toArray⟩) (rpq l1) n xs ys c1 → RTells (prErr ⟨l2.toArray⟩) (rpq l2) m us vs c2 → _) := fun h1 h2 => gpar_codes hz1 hz2 h1 h2
  generalize prErr ⟨l1.toArray⟩ = p1 at *
  generalize prErr ⟨l2.toArray⟩ = p2 at *
  generalize rpq l1 = q1 at *
  generalize rpq l2 = q2 at *
  generalize (rgood l1 ∧ rgood l2) = GD at *
  generalize (Lib.cut s.data.toList [32]).2.2 = fnd at *
  generalize l1.toArray = A1 at *
  generalize l2.toArray = A2 at *
  clear hz1 hz2
  go_enter Tryz.func22, Tryz.ntmps22
  go_wp2_with fail
  refine Calls.mono HC.out ?_
  rintro e w1 ⟨rfl, hb1⟩
  have HW1 := hid (bt HB.out hb1)
  have HR1 := hid (HX.out.later hb1 HX.out.lt)
  clear hb1 HC
  go_wp2_with fail
  refine Calls.mono (H1.out _) ?_
  rintro x w2 ⟨n, v, xs, u, ys, code1, rfl, ov1, ou1, ht1, hb2, hcut1⟩
  obtain ⟨av1, cv1, rfl⟩ := own_slice' ov1
  obtain ⟨au1, cu1, rfl⟩ := own_slice' ou1
  have HW2 := hid (bt HW1.out hb2)
  have HR2 := hid (HR1.out.later hb2 HR1.out.lt)
  have HN := hid (Box.made w2 27 #[.bool n, .slice av1 xs.length cv1, .slice au1 ys.length cu1])
  have HNB := hid (alloc_later w2 (.cells #[.bool n, .slice av1 xs.length cv1, .slice au1 ys.length cu1] 27))
  obtain ⟨Z, hZ⟩ : ∃ Z, w2.alloc (.cells #[.bool n, .slice av1 xs.length cv1, .slice au1 ys.length cu1] 27) = Z := ⟨_, rfl⟩
  rw [hZ] at HN HNB
  have HV1 := hid ov1
  have HU1 := hid ou1
  have HT1 := hid ht1
  have HC1 := hid hcut1
  have h12 : w1.heap.size ≤ w2.heap.size := hb2.size
  clear ov1 ou1 ht1 hcut1 hb2 H1
  go_wp2_with fail
  refine Calls.mono (H2.out _) ?_
  rintro x w3 ⟨m, v, us, u, vs, code2, rfl, ov2, ou2, ht2, hb3, hcut2⟩
  obtain ⟨av2, cv2, rfl⟩ := own_slice' ov2
  obtain ⟨au2, cu2, rfl⟩ := own_slice' ou2
  have HM := hid (Box.made w3 27 #[.bool m, .slice av2 us.length cv2, .slice au2 vs.length cu2])
  have HMB := hid (alloc_later w3 (.cells #[.bool m, .slice av2 us.length cv2, .slice au2 vs.length cu2] 27))
  obtain ⟨Q, hQ⟩ : ∃ Q, w3.alloc (.cells #[.bool m, .slice av2 us.length cv2, .slice au2 vs.length cu2] 27) = Q := ⟨_, rfl⟩
  rw [hQ] at HM HMB
  have hb2Q : Below w2.heap.size w2 Q := bt HNB.out (bt hb3 HMB.out)
  have HW3 := hid (bt HW2.out hb2Q)
  have HR3 := hid (HR2.out.later hb2Q HR2.out.lt)
  have HN3 := hid (HN.out.later (bt hb3 HMB.out) HN.out.lt)
  have HOO := hid (And.intro (owns_later HV1.out hb2Q) (And.intro (owns_later HU1.out hb2Q) (And.intro (owns_later ov2 HMB.out) (owns_later ou2 HMB.out))))
  have HC2 : Hid (Cut w2 (.slice av2 us.length cv2) (.slice au2 vs.length cu2) Q) := hcut2.up HNB.out.size HMB.out.size
  have HTT := hid (HP.out HT1.out ht2)
  have HWD := hid (And.intro HT1.out.wx (And.intro HT1.out.wy (And.intro ht2.wx ht2.wy)))
  have hsz1 : w.heap.size ≤ w1.heap.size := HW1.out.size
  have hszZ : w2.heap.size ≤ Z.heap.size := HNB.out.size
  clear ov2 ou2 ht2 hcut2 H2 HP hb2Q hb3 HT1
  have m0 : Q.cell? ⟨w.heap.size, 0, none⟩ = some (.bool false) := HR3.out.cell 0
  have m1 : Q.cell? ⟨w.heap.size, 1, none⟩ = some (.slice none 0 0) := HR3.out.cell 1
  have m2 : Q.cell? ⟨w.heap.size, 2, none⟩ = some (.slice none 0 0) := HR3.out.cell 2
  have m3 : Q.cell? ⟨w.heap.size, 3, none⟩ = some (.bool false) := HR3.out.cell 3
  have m4 : Q.cell? ⟨w.heap.size, 4, none⟩ = some (.slice none 0 0) := HR3.out.cell 4
  have m5 : Q.cell? ⟨w.heap.size, 5, none⟩ = some (.slice none 0 0) := HR3.out.cell 5
  have f0 := HR3.out.free 0
  have f1 := HR3.out.free 1
  have f2 := HR3.out.free 2
  have f3 := HR3.out.free 3
  have f4 := HR3.out.free 4
  have f5 := HR3.out.free 5
  rcases HTT.out with ⟨rfl, hg⟩ | ⟨d1, rfl, hg⟩ | ⟨hg, rfl, d2, hL⟩ | ⟨hg, rfl, rfl, hL⟩ | ⟨hg, rfl, rfl, hL, hk⟩
  · have HE := hid (HEB.out (fun h => hg (HGG.out.1 h)))
    clear HTT
    go_wp2_with fail
    have B1 := box_put6 HR3.out (.bool false) (.slice none 0 0) (.slice none 0 0) (.bool false) (.slice none 0 0) (.slice none 0 0)
    have G1 := below_put6 HW3.out w.heap.size (Nat.le_refl _) (.bool false) (.slice none 0 0) (.slice none 0 0) (.bool false) (.slice none 0 0) (.slice none 0 0)
    clear m0 m1 m2 m3 m4 m5 f0 f1 f2 f3 f4 f5
    exact bodyPost_ret (gres_run (by rfl) B1 _ rfl) rfl (gtoldc_zero (E := E) (.inl ⟨by rw [HE.out]; decide, HE.out.symm⟩) G1)
  · have HE := hid (HEB.out (fun h => hg (HGG.out.1 h)))
    have d1' : (code1 == 130) = false := by simp [d1]
    clear d1
    clear HTT
    go_wp2_with fail
    have B1 := box_put6 HR3.out (.bool false) (.slice none 0 0) (.slice none 0 0) (.bool false) (.slice none 0 0) (.slice none 0 0)
    have G1 := below_put6 HW3.out w.heap.size (Nat.le_refl _) (.bool false) (.slice none 0 0) (.slice none 0 0) (.bool false) (.slice none 0 0) (.slice none 0 0)
    clear m0 m1 m2 m3 m4 m5 f0 f1 f2 f3 f4 f5
    exact bodyPost_ret (gres_run (by rfl) B1 _ rfl) rfl (gtoldc_zero (E := E) (.inl ⟨by rw [HE.out]; decide, HE.out.symm⟩) G1)
  · have HE := hid (HEG.out (HGG.out.2 hg))
    have d2' : (code2 == 130) = false := by simp [d2]
    have HLo := hid (HLL.out.2 hL)
    clear d2 hL hg
    clear HTT
    go_wp2_with fail
    have B1 := box_put6 HR3.out (.bool false) (.slice none 0 0) (.slice none 0 0) (.bool false) (.slice none 0 0) (.slice none 0 0)
    have G1 := below_put6 HW3.out w.heap.size (Nat.le_refl _) (.bool false) (.slice none 0 0) (.slice none 0 0) (.bool false) (.slice none 0 0) (.slice none 0 0)
    clear m0 m1 m2 m3 m4 m5 f0 f1 f2 f3 f4 f5
    exact bodyPost_ret (gres_run (by rfl) B1 _ rfl) rfl (gtoldc_zero (E := E) (.inr ⟨HE.out, HLo.out, rfl⟩) G1)
  · have HE := hid (HEG.out (HGG.out.2 hg))
    have HLo := hid (HLL.out.2 hL)
    clear hL hg
    clear HTT
    go_wp2_with fail
    have B1 := box_put6 HR3.out (.bool false) (.slice none 0 0) (.slice none 0 0) (.bool false) (.slice none 0 0) (.slice none 0 0)
    have G1 := below_put6 HW3.out w.heap.size (Nat.le_refl _) (.bool false) (.slice none 0 0) (.slice none 0 0) (.bool false) (.slice none 0 0) (.slice none 0 0)
    clear m0 m1 m2 m3 m4 m5 f0 f1 f2 f3 f4 f5
    exact bodyPost_ret (gres_run (by rfl) B1 _ rfl) rfl (gtoldc_zero (E := E) (.inr ⟨HE.out, HLo.out, rfl⟩) G1)
  · have HE := hid (HEG.out (HGG.out.2 hg))
    have HLo := hid (fun h => hL (HLL.out.1 h))
    have HKK := hid hk
    have ka0 : Q.cell? ⟨w2.heap.size, 0, none⟩ = some (.bool n) := HN3.out.cell 0
    have ka1 : Q.cell? ⟨w2.heap.size, 1, none⟩ = some (.slice av1 xs.length cv1) := HN3.out.cell 1
    have ka2 : Q.cell? ⟨w2.heap.size, 2, none⟩ = some (.slice au1 ys.length cu1) := HN3.out.cell 2
    have kb0 : Q.cell? ⟨w3.heap.size, 0, none⟩ = some (.bool m) := HM.out.cell 0
    have kb1 : Q.cell? ⟨w3.heap.size, 1, none⟩ = some (.slice av2 us.length cv2) := HM.out.cell 1
    have kb2 : Q.cell? ⟨w3.heap.size, 2, none⟩ = some (.slice au2 vs.length cu2) := HM.out.cell 2
    clear HTT hL hk hg
    go_wp2_with fail
    have B1 := box_put6 HR3.out (.bool n) (.slice av1 xs.length cv1) (.slice au1 ys.length cu1) (.bool m) (.slice av2 us.length cv2) (.slice au2 vs.length cu2)
    have G1 := below_put6 HW3.out w.heap.size (Nat.le_refl _) (.bool n) (.slice av1 xs.length cv1) (.slice au1 ys.length cu1) (.bool m) (.slice av2 us.length cv2) (.slice au2 vs.length cu2)
    have hwX : w.heap.size < X.heap.size := HX.out.lt
    have hX1 : w.heap.size < w1.heap.size := HR1.out.lt
    have hput : ∀ {base k : Nat} {v : Value} {l : List Value}, Q.ownsRow base 85 1 v k l → (∀ g, v.ownBlock = some g → w1.heap.size ≤ g) → ((((((Q.setCell ⟨w.heap.size, 0, none⟩ (.bool n)).setCell ⟨w.heap.size, 1, none⟩ (.slice av1 xs.length cv1)).setCell ⟨w.heap.size, 2, none⟩ (.slice au1 ys.length cu1)).setCell ⟨w.heap.size, 3, none⟩ (.bool m)).setCell ⟨w.heap.size, 4, none⟩ (.slice av2 us.length cv2)).setCell ⟨w.heap.size, 5, none⟩ (.slice au2 vs.length cu2)).ownsRow base 85 1 v k l := fun h hb => own_put6 h _ (fun g hg => by have := hb g hg; omega) _ _ _ _ _ _
    clear m0 m1 m2 m3 m4 m5 f0 f1 f2 f3 f4 f5
    refine bodyPost_ret (gres_run (by rfl) B1 _ rfl) rfl ?_
    have hszQ : w.heap.size ≤ Z.heap.size := by omega
    refine ⟨n, av1, cv1, xs, au1, cu1, ys, m, av2, cv2, us, au2, cu2, vs, 0, rfl, ⟨owns_base (hput HOO.out.1 (fun g hg => (HOO.out.1.lt g hg).1)) hsz1, owns_base (hput HOO.out.2.1 (fun g hg => (HOO.out.2.1.lt g hg).1)) hsz1, owns_base (hput HOO.out.2.2.1 (fun g hg => by have := (HOO.out.2.2.1.lt g hg).1; omega)) hszQ, owns_base (hput HOO.out.2.2.2 (fun g hg => by have := (HOO.out.2.2.2.lt g hg).1; omega)) hszQ⟩, ⟨HWD.out, fun h => absurd HE.out h, fun _ h => absurd h HLo.out, fun _ _ => ⟨rfl, HKK.out⟩⟩, G1, w2, HC1.out.up hsz1 (Nat.le_refl _), HC2.out.up (Nat.le_refl _) (by simp [World.setCell])⟩
end Go.Proofs.YtmgjkdijnjeljaaGreatDoor

/- package tide: decimal, readNumber, readRotor. -/
namespace Go.Proofs.YtmgjkdijnjeljaaGreatDoor
open Go.RowKit Go.Lib
set_option linter.unusedVariables false
set_option linter.unusedSimpArgs false

/-- strconv's two errors are values of their type. -/
def ErrT (w : World) : Prop := (∃ te pe, w.cell? ⟨1, 0, none⟩ = some (.iface te pe)) ∧ (∃ te pe, w.cell? ⟨2, 0, none⟩ = some (.iface te pe))
theorem zcell_lt {w : World} {b j : Nat} {v : Value} (h : w.cell? ⟨b, j, none⟩ = some v) : b < w.heap.size := by
  rcases Nat.lt_or_ge b w.heap.size with h' | h'
  · exact h'
  · unfold World.cell? at h
    rw [Array.getElem?_eq_none h'] at h
    simp at h
theorem ErrT.later {w w' : World} (h : ErrT w) (hb : Below w.heap.size w w') : ErrT w' := by
  obtain ⟨⟨a, b, h1⟩, c, d, h2⟩ := h
  exact ⟨⟨a, b, (hb.cell (p := ⟨_, 0, none⟩) (zcell_lt h1)).trans h1⟩, c, d, (hb.cell (p := ⟨_, 0, none⟩) (zcell_lt h2)).trans h2⟩
theorem zbytes_app (a b : List UInt8) : ((⟨a.toArray⟩ : ByteArray) ++ (⟨b.toArray⟩ : ByteArray)) = ⟨(a ++ b).toArray⟩ := by
  apply ByteArray.ext
  rw [ByteArray.data_append]
  simp
theorem zstr_other {s t : ByteArray} (h : ¬ s = t) : (s.toList == t.toList) = false := by
  apply beq_eq_false_iff_ne.2
  intro e
  rw [Lib.toList_data, Lib.toList_data] at e
  exact h (ByteArray.ext (Array.toList_inj.1 e))
theorem zitoa_len (n : Int) (h0 : -2147483648 ≤ n) (h1 : n ≤ 2147483647) : (itoa n).length ≤ 21 := by
  unfold itoa
  split
  · rw [List.length_cons, decDigits_length]
    have := nDigits_le20 n.natAbs (by omega)
    omega
  · rw [decDigits_length]
    have := nDigits_le20 n.toNat (by omega)
    omega
theorem zitoa_any (n : Int) (w : World) (h0 : -9223372036854775808 ≤ n) (h1 : n ≤ 9223372036854775807) (htab : Tab w) :
    Calls Tryz.prog 51 #[.int .i64 n] w fun e w' => e = .returned (.string ⟨(itoa n).toArray⟩) ∧ Below w.heap.size w w' := by
  refine Calls.mono (Tryz.strconv_Itoa n h0 h1 w htab) ?_
  rintro e w' ⟨rfl, k, os, rfl⟩
  refine ⟨rfl, rfl, rfl, rfl, ?_, fun b hb => ?_⟩
  · show w.heap.size ≤ (w.heap ++ os).size
    rw [Array.size_append]; omega
  · show (w.heap ++ os)[b]? = w.heap[b]?
    rw [Array.getElem?_append_left hb]
set_option maxHeartbeats 800000 in
set_option maxRecDepth 100000 in
theorem tdecimal_any (n : Int) (w : World) (h0 : -2147483648 ≤ n) (h1 : n ≤ 2147483647) (htab : Tab w) :
    Calls Tryz.prog 31 #[.int .i32 n] w fun e w' => e = .returned (.string ⟨(itoa n).toArray⟩) ∧ Below w.heap.size w w' := by
  have HI := hid (zitoa_any n w (by omega) (by omega) htab)
  have hw : IntKind.i64.wrap n = n := by rw [IntKind.wrap_i64]; omega
  clear htab
  go_enter Tryz.func31, Tryz.ntmps31
  go_wp2_with fail
  refine Calls.mono HI.out ?_
  rintro e w1 ⟨rfl, hb⟩
  go_wp2_with fail
  go_ret
  exact ⟨rfl, hb⟩

/-- The number of a text of at most five bytes; is it one? -/
def tnumOk (l : List UInt8) : Bool := decide (l.length ≤ 5) && (match atoiAll l with | .ok v => decide (itoa v = l) | _ => false)
def tnumV (l : List UInt8) : Int := if tnumOk l = true then (match atoiAll l with | .ok v => v | _ => 0) else 0
theorem itoa_small {v : Int} (h : (itoa v).length ≤ 5) : -99999 ≤ v ∧ v ≤ 99999 := by
  unfold itoa at h
  by_cases hv : v < 0
  · rw [if_pos hv, List.length_cons, decDigits_length] at h
    have h1 := lt_pow_nDigits v.natAbs
    have h2 : (10 : Nat) ^ nDigits v.natAbs ≤ 10 ^ 5 := Nat.pow_le_pow_right (by decide) (by omega)
    omega
  · rw [if_neg hv, decDigits_length] at h
    have h1 := lt_pow_nDigits v.toNat
    have h2 : (10 : Nat) ^ nDigits v.toNat ≤ 10 ^ 5 := Nat.pow_le_pow_right (by decide) (by omega)
    omega
theorem tnumV_in (l : List UInt8) : -99999 ≤ tnumV l ∧ tnumV l ≤ 99999 := by
  unfold tnumV
  by_cases h : tnumOk l = true
  · rw [if_pos h]
    unfold tnumOk at h
    cases hp : atoiAll l with
    | ok v =>
      rw [hp] at h
      simp at h
      simp only
      exact itoa_small (by rw [h.2]; exact h.1)
    | «syntax» => simp
    | range => simp
  · rw [if_neg h]; decide
set_option maxHeartbeats 1600000 in
set_option maxRecDepth 100000 in
theorem treadNumber_any (s : ByteArray) (w : World) (hs : s.size ≤ 65536) (htab : Tab w) (herr : ErrT w) :
    Calls Tryz.prog 37 #[.string s] w fun e w' => e = .returned (.tuple #[.int .i32 (tnumV s.data.toList), .bool (tnumOk s.data.toList)]) ∧ Below w.heap.size w w' := by
  have hl : s.data.toList.length = s.size := Array.length_toList
  by_cases h5 : 5 < (s.size : Int)
  · have e1 : tnumOk s.data.toList = false := by unfold tnumOk; rw [decide_eq_false (by omega)]; rfl
    have e2 : tnumV s.data.toList = 0 := by unfold tnumV; rw [if_neg (by rw [e1]; decide)]
    rw [e1, e2]
    clear hl e1 e2
    go_enter Tryz.func37, Tryz.ntmps37
    go_wp2_with fail
    go_ret2
    exact ⟨rfl, Below.refl _ _⟩
  obtain ⟨⟨te, pe, h1⟩, te2, pe2, h2⟩ := herr
  have HT := hid htab
  clear htab
  cases hp : atoiAll s.data.toList with
  | ok v =>
    have HC := hid (Tryz.strconv_Atoi_ok s (by omega) v hp w)
    have hvb := atoiAll_bounds hp
    have HI : Hid (∀ V, Below w.heap.size w V → Calls Tryz.prog 51 #[.int .i64 v] V fun e w' => e = .returned (.string ⟨(itoa v).toArray⟩) ∧ Below V.heap.size V w') := fun V hv => zitoa_any v V hvb.1 hvb.2 (HT.out.later hv)
    by_cases hi : (⟨(itoa v).toArray⟩ : ByteArray) = s
    · have hi2 : itoa v = s.data.toList := by rw [← hi]
      have e1 : tnumOk s.data.toList = true := by unfold tnumOk; rw [decide_eq_true (by omega), hp]; simp [hi2]
      have e2 : tnumV s.data.toList = v := by unfold tnumV; rw [if_pos e1, hp]
      have e3 := tnumV_in s.data.toList
      rw [e1, e2]
      rw [e2] at e3
      have hw : IntKind.i32.wrap v = v := by rw [IntKind.wrap_i32]; omega
      rw [hi] at HI
      clear e1 e2 e3 hi hi2 hp hl h1 h2 hvb
      go_enter Tryz.func37, Tryz.ntmps37
      go_wp2_with fail
      refine Calls.mono HC.out ?_
      rintro e w1 ⟨rfl, hw1⟩
      have HB : Hid (Below w.heap.size w w1) := by
        rcases hw1 with rfl | ⟨t, rfl⟩
        · exact Below.refl _ _
        · exact Lib.bytesWorld_below w _ t
      clear hw1
      go_wp2_with fail
      refine Calls.mono (HI.out _ HB.out) ?_
      rintro e w2 ⟨rfl, hb2⟩
      have HB2 := hid (bt HB.out hb2)
      clear hb2
      go_wp2_with fail
      go_ret2
      exact ⟨rfl, HB2.out⟩
    · have e1 : tnumOk s.data.toList = false := by
        unfold tnumOk
        rw [hp]
        have : ¬ itoa v = s.data.toList := fun e => hi (by rw [e])
        simp [this]
      have e2 : tnumV s.data.toList = 0 := by unfold tnumV; rw [if_neg (by rw [e1]; decide)]
      rw [e1, e2]
      have hne := zstr_other hi
      clear e1 e2 hi hp hl h1 h2 hvb
      generalize (⟨(itoa v).toArray⟩ : ByteArray) = IT at *
      go_enter Tryz.func37, Tryz.ntmps37
      go_wp2_with fail
      refine Calls.mono HC.out ?_
      rintro e w1 ⟨rfl, hw1⟩
      have HB : Hid (Below w.heap.size w w1) := by
        rcases hw1 with rfl | ⟨t, rfl⟩
        · exact Below.refl _ _
        · exact Lib.bytesWorld_below w _ t
      clear hw1
      go_wp2_with fail
      refine Calls.mono (HI.out _ HB.out) ?_
      rintro e w2 ⟨rfl, hb2⟩
      have HB2 := hid (bt HB.out hb2)
      clear hb2
      go_wp2_with fail
      go_ret2
      exact ⟨rfl, HB2.out⟩
  | «syntax» =>
    have e1 : tnumOk s.data.toList = false := by unfold tnumOk; rw [hp]; simp
    have e2 : tnumV s.data.toList = 0 := by unfold tnumV; rw [if_neg (by rw [e1]; decide)]
    rw [e1, e2]
    have HC := hid (Tryz.strconv_Atoi_syntax s (by omega) hp _ w h1 (.inr ⟨te, pe, rfl⟩))
    clear hp hl e1 e2
    go_enter Tryz.func37, Tryz.ntmps37
    go_wp2_with fail
    refine Calls.mono HC.out ?_
    rintro e w1 ⟨N, rfl, hN, _, hb⟩
    go_wp2_with fail
    go_ret2
    exact ⟨rfl, hb⟩
  | range =>
    have e1 : tnumOk s.data.toList = false := by unfold tnumOk; rw [hp]; simp
    have e2 : tnumV s.data.toList = 0 := by unfold tnumV; rw [if_neg (by rw [e1]; decide)]
    rw [e1, e2]
    have HC := hid (Tryz.strconv_Atoi_range s (by omega) hp _ w h2 (.inr ⟨te2, pe2, rfl⟩))
    clear hp hl e1 e2
    go_enter Tryz.func37, Tryz.ntmps37
    go_wp2_with fail
    refine Calls.mono HC.out ?_
    rintro e w1 ⟨N, rfl, hN, _, hb⟩
    go_wp2_with fail
    go_ret2
    exact ⟨rfl, hb⟩
set_option maxHeartbeats 1600000 in
set_option maxRecDepth 100000 in
theorem treadRotor_any (s t : ByteArray) (w : World) (hs : s.size ≤ 65536) (ht : t.size ≤ 65536) (htab : Tab w) (herr : ErrT w) :
    Calls Tryz.prog 21 #[.string s, .string t] w fun e w' => e = .returned (.tuple #[.agg #[.int .i32 (tnumV s.data.toList), .int .i32 (tnumV t.data.toList)], .bool (tnumOk s.data.toList && tnumOk t.data.toList)]) ∧ Below w.heap.size w w' := by
  have HX := hid (boxes1 w 24 #[.int .i32 0, .int .i32 0])
  have H1 := hid (treadNumber_any s (w.alloc (.cells #[.int .i32 0, .int .i32 0] 24)) hs (htab.later HX.out.2) (herr.later HX.out.2))
  have H2 : Hid (∀ V, Below w.heap.size w V → Calls Tryz.prog 37 #[.string t] V fun e w' => e = .returned (.tuple #[.int .i32 (tnumV t.data.toList), .bool (tnumOk t.data.toList)]) ∧ Below V.heap.size V w') := fun V hv => treadNumber_any t V ht (htab.later hv) (herr.later hv)
  generalize tnumV s.data.toList = A at *
  generalize tnumV t.data.toList = B at *
  generalize tnumOk s.data.toList = P at *
  generalize tnumOk t.data.toList = Q at *
  clear htab herr
  cases P <;> cases Q
  all_goals
    go_enter Tryz.func21, Tryz.ntmps21
    go_wp2_with fail
    generalize w.alloc (.cells #[.int .i32 0, .int .i32 0] 24) = X at *
    refine Calls.mono H1.out ?_
    rintro e w1 ⟨rfl, hb1⟩
    have HB1 := hid (bt HX.out.2 hb1)
    have HX1 := hid (HX.out.1.later hb1 HX.out.1.lt)
    clear hb1 H1
    go_wp2_with fail
    refine Calls.mono (H2.out _ HB1.out) ?_
    rintro e w2 ⟨rfl, hb2⟩
    have HB2 := hid (bt HB1.out hb2)
    have HX2 := hid (HX1.out.later hb2 HX1.out.lt)
    clear hb2 H2
    obtain ⟨c0, c1, g0, g1⟩ := fbox_facts HX2.out (Below.refl _ _)
    go_wp2_with fail
    refine bodyPost_ret (v := .tuple #[.agg #[.int .i32 A, .int .i32 B], .bool _]) (by simp [results, Tryz.results21, go_sem, c0, c1]; rfl) rfl ?_
    exact ⟨rfl, fput2 HB2.out _ (by omega) _ _⟩
end Go.Proofs.YtmgjkdijnjeljaaGreatDoor

/- package tide: Print. -/
namespace Go.Proofs.YtmgjkdijnjeljaaGreatDoor
open Go.RowKit Go.Lib
set_option linter.unusedVariables false
set_option linter.unusedSimpArgs false

/-- A constituent's text. -/
def ttext (l : List UInt8) (f r : Int) (g : List UInt8) : List UInt8 := l ++ 32 :: (itoa f ++ 32 :: (itoa r ++ 32 :: g))
/-- Print's error: E Check's, g the number's text. -/
def tpErr (E : Int) (l : List UInt8) (f r : Int) (G : Int) (g : List UInt8) : Int := if E ≠ 0 then E else if G ≠ 0 then G else if 65536 < (ttext l f r g).length then 3 else 0
theorem tpErr_chk {E : Int} {l : List UInt8} {f r G : Int} {g : List UInt8} (h : E ≠ 0) : tpErr E l f r G g = E := by unfold tpErr; rw [if_pos h]
theorem tpErr_num {E : Int} {l : List UInt8} {f r G : Int} {g : List UInt8} (h : E = 0) (h2 : G ≠ 0) : tpErr E l f r G g = G := by unfold tpErr; rw [if_neg (by simp [h]), if_pos h2]
theorem tpErr_long {E : Int} {l : List UInt8} {f r G : Int} {g : List UInt8} (h : E = 0) (h2 : G = 0) (h3 : 65536 < (ttext l f r g).length) : tpErr E l f r G g = 3 := by unfold tpErr; rw [if_neg (by simp [h]), if_neg (by simp [h2]), if_pos h3]
theorem tpErr_ok {E : Int} {l : List UInt8} {f r G : Int} {g : List UInt8} (h : E = 0) (h2 : G = 0) (h3 : ¬ 65536 < (ttext l f r g).length) : tpErr E l f r G g = 0 := by unfold tpErr; rw [if_neg (by simp [h]), if_neg (by simp [h2]), if_neg h3]
theorem tsum_text (s : ByteArray) (f r : Int) (U : ByteArray) : s ++ (⟨#[32]⟩ : ByteArray) ++ (⟨(itoa f).toArray⟩ : ByteArray) ++ (⟨#[32]⟩ : ByteArray) ++ (⟨(itoa r).toArray⟩ : ByteArray) ++ (⟨#[32]⟩ : ByteArray) ++ U = ⟨(ttext s.data.toList f r U.data.toList).toArray⟩ := by
  have e : ∀ x : ByteArray, x = ⟨x.data.toList.toArray⟩ := fun x => by simp
  rw [e s, e U, show (⟨#[32]⟩ : ByteArray) = ⟨([32] : List UInt8).toArray⟩ from rfl, zbytes_app, zbytes_app, zbytes_app, zbytes_app, zbytes_app, zbytes_app]
  unfold ttext
  simp
theorem tname_ok {l : List UInt8} (h : tname l = true) : 1 ≤ l.length ∧ l.length ≤ 20 := by
  unfold tname at h
  simp at h
  exact ⟨h.1.1.1, h.1.1.2⟩
theorem tchk_ok {l : List UInt8} {f n g : Int} (h : tchk l f n g = 0) : tname l = true ∧ ochk f n = 0 ∧ g = 0 := by
  unfold tchk at h
  by_cases hn : tname l = true
  · rw [if_pos hn] at h
    unfold fstE at h
    by_cases ho : ochk f n = 0
    · rw [if_pos ho] at h; exact ⟨hn, ho, h⟩
    · rw [if_neg ho] at h; exact absurd h ho
  · rw [if_neg hn] at h; exact absurd h (by decide)
set_option maxHeartbeats 3200000 in
set_option maxRecDepth 100000 in
theorem tPrint_any (s : ByteArray) (f r : Int) (n : Bool) (a : Option Addr) (ca : Nat) (xs : List Int) (b : Option Addr) (cb : Nat) (ys : List Int) (m : Bool) (c : Option Addr) (cc : Nat) (us : List Int) (d : Option Addr) (cd : Nat) (vs : List Int) (w : World) (hz : s.size ≤ 9223372036854775807) (hr : in32 f r) (sx : Sl w (.slice a xs.length ca) xs) (sy : Sl w (.slice b ys.length cb) ys) (su : Sl w (.slice c us.length cc) us) (sv : Sl w (.slice d vs.length cd) vs) (htab : Tab w) :
    Calls Tryz.prog 14 #[.agg #[.string s, .int .i32 f, .int .i32 r, .bool n, .slice a xs.length ca, .slice b ys.length cb, .bool m, .slice c us.length cc, .slice d vs.length cd]] w fun x w' => ∃ S : ByteArray, x = .returned (.tuple #[.string S, .int .i64 (tpErr (tchk s.data.toList f r (gchk n xs ys m us vs)) s.data.toList f r (gpErr n xs ys m us vs) (gtext n xs ys m us vs))]) ∧ (tpErr (tchk s.data.toList f r (gchk n xs ys m us vs)) s.data.toList f r (gpErr n xs ys m us vs) (gtext n xs ys m us vs) = 0 → S.data.toList = ttext s.data.toList f r (gtext n xs ys m us vs)) ∧ (tpErr (tchk s.data.toList f r (gchk n xs ys m us vs)) s.data.toList f r (gpErr n xs ys m us vs) (gtext n xs ys m us vs) ≠ 0 → S = ⟨#[]⟩) ∧ Below w.heap.size w w' := by
  have HX := hid (Box.made w 31 #[.string s, .int .i32 f, .int .i32 r, .bool n, .slice a xs.length ca, .slice b ys.length cb, .bool m, .slice c us.length cc, .slice d vs.length cd])
  have HB := hid (alloc_later w (.cells #[.string s, .int .i32 f, .int .i32 r, .bool n, .slice a xs.length ca, .slice b ys.length cb, .bool m, .slice c us.length cc, .slice d vs.length cd] 31))
  obtain ⟨X, hX⟩ : ∃ X, w.alloc (.cells #[.string s, .int .i32 f, .int .i32 r, .bool n, .slice a xs.length ca, .slice b ys.length cb, .bool m, .slice c us.length cc, .slice d vs.length cd] 31) = X := ⟨_, rfl⟩
  rw [hX] at HX HB
  have HC := hid (tCheck_any s f r n a ca xs b cb ys m c cc us d cd vs X hz hr (sx.later HB.out) (sy.later HB.out) (su.later HB.out) (sv.later HB.out))
  have HP : Hid (∀ V, Below w.heap.size w V → Calls Tryz.prog 30 #[.agg #[.bool n, .slice a xs.length ca, .slice b ys.length cb, .bool m, .slice c us.length cc, .slice d vs.length cd]] V fun x w' => ∃ S : ByteArray, x = .returned (.tuple #[.string S, .int .i64 (gpErr n xs ys m us vs)]) ∧ (gpErr n xs ys m us vs = 0 → S.data.toList = gtext n xs ys m us vs) ∧ (gpErr n xs ys m us vs ≠ 0 → S = ⟨#[]⟩) ∧ Below V.heap.size V w') := fun V hv => gPrint_any n a ca xs b cb ys m c cc us d cd vs V (sx.later hv) (sy.later hv) (su.later hv) (sv.later hv) (htab.later hv)
  have HD : Hid (∀ z, -2147483648 ≤ z → z ≤ 2147483647 → ∀ V, Below w.heap.size w V → Calls Tryz.prog 31 #[.int .i32 z] V fun e w' => e = .returned (.string ⟨(itoa z).toArray⟩) ∧ Below V.heap.size V w') := fun z z0 z1 V hv => tdecimal_any z V z0 z1 (htab.later hv)
  have D1 := hid (HD.out f hr.1.1 hr.1.2)
  have D2 := hid (HD.out r hr.2.1 hr.2.2)
  have lf := zitoa_len f hr.1.1 hr.1.2
  have lr := zitoa_len r hr.2.1 hr.2.2
  have hls : s.data.toList.length = s.size := Array.length_toList
  have HTC : Hid (tchk s.data.toList f r (gchk n xs ys m us vs) = 0 → s.size ≤ 20) := fun h => by have := tname_ok (tchk_ok h).1; omega
  have HGL : Hid (gpErr n xs ys m us vs = 0 → (gtext n xs ys m us vs).length ≤ 65536) := fun h => by
    unfold gpErr at h
    by_cases hg : gchk n xs ys m us vs = 0
    · rw [hg, fstE_zero] at h
      by_cases hl : 65536 < (gtext n xs ys m us vs).length
      · rw [if_pos hl] at h; exact absurd h (by decide)
      · omega
    · rw [fstE_err _ hg] at h; exact absurd h hg
  generalize gtext n xs ys m us vs = GT at *
  generalize gpErr n xs ys m us vs = GE at *
  generalize tchk s.data.toList f r (gchk n xs ys m us vs) = TC at *
  have HE1 : Hid (TC ≠ 0 → tpErr TC s.data.toList f r GE GT = TC) := tpErr_chk
  have HE2 : Hid (TC = 0 → GE ≠ 0 → tpErr TC s.data.toList f r GE GT = GE) := tpErr_num
  have HE3 : Hid (TC = 0 → GE = 0 → 65536 < (ttext s.data.toList f r GT).length → tpErr TC s.data.toList f r GE GT = 3) := tpErr_long
  have HE4 : Hid (TC = 0 → GE = 0 → ¬ 65536 < (ttext s.data.toList f r GT).length → tpErr TC s.data.toList f r GE GT = 0) := tpErr_ok
  have HTX : Hid (∀ U : ByteArray, U.data.toList = GT → s ++ (⟨#[32]⟩ : ByteArray) ++ (⟨(itoa f).toArray⟩ : ByteArray) ++ (⟨#[32]⟩ : ByteArray) ++ (⟨(itoa r).toArray⟩ : ByteArray) ++ (⟨#[32]⟩ : ByteArray) ++ U = ⟨(ttext s.data.toList f r GT).toArray⟩) := fun U hU => by rw [tsum_text, hU]
  have HTL : Hid (∀ U : ByteArray, U.data.toList = GT → (ttext s.data.toList f r GT).length = s.size + 1 + (itoa f).length + 1 + (itoa r).length + 1 + U.size) := fun U hU => by
    have hu : U.data.toList.length = U.size := Array.length_toList
    unfold ttext
    rw [← hU]
    simp only [List.length_append, List.length_cons]
    omega
  generalize tpErr TC s.data.toList f r GE GT = TE at *
  generalize ttext s.data.toList f r GT = TT at *
  clear sx sy su sv htab hr HD hls
  have k0 : X.cell? ⟨w.heap.size, 0, none⟩ = some (.string s) := HX.out.cell 0
  have k1 : X.cell? ⟨w.heap.size, 1, none⟩ = some (.int .i32 f) := HX.out.cell 1
  have k2 : X.cell? ⟨w.heap.size, 2, none⟩ = some (.int .i32 r) := HX.out.cell 2
  have k3 : X.cell? ⟨w.heap.size, 3, none⟩ = some (.bool n) := HX.out.cell 3
  have k4 : X.cell? ⟨w.heap.size, 4, none⟩ = some (.slice a xs.length ca) := HX.out.cell 4
  have k5 : X.cell? ⟨w.heap.size, 5, none⟩ = some (.slice b ys.length cb) := HX.out.cell 5
  have k6 : X.cell? ⟨w.heap.size, 6, none⟩ = some (.bool m) := HX.out.cell 6
  have k7 : X.cell? ⟨w.heap.size, 7, none⟩ = some (.slice c us.length cc) := HX.out.cell 7
  have k8 : X.cell? ⟨w.heap.size, 8, none⟩ = some (.slice d vs.length cd) := HX.out.cell 8
  go_enter Tryz.func14, Tryz.ntmps14
  go_wp2_with fail
  refine Calls.mono HC.out ?_
  rintro e w1 ⟨rfl, hb1⟩
  have HW1 := hid (bt HB.out hb1)
  have HX1 := hid (HX.out.later hb1 HX.out.lt)
  clear hb1 HC k0 k1 k2 k3 k4 k5 k6 k7 k8 HX HB hX
  by_cases hTC : TC = 0
  · have hsz := HTC.out hTC
    have HZ1 := hid hTC
    subst hTC
    have k3 : w1.cell? ⟨w.heap.size, 3, none⟩ = some (.bool n) := HX1.out.cell 3
    have k4 : w1.cell? ⟨w.heap.size, 4, none⟩ = some (.slice a xs.length ca) := HX1.out.cell 4
    have k5 : w1.cell? ⟨w.heap.size, 5, none⟩ = some (.slice b ys.length cb) := HX1.out.cell 5
    have k6 : w1.cell? ⟨w.heap.size, 6, none⟩ = some (.bool m) := HX1.out.cell 6
    have k7 : w1.cell? ⟨w.heap.size, 7, none⟩ = some (.slice c us.length cc) := HX1.out.cell 7
    have k8 : w1.cell? ⟨w.heap.size, 8, none⟩ = some (.slice d vs.length cd) := HX1.out.cell 8
    go_wp2_with fail
    refine Calls.mono (HP.out _ HW1.out) ?_
    rintro x w2 ⟨U, rfl, hU, _, hb2⟩
    have HW2 := hid (bt HW1.out hb2)
    have HX2 := hid (HX1.out.later hb2 HX1.out.lt)
    have HU := hid hU
    clear hU hb2 k3 k4 k5 k6 k7 k8
    by_cases hGE : GE = 0
    · have hU2 := HU.out hGE
      have hGL := HGL.out hGE
      have hUl : U.size ≤ 65536 := by
        have e1 : U.data.toList.length = U.size := Array.length_toList
        rw [hU2] at e1; omega
      have HT := hid (HTX.out U hU2)
      have hTL := HTL.out U hU2
      have HGZ := hid hGE
      subst hGE
      clear hU2 hGL HU HTX HTL HGL HTC
      have hm1 : ¬ 9223372036854775807 < s.size + 1 := by omega
      have hm2 : ¬ 9223372036854775807 < s.size + 1 + (itoa f).length := by omega
      have hm3 : ¬ 9223372036854775807 < s.size + 1 + (itoa f).length + 1 := by omega
      have hm4 : ¬ 9223372036854775807 < s.size + 1 + (itoa f).length + 1 + (itoa r).length := by omega
      have hm5 : ¬ 9223372036854775807 < s.size + 1 + (itoa f).length + 1 + (itoa r).length + 1 := by omega
      have hm6 : ¬ 9223372036854775807 < s.size + 1 + (itoa f).length + 1 + (itoa r).length + 1 + U.size := by omega
      have HTL := hid hTL
      clear hTL hsz hUl lf lr
      have HF : Hid (∀ V, Below w2.heap.size w2 V → V.cell? ⟨w.heap.size, 0, none⟩ = some (.string s) ∧ V.cell? ⟨w.heap.size, 1, none⟩ = some (.int .i32 f) ∧ V.cell? ⟨w.heap.size, 2, none⟩ = some (.int .i32 r)) := fun V hv => by
        have h := HX2.out.later hv HX2.out.lt
        exact ⟨h.cell 0, h.cell 1, h.cell 2⟩
      have hs0 := HF.out _ (Below.refl _ w2).drew
      have hd0 := hid (Below.refl w2.heap.size w2).drew
      have H1 : Hid (∀ V, Below w2.heap.size w2 V → Calls Tryz.prog 31 #[.int .i32 f] V fun e w' => e = .returned (.string ⟨(itoa f).toArray⟩) ∧ (w'.cell? ⟨w.heap.size, 0, none⟩ = some (.string s) ∧ w'.cell? ⟨w.heap.size, 1, none⟩ = some (.int .i32 f) ∧ w'.cell? ⟨w.heap.size, 2, none⟩ = some (.int .i32 r)) ∧ Below w2.heap.size w2 w') := fun V hv => by
        refine Calls.mono (D1.out V (bt HW2.out hv)) ?_
        rintro e w' ⟨rfl, h⟩
        exact ⟨rfl, HF.out _ (bt hv h), bt hv h⟩
      have H2 : Hid (∀ V, Below w2.heap.size w2 V → Calls Tryz.prog 31 #[.int .i32 r] V fun e w' => e = .returned (.string ⟨(itoa r).toArray⟩) ∧ (w'.cell? ⟨w.heap.size, 0, none⟩ = some (.string s) ∧ w'.cell? ⟨w.heap.size, 1, none⟩ = some (.int .i32 f) ∧ w'.cell? ⟨w.heap.size, 2, none⟩ = some (.int .i32 r)) ∧ Below w2.heap.size w2 w') := fun V hv => by
        refine Calls.mono (D2.out V (bt HW2.out hv)) ?_
        rintro e w' ⟨rfl, h⟩
        exact ⟨rfl, HF.out _ (bt hv h), bt hv h⟩
      clear HF HX1 HX2 D1 D2 HP
      go_wp2_with fail
      go_region_held3 (fun V : World => V.cell? ⟨w.heap.size, 0, none⟩ = some (.string s) ∧ V.cell? ⟨w.heap.size, 1, none⟩ = some (.int .i32 f) ∧ V.cell? ⟨w.heap.size, 2, none⟩ = some (.int .i32 r)) (first | exact hs2 | exact hs1 | exact hs0)
        (first
          | (go_at_call 31; with_reducible refine Calls.mono (H2.out _ hb2) ?_; rintro e w4 ⟨rfl, hs2, hb3⟩)
          | (go_at_call 31; with_reducible refine Calls.mono (H1.out _ hd0.out) ?_; rintro e w3 ⟨rfl, hs1, hb2⟩))
      all_goals
        have HB3 := hid (bt HW2.out hb3)
        clear hs0 hs1 hs2 hb2 hb3 H1 H2 hd0
        have HSZ : Hid ((⟨TT.toArray⟩ : ByteArray).size = TT.length) := by show TT.toArray.size = TT.length; simp
        have HTB : Hid ((⟨TT.toArray⟩ : ByteArray).data.toList = TT) := by show _ = _; simp
        rw [HT.out]
        clear HT hm1 hm2 hm3 hm4 hm5 hm6
        generalize (⟨TT.toArray⟩ : ByteArray) = TB at *
        by_cases hl : (65536 : Int) < (TB.size : Int)
        · have HTE := hid (HE3.out trivial trivial (by have := HSZ.out; omega))
          go_wp2_with fail
          go_ret2
          rw [HTE.out]
          exact ⟨_, rfl, fun h => absurd h (by decide), fun _ => rfl, HB3.out⟩
        · have HTE := hid (HE4.out trivial trivial (by have := HSZ.out; omega))
          go_wp2_with fail
          go_ret2
          rw [HTE.out]
          exact ⟨_, rfl, fun _ => HTB.out, fun h => absurd rfl h, HB3.out⟩
    · have HTE := hid (HE2.out trivial hGE)
      have h2' : (GE == 0) = false := by simp [hGE]
      have h2n : (GE != 0) = true := by simp [hGE]
      clear HP D1 D2 HTX HTL HGL HTC HE3 HE4 HE1
      go_wp2_with fail
      go_ret2
      rw [HTE.out]
      exact ⟨_, rfl, fun h => absurd h hGE, fun _ => rfl, HW2.out⟩
  · have HTE := hid (HE1.out hTC)
    have h2' : (TC == 0) = false := by simp [hTC]
    have h2n : (TC != 0) = true := by simp [hTC]
    clear HP D1 D2 HTX HTL HGL HTC HE3 HE4 HE2
    go_wp2_with fail
    go_ret2
    rw [HTE.out]
    exact ⟨_, rfl, fun h => absurd h hTC, fun _ => rfl, HW1.out⟩
end Go.Proofs.YtmgjkdijnjeljaaGreatDoor

/- package tide: Parse, of any text. -/
namespace Go.Proofs.YtmgjkdijnjeljaaGreatDoor
open Go.RowKit Go.Lib
set_option linter.unusedVariables false
set_option linter.unusedSimpArgs false

theorem box_put9 {U : World} {b t : Nat} {u0 u1 u2 u3 u4 u5 u6 u7 u8 : Value} (h : Box U b t #[u0, u1, u2, u3, u4, u5, u6, u7, u8]) (v0 v1 v2 v3 v4 v5 v6 v7 v8 : Value) : Box (((((((((U.setCell ⟨b, 0, none⟩ v0).setCell ⟨b, 1, none⟩ v1).setCell ⟨b, 2, none⟩ v2).setCell ⟨b, 3, none⟩ v3).setCell ⟨b, 4, none⟩ v4).setCell ⟨b, 5, none⟩ v5).setCell ⟨b, 6, none⟩ v6).setCell ⟨b, 7, none⟩ v7).setCell ⟨b, 8, none⟩ v8) b t #[v0, v1, v2, v3, v4, v5, v6, v7, v8] := by
  have h0 : Box _ b t #[v0, u1, u2, u3, u4, u5, u6, u7, u8] := h.set 0 v0
  have h1 : Box _ b t #[v0, v1, u2, u3, u4, u5, u6, u7, u8] := h0.set 1 v1
  have h2 : Box _ b t #[v0, v1, v2, u3, u4, u5, u6, u7, u8] := h1.set 2 v2
  have h3 : Box _ b t #[v0, v1, v2, v3, u4, u5, u6, u7, u8] := h2.set 3 v3
  have h4 : Box _ b t #[v0, v1, v2, v3, v4, u5, u6, u7, u8] := h3.set 4 v4
  have h5 : Box _ b t #[v0, v1, v2, v3, v4, v5, u6, u7, u8] := h4.set 5 v5
  have h6 : Box _ b t #[v0, v1, v2, v3, v4, v5, v6, u7, u8] := h5.set 6 v6
  have h7 : Box _ b t #[v0, v1, v2, v3, v4, v5, v6, v7, u8] := h6.set 7 v7
  exact h7.set 8 v8
theorem below_put9 {B : Nat} {x U : World} (h : Below B x U) (b : Nat) (hb : B ≤ b) (v0 v1 v2 v3 v4 v5 v6 v7 v8 : Value) : Below B x (((((((((U.setCell ⟨b, 0, none⟩ v0).setCell ⟨b, 1, none⟩ v1).setCell ⟨b, 2, none⟩ v2).setCell ⟨b, 3, none⟩ v3).setCell ⟨b, 4, none⟩ v4).setCell ⟨b, 5, none⟩ v5).setCell ⟨b, 6, none⟩ v6).setCell ⟨b, 7, none⟩ v7).setCell ⟨b, 8, none⟩ v8) :=
  ((((((((h.setCell (p := ⟨b, 0, none⟩) hb _).setCell (p := ⟨b, 1, none⟩) hb _).setCell (p := ⟨b, 2, none⟩) hb _).setCell (p := ⟨b, 3, none⟩) hb _).setCell (p := ⟨b, 4, none⟩) hb _).setCell (p := ⟨b, 5, none⟩) hb _).setCell (p := ⟨b, 6, none⟩) hb _).setCell (p := ⟨b, 7, none⟩) hb _).setCell (p := ⟨b, 8, none⟩) hb _
theorem own_put9 {w : World} {base e n : Nat} {v : Value} {xs : List Value} (h : w.ownsRow base e 1 v n xs) (b : Nat) (hb : ∀ g, v.ownBlock = some g → g ≠ b) (v0 v1 v2 v3 v4 v5 v6 v7 v8 : Value) : (((((((((w.setCell ⟨b, 0, none⟩ v0).setCell ⟨b, 1, none⟩ v1).setCell ⟨b, 2, none⟩ v2).setCell ⟨b, 3, none⟩ v3).setCell ⟨b, 4, none⟩ v4).setCell ⟨b, 5, none⟩ v5).setCell ⟨b, 6, none⟩ v6).setCell ⟨b, 7, none⟩ v7).setCell ⟨b, 8, none⟩ v8).ownsRow base e 1 v n xs :=
  own_put1 (own_put1 (own_put1 (own_put1 (own_put1 (own_put1 (own_put1 (own_put1 (own_put1 h b hb 0 v0) b hb 1 v1) b hb 2 v2) b hb 3 v3) b hb 4 v4) b hb 5 v5) b hb 6 v6) b hb 7 v7) b hb 8 v8
/-- A constituent is read out of a box, its error out of a slot. -/
theorem tres_run {fn : Func} {W : World} {b q u : Nat} {cs : Array Value} (hr : fn.results = #[.cell q 31, .tmp u]) (hb : Box W b 31 cs) (tmps : Array Value) (h4 : tmps.getD q undef = .pointer (some ⟨b, 0, none⟩)) (hi : (Tryz.prog.info? 31).map (·.size) = some cs.size := by kernel_rfl) : (results fn tmps).run Tryz.prog W = .ok (.tuple #[.agg cs, tmps.getD u undef]) W := by
  have h := run_loadVar_row (P := Tryz.prog) W b 31 31 cs (0, 0) _ hb Tryz.underlying31 rfl hi
  rw [results_cell_tmp hr, h4]
  simp [asAddr, h]
/-- A store of nine cells, cell by cell, each world by its name. -/
theorem tchain9 {W : World} {b t : Nat} {u0 u1 u2 u3 u4 u5 u6 u7 u8 : Value} (h : Box W b t #[u0, u1, u2, u3, u4, u5, u6, u7, u8]) (v0 v1 v2 v3 v4 v5 v6 v7 v8 : Value) : ∃ A0 A1 A2 A3 A4 A5 A6 A7 A8, W.setCell ⟨b, 0, none⟩ v0 = A0 ∧ A0.setCell ⟨b, 1, none⟩ v1 = A1 ∧ A1.setCell ⟨b, 2, none⟩ v2 = A2 ∧ A2.setCell ⟨b, 3, none⟩ v3 = A3 ∧ A3.setCell ⟨b, 4, none⟩ v4 = A4 ∧ A4.setCell ⟨b, 5, none⟩ v5 = A5 ∧ A5.setCell ⟨b, 6, none⟩ v6 = A6 ∧ A6.setCell ⟨b, 7, none⟩ v7 = A7 ∧ A7.setCell ⟨b, 8, none⟩ v8 = A8 ∧ (W.cell? ⟨b, 0, none⟩ = some u0 ∧ A0.cell? ⟨b, 1, none⟩ = some u1 ∧ A1.cell? ⟨b, 2, none⟩ = some u2 ∧ A2.cell? ⟨b, 3, none⟩ = some u3 ∧ A3.cell? ⟨b, 4, none⟩ = some u4 ∧ A4.cell? ⟨b, 5, none⟩ = some u5 ∧ A5.cell? ⟨b, 6, none⟩ = some u6 ∧ A6.cell? ⟨b, 7, none⟩ = some u7 ∧ A7.cell? ⟨b, 8, none⟩ = some u8) ∧ (W.frozen? ⟨b, 0, none⟩ = false ∧ A0.frozen? ⟨b, 1, none⟩ = false ∧ A1.frozen? ⟨b, 2, none⟩ = false ∧ A2.frozen? ⟨b, 3, none⟩ = false ∧ A3.frozen? ⟨b, 4, none⟩ = false ∧ A4.frozen? ⟨b, 5, none⟩ = false ∧ A5.frozen? ⟨b, 6, none⟩ = false ∧ A6.frozen? ⟨b, 7, none⟩ = false ∧ A7.frozen? ⟨b, 8, none⟩ = false) := by
  have h0 : Box _ b t #[v0, u1, u2, u3, u4, u5, u6, u7, u8] := h.set 0 v0
  have h1 : Box _ b t #[v0, v1, u2, u3, u4, u5, u6, u7, u8] := h0.set 1 v1
  have h2 : Box _ b t #[v0, v1, v2, u3, u4, u5, u6, u7, u8] := h1.set 2 v2
  have h3 : Box _ b t #[v0, v1, v2, v3, u4, u5, u6, u7, u8] := h2.set 3 v3
  have h4 : Box _ b t #[v0, v1, v2, v3, v4, u5, u6, u7, u8] := h3.set 4 v4
  have h5 : Box _ b t #[v0, v1, v2, v3, v4, v5, u6, u7, u8] := h4.set 5 v5
  have h6 : Box _ b t #[v0, v1, v2, v3, v4, v5, v6, u7, u8] := h5.set 6 v6
  have h7 : Box _ b t #[v0, v1, v2, v3, v4, v5, v6, v7, u8] := h6.set 7 v7
  exact ⟨_, _, _, _, _, _, _, _, _, rfl, rfl, rfl, rfl, rfl, rfl, rfl, rfl, rfl, ⟨h.cell 0, h0.cell 1, h1.cell 2, h2.cell 3, h3.cell 4, h4.cell 5, h5.cell 6, h6.cell 7, h7.cell 8⟩, h.free 0, h0.free 1, h1.free 2, h2.free 3, h3.free 4, h4.free 5, h5.free 6, h6.free 7, h7.free 8⟩
theorem tchain_far {W A0 A1 A2 A3 A4 A5 A6 A7 A8 : World} {b b' t' : Nat} {cs : Array Value} {v0 v1 v2 v3 v4 v5 v6 v7 v8 : Value} (h : Box W b' t' cs) (hne : b' ≠ b) (hA0 : W.setCell ⟨b, 0, none⟩ v0 = A0) (hA1 : A0.setCell ⟨b, 1, none⟩ v1 = A1) (hA2 : A1.setCell ⟨b, 2, none⟩ v2 = A2) (hA3 : A2.setCell ⟨b, 3, none⟩ v3 = A3) (hA4 : A3.setCell ⟨b, 4, none⟩ v4 = A4) (hA5 : A4.setCell ⟨b, 5, none⟩ v5 = A5) (hA6 : A5.setCell ⟨b, 6, none⟩ v6 = A6) (hA7 : A6.setCell ⟨b, 7, none⟩ v7 = A7) (hA8 : A7.setCell ⟨b, 8, none⟩ v8 = A8) : Box A8 b' t' cs := by
  subst hA0 hA1 hA2 hA3 hA4 hA5 hA6 hA7 hA8
  exact (((((((((h.other ⟨b, 0, none⟩ v0 hne).other ⟨b, 1, none⟩ v1 hne).other ⟨b, 2, none⟩ v2 hne).other ⟨b, 3, none⟩ v3 hne).other ⟨b, 4, none⟩ v4 hne).other ⟨b, 5, none⟩ v5 hne).other ⟨b, 6, none⟩ v6 hne).other ⟨b, 7, none⟩ v7 hne).other ⟨b, 8, none⟩ v8 hne)

/-- What a call tells that tells a constituent: E what was refused, L whether its number is too long; else the name l, the rotor f r, the number q1 q2. -/
structure TTells (E : Int) (L : Prop) (l : List UInt8) (f r : Int) (q1 q2 : Rat) (S : ByteArray) (F R : Int) (n : Bool) (xs ys : List Int) (m : Bool) (us vs : List Int) (code : Int) : Prop where
  num : GTells E L q1 q2 n xs ys m us vs code
  bad : code ≠ 0 → S = ⟨#[]⟩ ∧ F = 0 ∧ R = 0
  good : code = 0 → S.data.toList = l ∧ F = f ∧ R = r
def TToldC (w : World) (E : Int) (L : Prop) (l : List UInt8) (f r : Int) (q1 q2 : Rat) (x : Ending) (w' : World) : Prop :=
  ∃ S F R n a ca xs b cb ys m c cc us d cd vs code, x = .returned (.tuple #[.agg #[.string S, .int .i32 F, .int .i32 R, .bool n, .slice a (List.length xs) ca, .slice b (List.length ys) cb, .bool m, .slice c (List.length us) cc, .slice d (List.length vs) cd], .int .i64 code]) ∧ (w'.ownsRow w.heap.size 85 1 (.slice a xs.length ca) xs.length (xs.map (Value.int .u32)) ∧ w'.ownsRow w.heap.size 85 1 (.slice b ys.length cb) ys.length (ys.map (Value.int .u32)) ∧ w'.ownsRow w.heap.size 85 1 (.slice c us.length cc) us.length (us.map (Value.int .u32)) ∧ w'.ownsRow w.heap.size 85 1 (.slice d vs.length cd) vs.length (vs.map (Value.int .u32))) ∧ TTells E L l f r q1 q2 S F R n xs ys m us vs code ∧ Below w.heap.size w w' ∧ ∃ W1, Cut w (.slice a xs.length ca) (.slice b ys.length cb) W1 ∧ Cut W1 (.slice c us.length cc) (.slice d vs.length cd) w'
theorem ttoldc_zero {w W : World} {E : Int} {L : Prop} {l : List UInt8} {f r : Int} {q1 q2 : Rat} {code : Int} (h : E ≠ 0 ∧ code = E ∨ E = 0 ∧ L ∧ code = 3) (hb : Below w.heap.size w W) : TToldC w E L l f r q1 q2 (.returned (.tuple #[.agg #[.string ⟨#[]⟩, .int .i32 0, .int .i32 0, .bool false, .slice none 0 0, .slice none 0 0, .bool false, .slice none 0 0, .slice none 0 0], .int .i64 code])) W := by
  have hc : code ≠ 0 := by rcases h with h | h <;> omega
  refine ⟨⟨#[]⟩, 0, 0, false, none, 0, [], none, 0, [], false, none, 0, [], none, 0, [], code, rfl, ⟨World.ownsRow_nil _ _ _ _, World.ownsRow_nil _ _ _ _, World.ownsRow_nil _ _ _ _, World.ownsRow_nil _ _ _ _⟩, ⟨⟨⟨Wd.nil, Wd.nil, Wd.nil, Wd.nil⟩, fun he => ⟨⟨rfl, rfl, rfl, rfl, rfl, rfl⟩, ?_⟩, fun he hl => ⟨⟨rfl, rfl, rfl, rfl, rfl, rfl⟩, ?_⟩, fun he hl => ?_⟩, fun _ => ⟨rfl, rfl, rfl⟩, fun e => absurd e hc⟩, hb, W, cut_nil _ _ hb.size, cut_nil _ _ (Nat.le_refl _)⟩
  · rcases h with h | h
    · exact h.2
    · exact absurd h.1 he
  · rcases h with h | h
    · exact absurd he h.1
    · exact h.2.2
  · rcases h with h | h
    · exact absurd he h.1
    · exact absurd h.2.1 hl

/-- A text's words, one behind the other. -/
def trest (l : List UInt8) : List UInt8 := (Lib.cut l [32]).2.1
def tword (l : List UInt8) : List UInt8 := (Lib.cut l [32]).1
def tgood (l : List UInt8) : Prop := tname (tword l) = true ∧ tnumOk (tword (trest l)) = true ∧ tnumOk (tword (trest (trest l))) = true ∧ ggood (trest (trest (trest l)))
open Classical in
/-- What is refused of a text, but for numbers that are too long. -/
noncomputable def tpE (s : ByteArray) : Int := if 65536 < s.size then 3 else if tgood s.data.toList then ochk (tnumV (tword (trest s.data.toList))) (tnumV (tword (trest (trest s.data.toList)))) else 230
theorem tpE_long {s : ByteArray} (h : 65536 < s.size) : tpE s = 3 := by unfold tpE; rw [if_pos h]
theorem tpE_good {s : ByteArray} (hs : s.size ≤ 65536) (h : tgood s.data.toList) : tpE s = ochk (tnumV (tword (trest s.data.toList))) (tnumV (tword (trest (trest s.data.toList)))) := by unfold tpE; rw [if_neg (by omega), if_pos h]
theorem tpE_bad {s : ByteArray} (hs : s.size ≤ 65536) (h : ¬ tgood s.data.toList) : tpE s = 230 := by unfold tpE; rw [if_neg (by omega), if_neg h]
theorem gpar_or {T : ByteArray} (hs : T.size ≤ 65536) {L : Prop} {q1 q2 : Rat} {n m : Bool} {xs ys us vs : List Int} {code : Int} (h : GTells (gpE T) L q1 q2 n xs ys m us vs code) :
    (code = 140 ∧ ¬ ggood T.data.toList) ∨ (ggood T.data.toList ∧ L ∧ code = 3) ∨ (ggood T.data.toList ∧ ¬ L ∧ code = 0 ∧ GTells 0 L q1 q2 n xs ys m us vs 0) := by
  by_cases hg : ggood T.data.toList
  · rw [gpE_good hs hg] at h
    by_cases hL : L
    · exact .inr (.inl ⟨hg, hL, (h.long rfl hL).2⟩)
    · have e := (h.good rfl hL).1
      subst e
      exact .inr (.inr ⟨hg, hL, rfl, h⟩)
  · rw [gpE_bad hs hg] at h
    exact .inl ⟨(h.bad (by decide)).2, hg⟩
theorem tclone_any (s : ByteArray) (w : World) (h : s.size ≤ 281474976710656) : Calls Tryz.prog 23 #[.string s] w fun e w' => e = .returned (.string s) ∧ Below w.heap.size w w' := by
  have HC := hid (Tryz.stringslite_Clone s w h)
  go_enter Tryz.func23, Tryz.ntmps23
  go_wp2_with fail
  refine Calls.mono HC.out ?_
  rintro e w1 ⟨rfl, hb⟩
  go_wp2_with fail
  go_ret
  exact ⟨rfl, hb⟩

set_option maxHeartbeats 1600000 in
set_option maxRecDepth 100000 in
theorem tParse_long (s : ByteArray) (w : World) (hs : 65536 < s.size) (hm : s.size ≤ 281474976710656) (L : Prop) (l : List UInt8) (f r : Int) (q1 q2 : Rat) : Calls Tryz.prog 9 #[.string s] w (TToldC w 3 L l f r q1 q2) := by
  have HX := hid (Box.made w 31 #[.string ⟨#[]⟩, .int .i32 0, .int .i32 0, .bool false, .slice none 0 0, .slice none 0 0, .bool false, .slice none 0 0, .slice none 0 0])
  have HB := hid (alloc_later w (.cells #[.string ⟨#[]⟩, .int .i32 0, .int .i32 0, .bool false, .slice none 0 0, .slice none 0 0, .bool false, .slice none 0 0, .slice none 0 0] 31))
  obtain ⟨X, hX⟩ : ∃ X, w.alloc (.cells #[.string ⟨#[]⟩, .int .i32 0, .int .i32 0, .bool false, .slice none 0 0, .slice none 0 0, .bool false, .slice none 0 0, .slice none 0 0] 31) = X := ⟨_, rfl⟩
  rw [hX] at HX HB
  have m0 : X.cell? ⟨w.heap.size, 0, none⟩ = some (.string ⟨#[]⟩) := HX.out.cell 0
  have m1 : X.cell? ⟨w.heap.size, 1, none⟩ = some (.int .i32 0) := HX.out.cell 1
  have m2 : X.cell? ⟨w.heap.size, 2, none⟩ = some (.int .i32 0) := HX.out.cell 2
  have m3 : X.cell? ⟨w.heap.size, 3, none⟩ = some (.bool false) := HX.out.cell 3
  have m4 : X.cell? ⟨w.heap.size, 4, none⟩ = some (.slice none 0 0) := HX.out.cell 4
  have m5 : X.cell? ⟨w.heap.size, 5, none⟩ = some (.slice none 0 0) := HX.out.cell 5
  have m6 : X.cell? ⟨w.heap.size, 6, none⟩ = some (.bool false) := HX.out.cell 6
  have m7 : X.cell? ⟨w.heap.size, 7, none⟩ = some (.slice none 0 0) := HX.out.cell 7
  have m8 : X.cell? ⟨w.heap.size, 8, none⟩ = some (.slice none 0 0) := HX.out.cell 8
  have f0 := HX.out.free 0
  have f1 := HX.out.free 1
  have f2 := HX.out.free 2
  have f3 := HX.out.free 3
  have f4 := HX.out.free 4
  have f5 := HX.out.free 5
  have f6 := HX.out.free 6
  have f7 := HX.out.free 7
  have f8 := HX.out.free 8
  have hs' : (65536 : Int) < (s.size : Int) := by omega
  clear hs
  go_enter Tryz.func9, Tryz.ntmps9
  go_wp2_with fail
  have B1 := box_put9 HX.out (.string ⟨#[]⟩) (.int .i32 0) (.int .i32 0) (.bool false) (.slice none 0 0) (.slice none 0 0) (.bool false) (.slice none 0 0) (.slice none 0 0)
  have G1 := below_put9 HB.out w.heap.size (Nat.le_refl _) (.string ⟨#[]⟩) (.int .i32 0) (.int .i32 0) (.bool false) (.slice none 0 0) (.slice none 0 0) (.bool false) (.slice none 0 0) (.slice none 0 0)
  clear m0 m1 m2 m3 m4 m5 m6 m7 m8 f0 f1 f2 f3 f4 f5 f6 f7 f8
  exact bodyPost_ret (tres_run (by rfl) B1 _ rfl) rfl (ttoldc_zero (E := 3) (.inl ⟨by decide, rfl⟩) G1)
end Go.Proofs.YtmgjkdijnjeljaaGreatDoor

/- package tide: Parse, of any text. -/
namespace Go.Proofs.YtmgjkdijnjeljaaGreatDoor
open Go.RowKit Go.Lib
set_option linter.unusedVariables false
set_option linter.unusedSimpArgs false

set_option maxHeartbeats 6400000 in
set_option maxRecDepth 100000 in
theorem tParse_any (s : ByteArray) (w : World) (hm : s.size ≤ 281474976710656) (htab : Tab w) (herr : ErrT w) : Calls Tryz.prog 9 #[.string s] w (TToldC w (tpE s) (gplong (trest (trest (trest s.data.toList)))) (tword s.data.toList) (tnumV (tword (trest s.data.toList))) (tnumV (tword (trest (trest s.data.toList)))) (rpq (gp1 (trest (trest (trest s.data.toList))))) (rpq (gp2 (trest (trest (trest s.data.toList)))))) := by
  by_cases hs : 65536 < s.size
  · rw [tpE_long hs]
    exact tParse_long s w hs hm _ _ _ _ _ _
  have HX := hid (Box.made w 31 #[.string ⟨#[]⟩, .int .i32 0, .int .i32 0, .bool false, .slice none 0 0, .slice none 0 0, .bool false, .slice none 0 0, .slice none 0 0])
  have HB := hid (alloc_later w (.cells #[.string ⟨#[]⟩, .int .i32 0, .int .i32 0, .bool false, .slice none 0 0, .slice none 0 0, .bool false, .slice none 0 0, .slice none 0 0] 31))
  obtain ⟨X, hX⟩ : ∃ X, w.alloc (.cells #[.string ⟨#[]⟩, .int .i32 0, .int .i32 0, .bool false, .slice none 0 0, .slice none 0 0, .bool false, .slice none 0 0, .slice none 0 0] 31) = X := ⟨_, rfl⟩
  rw [hX] at HX HB
  have hs' : ¬ (65536 : Int) < (s.size : Int) := by omega
  have HEG : Hid (tgood s.data.toList → tpE s = ochk (tnumV (tword (trest s.data.toList))) (tnumV (tword (trest (trest s.data.toList))))) := tpE_good (by omega)
  have HEB : Hid (¬ tgood s.data.toList → tpE s = 230) := tpE_bad (by omega)
  have HGD : Hid (tgood s.data.toList ↔ tname (tword s.data.toList) = true ∧ tnumOk (tword (trest s.data.toList)) = true ∧ tnumOk (tword (trest (trest s.data.toList))) = true ∧ ggood (trest (trest (trest s.data.toList)))) := Iff.rfl
  have hl : s.data.toList.length = s.size := Array.length_toList
  have e1 : ∀ l, (tword l).length ≤ l.length ∧ (trest l).length ≤ l.length := fun l => zcut_len l 32
  have H1 : Hid (∀ V, Calls Tryz.prog 20 #[.string s, .string ⟨#[32]⟩] V fun e w' => ∃ fd, e = .returned (.tuple #[.string ⟨(tword s.data.toList).toArray⟩, .string ⟨(trest s.data.toList).toArray⟩, .bool fd]) ∧ Below V.heap.size V w') := fun V => Calls.mono (zcut_any s 32 V hm) (by rintro e w' ⟨h1, h2⟩; exact ⟨_, h1, h2⟩)
  have HCU : ∀ l : List UInt8, l.length ≤ 65536 → ∀ V, Calls Tryz.prog 20 #[.string ⟨l.toArray⟩, .string ⟨#[32]⟩] V fun e w' => ∃ fd, e = .returned (.tuple #[.string ⟨(tword l).toArray⟩, .string ⟨(trest l).toArray⟩, .bool fd]) ∧ Below V.heap.size V w' := fun l hl V => by
    have hz : (⟨l.toArray⟩ : ByteArray).size ≤ 281474976710656 := by show l.toArray.size ≤ _; simp; omega
    have h := zcut_any ⟨l.toArray⟩ 32 V hz
    have e : (⟨l.toArray⟩ : ByteArray).data.toList = l := by simp
    rw [e] at h
    exact Calls.mono h (by rintro e w' ⟨h1, h2⟩; exact ⟨_, h1, h2⟩)
  generalize s.data.toList = l0 at *
  have z1 := e1 l0
  have z2 := e1 (trest l0)
  have z3 := e1 (trest (trest l0))
  have H2 := hid (HCU (trest l0) (by omega))
  have H3 := hid (HCU (trest (trest l0)) (by omega))
  have HRR : Hid (∀ V, Below w.heap.size w V → Calls Tryz.prog 21 #[.string ⟨(tword (trest l0)).toArray⟩, .string ⟨(tword (trest (trest l0))).toArray⟩] V fun e w' => e = .returned (.tuple #[.agg #[.int .i32 (tnumV (tword (trest l0))), .int .i32 (tnumV (tword (trest (trest l0))))], .bool (tnumOk (tword (trest l0)) && tnumOk (tword (trest (trest l0))))]) ∧ Below V.heap.size V w') := fun V hv => by
    have h := treadRotor_any ⟨(tword (trest l0)).toArray⟩ ⟨(tword (trest (trest l0))).toArray⟩ V (by show (tword (trest l0)).toArray.size ≤ _; simp; omega) (by show (tword (trest (trest l0))).toArray.size ≤ _; simp; omega) (htab.later hv) (herr.later hv)
    have q1 : (⟨(tword (trest l0)).toArray⟩ : ByteArray).data.toList = tword (trest l0) := by simp
    have q2 : (⟨(tword (trest (trest l0))).toArray⟩ : ByteArray).data.toList = tword (trest (trest l0)) := by simp
    rw [q1, q2] at h
    exact h
  have hsz3 : (⟨(trest (trest (trest l0))).toArray⟩ : ByteArray).size ≤ 65536 := by show (trest (trest (trest l0))).toArray.size ≤ _; simp; omega
  have q3 : (⟨(trest (trest (trest l0))).toArray⟩ : ByteArray).data.toList = trest (trest (trest l0)) := by simp
  have HGP : Hid (∀ V, Calls Tryz.prog 22 #[.string ⟨(trest (trest (trest l0))).toArray⟩] V (GToldC V (gpE ⟨(trest (trest (trest l0))).toArray⟩) (gplong (trest (trest (trest l0)))) (rpq (gp1 (trest (trest (trest l0))))) (rpq (gp2 (trest (trest (trest l0))))))) := fun V => by
    have h := gParse_any ⟨(trest (trest (trest l0))).toArray⟩ V (by omega)
    rw [q3] at h
    exact h
  have HGO : Hid (∀ {n m : Bool} {xs ys us vs : List Int} {code : Int}, GTells (gpE ⟨(trest (trest (trest l0))).toArray⟩) (gplong (trest (trest (trest l0)))) (rpq (gp1 (trest (trest (trest l0))))) (rpq (gp2 (trest (trest (trest l0))))) n xs ys m us vs code → (code = 140 ∧ ¬ ggood (trest (trest (trest l0)))) ∨ (ggood (trest (trest (trest l0))) ∧ gplong (trest (trest (trest l0))) ∧ code = 3) ∨ (ggood (trest (trest (trest l0))) ∧ ¬ gplong (trest (trest (trest l0))) ∧ code = 0 ∧ GTells 0 (gplong (trest (trest (trest l0)))) (rpq (gp1 (trest (trest (trest l0))))) (rpq (gp2 (trest (trest (trest l0))))) n xs ys m us vs 0)) := fun h => by
    have := gpar_or hsz3 h
    rw [q3] at this
    exact this
  have HNM : Hid (∀ V, Calls Tryz.prog 7 #[.string ⟨(tword l0).toArray⟩] V fun e w' => e = .returned (.bool (tname (tword l0))) ∧ V = w') := fun V => by
    have h := tName_any ⟨(tword l0).toArray⟩ V (by show (tword l0).toArray.size ≤ _; simp; omega)
    have q1 : (⟨(tword l0).toArray⟩ : ByteArray).data.toList = tword l0 := by simp
    rw [q1] at h
    exact h
  have HCL : Hid (∀ V, Calls Tryz.prog 23 #[.string ⟨(tword l0).toArray⟩] V fun e w' => e = .returned (.string ⟨(tword l0).toArray⟩) ∧ Below V.heap.size V w') := fun V => tclone_any _ V (by show (tword l0).toArray.size ≤ _; simp; omega)
  have HWD : Hid ((⟨(tword l0).toArray⟩ : ByteArray).data.toList = tword l0) := by show _ = _; simp
  have i1 := tnumV_in (tword (trest l0))
  have i2 := tnumV_in (tword (trest (trest l0)))
  have HOC : Hid (∀ V, Calls Tryz.prog 18 #[.agg #[.int .i32 (tnumV (tword (trest l0))), .int .i32 (tnumV (tword (trest (trest l0))))]] V fun e w' => e = .returned (.int .i64 (ochk (tnumV (tword (trest l0))) (tnumV (tword (trest (trest l0)))))) ∧ Below V.heap.size V w') := fun V => ocheck_any _ _ V ⟨by omega, by omega⟩
  generalize tpE s = E at *
  generalize tgood l0 = TG at *
  generalize gplong (trest (trest (trest l0))) = GL at *
  generalize rpq (gp1 (trest (trest (trest l0)))) = q1 at *
  generalize rpq (gp2 (trest (trest (trest l0)))) = q2 at *
  generalize gpE ⟨(trest (trest (trest l0))).toArray⟩ = GE at *
  generalize ggood (trest (trest (trest l0))) = GG at *
  generalize (⟨(trest (trest (trest l0))).toArray⟩ : ByteArray) = B3 at *
  generalize ochk (tnumV (tword (trest l0))) (tnumV (tword (trest (trest l0)))) = OC at *
  generalize tnumV (tword (trest l0)) = F at *
  generalize tnumV (tword (trest (trest l0))) = R at *
  generalize tnumOk (tword (trest l0)) = N1 at *
  generalize tnumOk (tword (trest (trest l0))) = N2 at *
  generalize tname (tword l0) = NM at *
  generalize (⟨(tword (trest l0)).toArray⟩ : ByteArray) = C1 at *
  generalize (⟨(tword (trest (trest l0))).toArray⟩ : ByteArray) = C2 at *
  generalize (⟨(trest (trest l0)).toArray⟩ : ByteArray) = B2 at *
  generalize (⟨(trest l0).toArray⟩ : ByteArray) = B1 at *
  generalize (tword l0).toArray = A1 at *
  generalize tword l0 = l1 at *
  clear z1 z2 z3 e1 HCU htab herr hs q3 hsz3 hl
  go_enter Tryz.func9, Tryz.ntmps9
  go_wp2_with fail
  refine Calls.mono (H1.out _) ?_
  rintro e w1 ⟨d1, rfl, hb1⟩
  have HW1 := hid (bt HB.out hb1)
  have HR1 := hid (HX.out.later hb1 HX.out.lt)
  clear hb1 H1
  go_wp2_with fail
  refine Calls.mono (H2.out _) ?_
  rintro e w2 ⟨d2, rfl, hb2⟩
  have HW2 := hid (bt HW1.out hb2)
  have HR2 := hid (HR1.out.later hb2 HR1.out.lt)
  clear hb2 H2
  go_wp2_with fail
  refine Calls.mono (H3.out _) ?_
  rintro e w3 ⟨d3, rfl, hb3⟩
  have HW3 := hid (bt HW2.out hb3)
  have HR3 := hid (HR2.out.later hb3 HR2.out.lt)
  clear hb3 H3
  go_wp2_with fail
  refine Calls.mono (HRR.out _ HW3.out) ?_
  rintro e w4 ⟨rfl, hb4⟩
  have HN := hid (Box.made w4 24 #[.int .i32 F, .int .i32 R])
  have HNB := hid (alloc_later w4 (.cells #[.int .i32 F, .int .i32 R] 24))
  obtain ⟨Y4, hY4⟩ : ∃ Y4, w4.alloc (.cells #[.int .i32 F, .int .i32 R] 24) = Y4 := ⟨_, rfl⟩
  rw [hY4] at HN HNB
  have HW4 := hid (bt HW3.out (bt hb4 HNB.out))
  have HR4 := hid (HR3.out.later (bt hb4 HNB.out) HR3.out.lt)
  have h4Y : w4.heap.size < Y4.heap.size := HN.out.lt
  have hlt4 : w.heap.size < w4.heap.size := Nat.lt_of_lt_of_le HR3.out.lt hb4.size
  clear hb4 HRR
  go_wp2_with fail
  refine Calls.mono (HGP.out _) ?_
  rintro e w5 ⟨n, a, ca, xs, b, cb, ys, m, c, cc, us, d, cd, vs, code, rfl, hoo, ht, hb5, W1, hc1, hc2⟩
  have HM := hid (Box.made w5 29 #[.bool n, .slice a xs.length ca, .slice b ys.length cb, .bool m, .slice c us.length cc, .slice d vs.length cd])
  have HMB := hid (alloc_later w5 (.cells #[.bool n, .slice a xs.length ca, .slice b ys.length cb, .bool m, .slice c us.length cc, .slice d vs.length cd] 29))
  obtain ⟨Y5, hY5⟩ : ∃ Y5, w5.alloc (.cells #[.bool n, .slice a xs.length ca, .slice b ys.length cb, .bool m, .slice c us.length cc, .slice d vs.length cd] 29) = Y5 := ⟨_, rfl⟩
  rw [hY5] at HM HMB
  have hb5' : Below Y4.heap.size Y4 Y5 := bt hb5 HMB.out
  have hlt5 : w.heap.size < w5.heap.size := Nat.lt_of_lt_of_le HR4.out.lt hb5.size
  have HW5 := hid (bt HW4.out hb5')
  have HR5 := hid (HR4.out.later hb5' HR4.out.lt)
  have HN5 := hid (HN.out.later hb5' HN.out.lt)
  have HOO := hid (And.intro (owns_later hoo.1 HMB.out) (And.intro (owns_later hoo.2.1 HMB.out) (And.intro (owns_later hoo.2.2.1 HMB.out) (owns_later hoo.2.2.2 HMB.out))))
  have HCC : Hid (∃ W1, Cut Y4 (.slice a xs.length ca) (.slice b ys.length cb) W1 ∧ Cut W1 (.slice c us.length cc) (.slice d vs.length cd) Y5) := ⟨W1, hc1, hc2.up (Nat.le_refl _) HMB.out.size⟩
  have HTO := hid (HGO.out ht)
  clear hoo hc1 hc2 ht hb5 hb5' HGP HGO
  have m0 : Y5.cell? ⟨w.heap.size, 0, none⟩ = some (.string ⟨#[]⟩) := HR5.out.cell 0
  have m1 : Y5.cell? ⟨w.heap.size, 1, none⟩ = some (.int .i32 0) := HR5.out.cell 1
  have m2 : Y5.cell? ⟨w.heap.size, 2, none⟩ = some (.int .i32 0) := HR5.out.cell 2
  have m3 : Y5.cell? ⟨w.heap.size, 3, none⟩ = some (.bool false) := HR5.out.cell 3
  have m4 : Y5.cell? ⟨w.heap.size, 4, none⟩ = some (.slice none 0 0) := HR5.out.cell 4
  have m5 : Y5.cell? ⟨w.heap.size, 5, none⟩ = some (.slice none 0 0) := HR5.out.cell 5
  have m6 : Y5.cell? ⟨w.heap.size, 6, none⟩ = some (.bool false) := HR5.out.cell 6
  have m7 : Y5.cell? ⟨w.heap.size, 7, none⟩ = some (.slice none 0 0) := HR5.out.cell 7
  have m8 : Y5.cell? ⟨w.heap.size, 8, none⟩ = some (.slice none 0 0) := HR5.out.cell 8
  have f0 := HR5.out.free 0
  have f1 := HR5.out.free 1
  have f2 := HR5.out.free 2
  have f3 := HR5.out.free 3
  have f4 := HR5.out.free 4
  have f5 := HR5.out.free 5
  have f6 := HR5.out.free 6
  have f7 := HR5.out.free 7
  have f8 := HR5.out.free 8
  cases NM with
  | false =>
    have HE := hid (HEB.out (fun h => by have := (HGD.out.1 h).1; cases this))
    clear HTO
    go_wp2_with fail
    refine Calls.mono (HNM.out _) ?_
    rintro e w6 ⟨rfl, rfl⟩
    go_wp2_with fail
    have B1 := box_put9 HR5.out (.string ⟨#[]⟩) (.int .i32 0) (.int .i32 0) (.bool false) (.slice none 0 0) (.slice none 0 0) (.bool false) (.slice none 0 0) (.slice none 0 0)
    have G1 := below_put9 HW5.out w.heap.size (Nat.le_refl _) (.string ⟨#[]⟩) (.int .i32 0) (.int .i32 0) (.bool false) (.slice none 0 0) (.slice none 0 0) (.bool false) (.slice none 0 0) (.slice none 0 0)
    clear m0 m1 m2 m3 m4 m5 m6 m7 m8 f0 f1 f2 f3 f4 f5 f6 f7 f8
    exact bodyPost_ret (tres_run (by rfl) B1 _ rfl) rfl (ttoldc_zero (E := E) (.inl ⟨by rw [HE.out]; decide, HE.out.symm⟩) G1)
  | true =>
    by_cases hN : (N1 && N2) = false
    · have HE := hid (HEB.out (fun h => by have h1 := (HGD.out.1 h).2.1; have h2 := (HGD.out.1 h).2.2.1; rw [h1, h2] at hN; cases hN))
      rw [hN]
      clear HTO
      go_wp2_with fail
      refine Calls.mono (HNM.out _) ?_
      rintro e w6 ⟨rfl, rfl⟩
      go_wp2_with fail
      have B1 := box_put9 HR5.out (.string ⟨#[]⟩) (.int .i32 0) (.int .i32 0) (.bool false) (.slice none 0 0) (.slice none 0 0) (.bool false) (.slice none 0 0) (.slice none 0 0)
      have G1 := below_put9 HW5.out w.heap.size (Nat.le_refl _) (.string ⟨#[]⟩) (.int .i32 0) (.int .i32 0) (.bool false) (.slice none 0 0) (.slice none 0 0) (.bool false) (.slice none 0 0) (.slice none 0 0)
      clear m0 m1 m2 m3 m4 m5 m6 m7 m8 f0 f1 f2 f3 f4 f5 f6 f7 f8
      exact bodyPost_ret (tres_run (by rfl) B1 _ rfl) rfl (ttoldc_zero (E := E) (.inl ⟨by rw [HE.out]; decide, HE.out.symm⟩) G1)
    · have hN' : (N1 && N2) = true := by simpa using hN
      rw [hN']
      have HNN : Hid (N1 = true ∧ N2 = true) := by show _ ∧ _; simpa using hN'
      clear hN hN'
      rcases HTO.out with ⟨rfl, hg⟩ | ⟨hg, hL, rfl⟩ | ⟨hg, hL, rfl, ht⟩
      · have HE := hid (HEB.out (fun h => hg (HGD.out.1 h).2.2.2))
        clear HTO hg
        go_wp2_with fail
        refine Calls.mono (HNM.out _) ?_
        rintro e w6 ⟨rfl, rfl⟩
        go_wp2_with fail
        have B1 := box_put9 HR5.out (.string ⟨#[]⟩) (.int .i32 0) (.int .i32 0) (.bool false) (.slice none 0 0) (.slice none 0 0) (.bool false) (.slice none 0 0) (.slice none 0 0)
        have G1 := below_put9 HW5.out w.heap.size (Nat.le_refl _) (.string ⟨#[]⟩) (.int .i32 0) (.int .i32 0) (.bool false) (.slice none 0 0) (.slice none 0 0) (.bool false) (.slice none 0 0) (.slice none 0 0)
        clear m0 m1 m2 m3 m4 m5 m6 m7 m8 f0 f1 f2 f3 f4 f5 f6 f7 f8
        exact bodyPost_ret (tres_run (by rfl) B1 _ rfl) rfl (ttoldc_zero (E := E) (.inl ⟨by rw [HE.out]; decide, HE.out.symm⟩) G1)
      · have HE := hid (HEG.out (HGD.out.2 ⟨rfl, HNN.out.1, HNN.out.2, hg⟩))
        have HL := hid hL
        clear HTO hg hL
        go_wp2_with fail
        refine Calls.mono (HNM.out _) ?_
        rintro e w6 ⟨rfl, rfl⟩
        have r0 : Y5.cell? ⟨w4.heap.size, 0, none⟩ = some (.int .i32 F) := HN5.out.cell 0
        have r1 : Y5.cell? ⟨w4.heap.size, 1, none⟩ = some (.int .i32 R) := HN5.out.cell 1
        go_wp2_with fail
        refine Calls.mono (HOC.out _) ?_
        rintro e w6 ⟨rfl, hb6⟩
        have HW6 := hid (bt HW5.out hb6)
        have HR6 := hid (HR5.out.later hb6 HR5.out.lt)
        clear hb6 r0 r1 HOC m0 m1 m2 m3 m4 m5 m6 m7 m8 f0 f1 f2 f3 f4 f5 f6 f7 f8
        have m0 : w6.cell? ⟨w.heap.size, 0, none⟩ = some (.string ⟨#[]⟩) := HR6.out.cell 0
        have m1 : w6.cell? ⟨w.heap.size, 1, none⟩ = some (.int .i32 0) := HR6.out.cell 1
        have m2 : w6.cell? ⟨w.heap.size, 2, none⟩ = some (.int .i32 0) := HR6.out.cell 2
        have m3 : w6.cell? ⟨w.heap.size, 3, none⟩ = some (.bool false) := HR6.out.cell 3
        have m4 : w6.cell? ⟨w.heap.size, 4, none⟩ = some (.slice none 0 0) := HR6.out.cell 4
        have m5 : w6.cell? ⟨w.heap.size, 5, none⟩ = some (.slice none 0 0) := HR6.out.cell 5
        have m6 : w6.cell? ⟨w.heap.size, 6, none⟩ = some (.bool false) := HR6.out.cell 6
        have m7 : w6.cell? ⟨w.heap.size, 7, none⟩ = some (.slice none 0 0) := HR6.out.cell 7
        have m8 : w6.cell? ⟨w.heap.size, 8, none⟩ = some (.slice none 0 0) := HR6.out.cell 8
        have f0 := HR6.out.free 0
        have f1 := HR6.out.free 1
        have f2 := HR6.out.free 2
        have f3 := HR6.out.free 3
        have f4 := HR6.out.free 4
        have f5 := HR6.out.free 5
        have f6 := HR6.out.free 6
        have f7 := HR6.out.free 7
        have f8 := HR6.out.free 8
        by_cases hO : OC = 0
        · subst hO
          go_wp2_with fail
          have B1 := box_put9 HR6.out (.string ⟨#[]⟩) (.int .i32 0) (.int .i32 0) (.bool false) (.slice none 0 0) (.slice none 0 0) (.bool false) (.slice none 0 0) (.slice none 0 0)
          have G1 := below_put9 HW6.out w.heap.size (Nat.le_refl _) (.string ⟨#[]⟩) (.int .i32 0) (.int .i32 0) (.bool false) (.slice none 0 0) (.slice none 0 0) (.bool false) (.slice none 0 0) (.slice none 0 0)
          clear m0 m1 m2 m3 m4 m5 m6 m7 m8 f0 f1 f2 f3 f4 f5 f6 f7 f8
          exact bodyPost_ret (tres_run (by rfl) B1 _ rfl) rfl (ttoldc_zero (E := E) (.inr ⟨HE.out, HL.out, rfl⟩) G1)
        · have hO' : (OC == 0) = false := by simp [hO]
          have hO2 : (OC != 0) = true := by simp [hO]
          go_wp2_with fail
          have B1 := box_put9 HR6.out (.string ⟨#[]⟩) (.int .i32 0) (.int .i32 0) (.bool false) (.slice none 0 0) (.slice none 0 0) (.bool false) (.slice none 0 0) (.slice none 0 0)
          have G1 := below_put9 HW6.out w.heap.size (Nat.le_refl _) (.string ⟨#[]⟩) (.int .i32 0) (.int .i32 0) (.bool false) (.slice none 0 0) (.slice none 0 0) (.bool false) (.slice none 0 0) (.slice none 0 0)
          clear m0 m1 m2 m3 m4 m5 m6 m7 m8 f0 f1 f2 f3 f4 f5 f6 f7 f8
          exact bodyPost_ret (tres_run (by rfl) B1 _ rfl) rfl (ttoldc_zero (E := E) (.inl ⟨by rw [HE.out]; exact hO, HE.out.symm⟩) G1)
      · have HE := hid (HEG.out (HGD.out.2 ⟨rfl, HNN.out.1, HNN.out.2, hg⟩))
        have HT := hid ht
        have HL := hid hL
        clear HTO hg hL ht
        go_wp2_with fail
        refine Calls.mono (HNM.out _) ?_
        rintro e w6 ⟨rfl, rfl⟩
        have r0 : Y5.cell? ⟨w4.heap.size, 0, none⟩ = some (.int .i32 F) := HN5.out.cell 0
        have r1 : Y5.cell? ⟨w4.heap.size, 1, none⟩ = some (.int .i32 R) := HN5.out.cell 1
        go_wp2_with fail
        refine Calls.mono (HOC.out _) ?_
        rintro e w6 ⟨rfl, hb6⟩
        have HW6 := hid (bt HW5.out hb6)
        have HR6 := hid (HR5.out.later hb6 HR5.out.lt)
        have HN6 := hid (HN5.out.later hb6 HN5.out.lt)
        have HM6 := hid (HM.out.later hb6 HM.out.lt)
        have HO6 := hid (And.intro (owns_later HOO.out.1 hb6) (And.intro (owns_later HOO.out.2.1 hb6) (And.intro (owns_later HOO.out.2.2.1 hb6) (owns_later HOO.out.2.2.2 hb6))))
        have HC6 : Hid (∃ W1, Cut Y4 (.slice a xs.length ca) (.slice b ys.length cb) W1 ∧ Cut W1 (.slice c us.length cc) (.slice d vs.length cd) w6) := by
          obtain ⟨W1, h1, h2⟩ := HCC.out
          exact ⟨W1, h1, h2.up (Nat.le_refl _) hb6.size⟩
        clear hb6 r0 r1 HOC m0 m1 m2 m3 m4 m5 m6 m7 m8 f0 f1 f2 f3 f4 f5 f6 f7 f8
        by_cases hO : OC = 0
        · subst hO
          have HK : Hid (∀ V, Box V w4.heap.size 24 #[.int .i32 F, .int .i32 R] → Box V w5.heap.size 29 #[.bool n, .slice a xs.length ca, .slice b ys.length cb, .bool m, .slice c us.length cc, .slice d vs.length cd] → V.cell? ⟨w4.heap.size, 0, none⟩ = some (.int .i32 F) ∧ V.cell? ⟨w4.heap.size, 1, none⟩ = some (.int .i32 R) ∧ V.cell? ⟨w5.heap.size, 0, none⟩ = some (.bool n) ∧ V.cell? ⟨w5.heap.size, 1, none⟩ = some (.slice a xs.length ca) ∧ V.cell? ⟨w5.heap.size, 2, none⟩ = some (.slice b ys.length cb) ∧ V.cell? ⟨w5.heap.size, 3, none⟩ = some (.bool m) ∧ V.cell? ⟨w5.heap.size, 4, none⟩ = some (.slice c us.length cc) ∧ V.cell? ⟨w5.heap.size, 5, none⟩ = some (.slice d vs.length cd)) := fun V h1 h2 => ⟨h1.cell 0, h1.cell 1, h2.cell 0, h2.cell 1, h2.cell 2, h2.cell 3, h2.cell 4, h2.cell 5⟩
          have hs0 := HK.out w6.drew HN6.out HM6.out
          have hd0 := hid (Below.refl w6.heap.size w6).drew
          have HC7 : Hid (∀ V, Below w6.heap.size w6 V → Calls Tryz.prog 23 #[.string ⟨A1⟩] V fun e w' => e = .returned (.string ⟨A1⟩) ∧ Below w6.heap.size w6 w') := fun V hv => Calls.mono (HCL.out V) (by rintro e w' ⟨h1, h2⟩; exact ⟨h1, bt hv h2⟩)
          go_wp2_with fail
          go_region_held3 (fun V : World => V.cell? ⟨w4.heap.size, 0, none⟩ = some (.int .i32 F) ∧ V.cell? ⟨w4.heap.size, 1, none⟩ = some (.int .i32 R) ∧ V.cell? ⟨w5.heap.size, 0, none⟩ = some (.bool n) ∧ V.cell? ⟨w5.heap.size, 1, none⟩ = some (.slice a xs.length ca) ∧ V.cell? ⟨w5.heap.size, 2, none⟩ = some (.slice b ys.length cb) ∧ V.cell? ⟨w5.heap.size, 3, none⟩ = some (.bool m) ∧ V.cell? ⟨w5.heap.size, 4, none⟩ = some (.slice c us.length cc) ∧ V.cell? ⟨w5.heap.size, 5, none⟩ = some (.slice d vs.length cd)) (first | exact hs9 | exact hs1 | exact hs0)
            ((go_at_call 23; (with_reducible refine Calls.mono (HC7.out _ hd0.out) ?_); rintro e w7 ⟨rfl, hb7⟩; have hs1 := HK.out _ (HN6.out.later hb7 HN6.out.lt) (HM6.out.later hb7 HM6.out.lt); have HQ := hid (HR6.out.later hb7 HR6.out.lt); obtain ⟨A0, A1, A2, A3, A4, A5, A6, A7, A8, hA0, hA1, hA2, hA3, hA4, hA5, hA6, hA7, hA8, ⟨q0_, q1_, q2_, q3_, q4_, q5_, q6_, q7_, q8_⟩, p0_, p1_, p2_, p3_, p4_, p5_, p6_, p7_, p8_⟩ := tchain9 HQ.out (.string ⟨A1⟩) (.int .i32 F) (.int .i32 R) (.bool n) (.slice a xs.length ca) (.slice b ys.length cb) (.bool m) (.slice c us.length cc) (.slice d vs.length cd); have hs9 := HK.out A8 (tchain_far (HN6.out.later hb7 HN6.out.lt) (Nat.ne_of_gt hlt4) hA0 hA1 hA2 hA3 hA4 hA5 hA6 hA7 hA8) (tchain_far (HM6.out.later hb7 HM6.out.lt) (Nat.ne_of_gt hlt5) hA0 hA1 hA2 hA3 hA4 hA5 hA6 hA7 hA8)))
          all_goals
            have HW7 := hid (bt HW6.out hb7)
            have HO7 := hid (And.intro (owns_later HO6.out.1 hb7) (And.intro (owns_later HO6.out.2.1 hb7) (And.intro (owns_later HO6.out.2.2.1 hb7) (owns_later HO6.out.2.2.2 hb7))))
            have HC7' : Hid (∃ W1, Cut Y4 (.slice a xs.length ca) (.slice b ys.length cb) W1 ∧ Cut W1 (.slice c us.length cc) (.slice d vs.length cd) w7) := by
              obtain ⟨W1, h1, h2⟩ := HC6.out
              exact ⟨W1, h1, h2.up (Nat.le_refl _) hb7.size⟩
            clear hs0 hs1 hs9 hb7 HC7 HCL HK q0_ p0_ q1_ p1_ q2_ p2_ q3_ p3_ q4_ p4_ q5_ p5_ q6_ p6_ q7_ p7_ q8_ p8_
            subst hA0 hA1 hA2 hA3 hA4 hA5 hA6 hA7 hA8
            go_wp2_with fail
            have B1 := box_put9 HQ.out (.string ⟨A1⟩) (.int .i32 F) (.int .i32 R) (.bool n) (.slice a xs.length ca) (.slice b ys.length cb) (.bool m) (.slice c us.length cc) (.slice d vs.length cd)
            have G1 := below_put9 HW7.out w.heap.size (Nat.le_refl _) (.string ⟨A1⟩) (.int .i32 F) (.int .i32 R) (.bool n) (.slice a xs.length ca) (.slice b ys.length cb) (.bool m) (.slice c us.length cc) (.slice d vs.length cd)
            have hszY : w.heap.size ≤ Y4.heap.size := by omega
            have hput : ∀ {base k : Nat} {v : Value} {l : List Value}, w7.ownsRow base 85 1 v k l → (∀ g, v.ownBlock = some g → Y4.heap.size ≤ g) → (((((((((w7.setCell ⟨w.heap.size, 0, none⟩ (.string ⟨A1⟩)).setCell ⟨w.heap.size, 1, none⟩ (.int .i32 F)).setCell ⟨w.heap.size, 2, none⟩ (.int .i32 R)).setCell ⟨w.heap.size, 3, none⟩ (.bool n)).setCell ⟨w.heap.size, 4, none⟩ (.slice a xs.length ca)).setCell ⟨w.heap.size, 5, none⟩ (.slice b ys.length cb)).setCell ⟨w.heap.size, 6, none⟩ (.bool m)).setCell ⟨w.heap.size, 7, none⟩ (.slice c us.length cc)).setCell ⟨w.heap.size, 8, none⟩ (.slice d vs.length cd)).ownsRow base 85 1 v k l := fun h hb => own_put9 h _ (fun g hg => by have := hb g hg; omega) _ _ _ _ _ _ _ _ _
            refine bodyPost_ret (tres_run (by rfl) B1 _ rfl) rfl ?_
            obtain ⟨W1, hc1, hc2⟩ := HC7'.out
            refine ⟨⟨A1⟩, F, R, n, a, ca, xs, b, cb, ys, m, c, cc, us, d, cd, vs, 0, rfl, ⟨owns_base (hput HO7.out.1 (fun g hg => (HO7.out.1.lt g hg).1)) hszY, owns_base (hput HO7.out.2.1 (fun g hg => (HO7.out.2.1.lt g hg).1)) hszY, owns_base (hput HO7.out.2.2.1 (fun g hg => (HO7.out.2.2.1.lt g hg).1)) hszY, owns_base (hput HO7.out.2.2.2 (fun g hg => (HO7.out.2.2.2.lt g hg).1)) hszY⟩, ⟨by rw [HE.out]; exact HT.out, fun h => absurd rfl h, fun _ => ⟨HWD.out, rfl, rfl⟩⟩, G1, W1, hc1.up hszY (Nat.le_refl _), hc2.up (Nat.le_refl _) (by simp [World.setCell])⟩
        · have hO' : (OC == 0) = false := by simp [hO]
          have hO2 : (OC != 0) = true := by simp [hO]
          have m0 : w6.cell? ⟨w.heap.size, 0, none⟩ = some (.string ⟨#[]⟩) := HR6.out.cell 0
          have m1 : w6.cell? ⟨w.heap.size, 1, none⟩ = some (.int .i32 0) := HR6.out.cell 1
          have m2 : w6.cell? ⟨w.heap.size, 2, none⟩ = some (.int .i32 0) := HR6.out.cell 2
          have m3 : w6.cell? ⟨w.heap.size, 3, none⟩ = some (.bool false) := HR6.out.cell 3
          have m4 : w6.cell? ⟨w.heap.size, 4, none⟩ = some (.slice none 0 0) := HR6.out.cell 4
          have m5 : w6.cell? ⟨w.heap.size, 5, none⟩ = some (.slice none 0 0) := HR6.out.cell 5
          have m6 : w6.cell? ⟨w.heap.size, 6, none⟩ = some (.bool false) := HR6.out.cell 6
          have m7 : w6.cell? ⟨w.heap.size, 7, none⟩ = some (.slice none 0 0) := HR6.out.cell 7
          have m8 : w6.cell? ⟨w.heap.size, 8, none⟩ = some (.slice none 0 0) := HR6.out.cell 8
          have f0 := HR6.out.free 0
          have f1 := HR6.out.free 1
          have f2 := HR6.out.free 2
          have f3 := HR6.out.free 3
          have f4 := HR6.out.free 4
          have f5 := HR6.out.free 5
          have f6 := HR6.out.free 6
          have f7 := HR6.out.free 7
          have f8 := HR6.out.free 8
          go_wp2_with fail
          have B1 := box_put9 HR6.out (.string ⟨#[]⟩) (.int .i32 0) (.int .i32 0) (.bool false) (.slice none 0 0) (.slice none 0 0) (.bool false) (.slice none 0 0) (.slice none 0 0)
          have G1 := below_put9 HW6.out w.heap.size (Nat.le_refl _) (.string ⟨#[]⟩) (.int .i32 0) (.int .i32 0) (.bool false) (.slice none 0 0) (.slice none 0 0) (.bool false) (.slice none 0 0) (.slice none 0 0)
          clear m0 m1 m2 m3 m4 m5 m6 m7 m8 f0 f1 f2 f3 f4 f5 f6 f7 f8
          exact bodyPost_ret (tres_run (by rfl) B1 _ rfl) rfl (ttoldc_zero (E := E) (.inl ⟨by rw [HE.out]; exact hO, HE.out.symm⟩) G1)
end Go.Proofs.YtmgjkdijnjeljaaGreatDoor

/- Layer 13: the laws' example and awake: what the document's examples say. -/
namespace Go.Proofs.YtmgjkdijnjeljaaGreatDoor
open Go.RowKit Go.Lib
set_option linter.unusedVariables false
set_option linter.unusedSimpArgs false

/-- A fraction that is known, beside a code. -/
def ZKt (w : World) (n : Bool) (x y : Int) (e : Ending) (w' : World) : Prop := ∃ a ca b cb, e = .returned (.tuple #[.agg #[.bool n, .slice a 1 ca, .slice b 1 cb], .int .i64 0]) ∧ Hid (w'.ownsRow w.heap.size 85 1 (.slice a 1 ca) 1 [.int .u32 x] ∧ w'.ownsRow w.heap.size 85 1 (.slice b 1 cb) 1 [.int .u32 y]) ∧ Hid (Below w.heap.size w w')
theorem zsmall_kn (x y : Int) (w : World) (x0 : -9223372036854775808 ≤ x) (x1 : x ≤ 9223372036854775807) (y0 : -9223372036854775808 ≤ y) (y1 : y ≤ 9223372036854775807) (hy : y ≠ 0) (n : Bool) (p q : Int) (wp : Wd [p]) (wq : Wd [q]) (hk : rchk n [p] [q] = 0) (hq : rq n [p] [q] = Rat.divInt x y) : Calls Tryz.prog 12 #[.int .i64 x, .int .i64 y] w (ZKt w n p q) := by
  have h := rsmall_any x y w x0 x1 y0 y1
  rw [if_neg hy] at h
  refine Calls.mono h ?_
  rintro e w' ⟨n', v, xs', u, ys', c1, rfl, o1, o2, t1, hb, _⟩
  obtain ⟨rfl, rfl, rfl, rfl⟩ := t1.lit rfl wp wq hk hq
  obtain ⟨a, ca, rfl⟩ := own_slice' o1
  obtain ⟨b, cb, rfl⟩ := own_slice' o2
  exact ⟨a, ca, b, cb, rfl, ⟨o1, o2⟩, hb⟩
theorem zw (x : Int) (h0 : 0 ≤ x) (h1 : x ≤ 4294967295) : Wd [x] := Wd.one ⟨h0, h1⟩
theorem zk32 : rchk false [3] [2] = 0 := rchk_good (by simp) (by simp) rfl rfl (by simp) (.inl rfl) (by decide)
theorem zk11 : rchk true [1] [1] = 0 := rchk_good (by simp) (by simp) rfl rfl (by simp) (.inr (by simp)) (by decide)
theorem zg : gchk false [3] [2] true [1] [1] = 0 := by unfold gchk; rw [zk32, fstE_zero, zk11]
theorem zo : ochk 8 1 = 0 := by
  rcases ochk_or 8 1 with h | h
  · exact h.1
  · exact absurd (by unfold rOK; decide) h.2
theorem zname : tname [77, 50] = true := by decide +kernel
theorem ztchk : tchk [77, 50] 8 1 0 = 0 := by rw [tchk_rest _ _ _ zname, zo, fstE_zero]
/-- What tells the example, alone or beside a code. -/
def TEx (w : World) (e : Ending) (w' : World) : Prop := ∃ a ca b cb c cc d cd, e = .returned (.agg #[.string ⟨#[77, 50]⟩, .int .i32 8, .int .i32 1, .bool false, .slice a 1 ca, .slice b 1 cb, .bool true, .slice c 1 cc, .slice d 1 cd]) ∧ Hid (w'.ownsRow w.heap.size 85 1 (.slice a 1 ca) 1 [.int .u32 3] ∧ w'.ownsRow w.heap.size 85 1 (.slice b 1 cb) 1 [.int .u32 2] ∧ w'.ownsRow w.heap.size 85 1 (.slice c 1 cc) 1 [.int .u32 1] ∧ w'.ownsRow w.heap.size 85 1 (.slice d 1 cd) 1 [.int .u32 1]) ∧ Hid (Below w.heap.size w w')
def TEt (w : World) (e : Ending) (w' : World) : Prop := ∃ a ca b cb c cc d cd, e = .returned (.tuple #[.agg #[.string ⟨#[77, 50]⟩, .int .i32 8, .int .i32 1, .bool false, .slice a 1 ca, .slice b 1 cb, .bool true, .slice c 1 cc, .slice d 1 cd], .int .i64 0]) ∧ Hid (w'.ownsRow w.heap.size 85 1 (.slice a 1 ca) 1 [.int .u32 3] ∧ w'.ownsRow w.heap.size 85 1 (.slice b 1 cb) 1 [.int .u32 2] ∧ w'.ownsRow w.heap.size 85 1 (.slice c 1 cc) 1 [.int .u32 1] ∧ w'.ownsRow w.heap.size 85 1 (.slice d 1 cd) 1 [.int .u32 1]) ∧ Hid (Below w.heap.size w w')
set_option maxHeartbeats 1600000 in
set_option maxRecDepth 100000 in
theorem texample_any (w : World) : Calls Tryz.prog 6 #[] w (TEx w) := by
  have HX := hid (Box.made w 31 #[.string ⟨#[]⟩, .int .i32 0, .int .i32 0, .bool false, .slice none 0 0, .slice none 0 0, .bool false, .slice none 0 0, .slice none 0 0])
  have HB := hid (alloc_later w (.cells #[.string ⟨#[]⟩, .int .i32 0, .int .i32 0, .bool false, .slice none 0 0, .slice none 0 0, .bool false, .slice none 0 0, .slice none 0 0] 31))
  obtain ⟨X, hX⟩ : ∃ X, w.alloc (.cells #[.string ⟨#[]⟩, .int .i32 0, .int .i32 0, .bool false, .slice none 0 0, .slice none 0 0, .bool false, .slice none 0 0, .slice none 0 0] 31) = X := ⟨_, rfl⟩
  rw [hX] at HX HB
  have H1 : Hid (∀ V, Calls Tryz.prog 12 #[.int .i64 3, .int .i64 2] V (ZKt V false 3 2)) := fun V => zsmall_kn 3 2 V (by decide) (by decide) (by decide) (by decide) (by decide) false 3 2 (zw 3 (by decide) (by decide)) (zw 2 (by decide) (by decide)) zk32 (by decide +kernel)
  have H2 : Hid (∀ V, Calls Tryz.prog 12 #[.int .i64 (-1), .int .i64 1] V (ZKt V true 1 1)) := fun V => zsmall_kn (-1) 1 V (by decide) (by decide) (by decide) (by decide) (by decide) true 1 1 (zw 1 (by decide) (by decide)) (zw 1 (by decide) (by decide)) zk11 (by decide +kernel)
  go_enter Tryz.func6, Tryz.ntmps6
  go_wp2_with fail
  refine Calls.mono (H1.out _) ?_
  rintro e w1 ⟨a, ca, b, cb, rfl, hs1, hb1⟩
  have HN := hid (Box.made w1 27 #[.bool false, .slice a 1 ca, .slice b 1 cb])
  have HNB := hid (alloc_later w1 (.cells #[.bool false, .slice a 1 ca, .slice b 1 cb] 27))
  obtain ⟨Y, hY⟩ : ∃ Y, w1.alloc (.cells #[.bool false, .slice a 1 ca, .slice b 1 cb] 27) = Y := ⟨_, rfl⟩
  rw [hY] at HN HNB
  go_wp2_with fail
  refine Calls.mono (H2.out _) ?_
  rintro e w2 ⟨c, cc, d, cd, rfl, hs2, hb2⟩
  have HM := hid (Box.made w2 27 #[.bool true, .slice c 1 cc, .slice d 1 cd])
  have HMB := hid (alloc_later w2 (.cells #[.bool true, .slice c 1 cc, .slice d 1 cd] 27))
  obtain ⟨Q, hQ⟩ : ∃ Q, w2.alloc (.cells #[.bool true, .slice c 1 cc, .slice d 1 cd] 27) = Q := ⟨_, rfl⟩
  rw [hQ] at HM HMB
  have HYQ := hid (bt hb2.out HMB.out)
  have HXQ := hid (bt HB.out (bt hb1.out (bt HNB.out HYQ.out)))
  have HR := hid (HX.out.later (bt hb1.out (bt HNB.out HYQ.out)) HX.out.lt)
  have HN2 := hid (HN.out.later HYQ.out HN.out.lt)
  have HSS : Hid (Q.ownsRow X.heap.size 85 1 (.slice a 1 ca) 1 [.int .u32 3] ∧ Q.ownsRow X.heap.size 85 1 (.slice b 1 cb) 1 [.int .u32 2] ∧ Q.ownsRow Y.heap.size 85 1 (.slice c 1 cc) 1 [.int .u32 1] ∧ Q.ownsRow Y.heap.size 85 1 (.slice d 1 cd) 1 [.int .u32 1]) := ⟨owns_later hs1.out.1 (bt HNB.out HYQ.out), owns_later hs1.out.2 (bt HNB.out HYQ.out), owns_later hs2.out.1 HMB.out, owns_later hs2.out.2 HMB.out⟩
  have hX1 : X.heap.size ≤ Y.heap.size := (bt hb1.out HNB.out).size
  have hwX : w.heap.size < X.heap.size := HX.out.lt
  have hlt : w.heap.size < Q.heap.size := HR.out.lt
  clear hs1 hb1 hs2 hb2 H1 H2
  have ka0 : Q.cell? ⟨w1.heap.size, 0, none⟩ = some (.bool false) := HN2.out.cell 0
  have ka1 : Q.cell? ⟨w1.heap.size, 1, none⟩ = some (.slice a 1 ca) := HN2.out.cell 1
  have ka2 : Q.cell? ⟨w1.heap.size, 2, none⟩ = some (.slice b 1 cb) := HN2.out.cell 2
  have kb0 : Q.cell? ⟨w2.heap.size, 0, none⟩ = some (.bool true) := HM.out.cell 0
  have kb1 : Q.cell? ⟨w2.heap.size, 1, none⟩ = some (.slice c 1 cc) := HM.out.cell 1
  have kb2 : Q.cell? ⟨w2.heap.size, 2, none⟩ = some (.slice d 1 cd) := HM.out.cell 2
  have m0 : Q.cell? ⟨w.heap.size, 0, none⟩ = some (.string ⟨#[]⟩) := HR.out.cell 0
  have m1 : Q.cell? ⟨w.heap.size, 1, none⟩ = some (.int .i32 0) := HR.out.cell 1
  have m2 : Q.cell? ⟨w.heap.size, 2, none⟩ = some (.int .i32 0) := HR.out.cell 2
  have m3 : Q.cell? ⟨w.heap.size, 3, none⟩ = some (.bool false) := HR.out.cell 3
  have m4 : Q.cell? ⟨w.heap.size, 4, none⟩ = some (.slice none 0 0) := HR.out.cell 4
  have m5 : Q.cell? ⟨w.heap.size, 5, none⟩ = some (.slice none 0 0) := HR.out.cell 5
  have m6 : Q.cell? ⟨w.heap.size, 6, none⟩ = some (.bool false) := HR.out.cell 6
  have m7 : Q.cell? ⟨w.heap.size, 7, none⟩ = some (.slice none 0 0) := HR.out.cell 7
  have m8 : Q.cell? ⟨w.heap.size, 8, none⟩ = some (.slice none 0 0) := HR.out.cell 8
  have f0 := HR.out.free 0
  have f1 := HR.out.free 1
  have f2 := HR.out.free 2
  have f3 := HR.out.free 3
  have f4 := HR.out.free 4
  have f5 := HR.out.free 5
  have f6 := HR.out.free 6
  have f7 := HR.out.free 7
  have f8 := HR.out.free 8
  go_wp2_with fail
  have B1 := box_put9 HR.out (.string ⟨#[77, 50]⟩) (.int .i32 8) (.int .i32 1) (.bool false) (.slice a 1 ca) (.slice b 1 cb) (.bool true) (.slice c 1 cc) (.slice d 1 cd)
  have G1 := below_put9 HXQ.out w.heap.size (Nat.le_refl _) (.string ⟨#[77, 50]⟩) (.int .i32 8) (.int .i32 1) (.bool false) (.slice a 1 ca) (.slice b 1 cb) (.bool true) (.slice c 1 cc) (.slice d 1 cd)
  clear m0 f0 m1 f1 m2 f2 m3 f3 m4 f4 m5 f5 m6 f6 m7 f7 m8 f8
  have hput : ∀ {base k : Nat} {v : Value} {l : List Value}, Q.ownsRow base 85 1 v k l → w.heap.size < base → (((((((((Q.setCell ⟨w.heap.size, 0, none⟩ (.string ⟨#[77, 50]⟩)).setCell ⟨w.heap.size, 1, none⟩ (.int .i32 8)).setCell ⟨w.heap.size, 2, none⟩ (.int .i32 1)).setCell ⟨w.heap.size, 3, none⟩ (.bool false)).setCell ⟨w.heap.size, 4, none⟩ (.slice a 1 ca)).setCell ⟨w.heap.size, 5, none⟩ (.slice b 1 cb)).setCell ⟨w.heap.size, 6, none⟩ (.bool true)).setCell ⟨w.heap.size, 7, none⟩ (.slice c 1 cc)).setCell ⟨w.heap.size, 8, none⟩ (.slice d 1 cd)).ownsRow w.heap.size 85 1 v k l := fun h hb => owns_base (own_put9 h _ (fun g hg => by have := (h.lt g hg).1; omega) _ _ _ _ _ _ _ _ _) (by omega)
  refine bodyPost_ret (results_cell_row (by rfl) _ _ w.heap.size 31 _ (0, 0) _ (by rfl) B1 Tryz.underlying31 rfl (by kernel_rfl)) rfl ?_
  exact ⟨a, ca, b, cb, c, cc, d, cd, rfl, ⟨hput HSS.out.1 (by omega), hput HSS.out.2.1 (by omega), hput HSS.out.2.2.1 (by omega), hput HSS.out.2.2.2 (by omega)⟩, G1⟩
end Go.Proofs.YtmgjkdijnjeljaaGreatDoor

/- Layer 13: the laws' awake: what the document's examples say. -/
namespace Go.Proofs.YtmgjkdijnjeljaaGreatDoor
open Go.RowKit Go.Lib
set_option linter.unusedVariables false
set_option linter.unusedSimpArgs false

theorem zform {n : Bool} {xs ys : List Int} (h : rchk n xs ys = 0) : rform n xs ys := by
  unfold rchk at h
  by_cases hl : 2048 < max xs.length ys.length
  · rw [if_pos hl] at h; exact absurd h (by decide)
  · rw [if_neg hl] at h
    by_cases c : rform n xs ys
    · exact c
    · rw [if_neg c] at h; exact absurd h (by decide)
theorem znotlong {n : Bool} {xs ys : List Int} (wx : Wd xs) (wy : Wd ys) (h : rchk n xs ys = 0) : ¬ rlong (rq n xs ys) := fun hl => absurd ((RTells.self wx wy h).long rfl hl).2.2.2 (by decide)
theorem zbytes {S : ByteArray} {l : List UInt8} (e : S.data.toList = l) : S = ⟨l.toArray⟩ := by
  cases S with | mk d => simp only at e ⊢; rw [← Array.toArray_toList (xs := d), e]
theorem z32 : in32 8 1 := ⟨by decide, by decide⟩
theorem aw_tprint (a : Option Addr) (ca : Nat) (b : Option Addr) (cb : Nat) (c : Option Addr) (cc : Nat) (d : Option Addr) (cd : Nat) (w : World) (sx : Sl w (.slice a 1 ca) [3]) (sy : Sl w (.slice b 1 cb) [2]) (su : Sl w (.slice c 1 cc) [1]) (sv : Sl w (.slice d 1 cd) [1]) (htab : Tab w) : Calls Tryz.prog 14 #[.agg #[.string ⟨#[77, 50]⟩, .int .i32 8, .int .i32 1, .bool false, .slice a 1 ca, .slice b 1 cb, .bool true, .slice c 1 cc, .slice d 1 cd]] w fun x w' => x = .returned (.tuple #[.string ⟨#[77, 50, 32, 56, 32, 49, 32, 51, 47, 50, 32, 45, 49]⟩, .int .i64 0]) ∧ Below w.heap.size w w' := by
  refine Calls.mono (tPrint_any ⟨#[77, 50]⟩ 8 1 false a ca [3] b cb [2] true c cc [1] d cd [1] w (by decide) z32 sx sy su sv htab) ?_
  rintro x w' ⟨S, rfl, hS, _, hb⟩
  have ht : gtext false [3] [2] true [1] [1] = [51, 47, 50, 32, 45, 49] := by decide +kernel
  have hg : gpErr false [3] [2] true [1] [1] = 0 := by unfold gpErr; rw [zg, fstE_zero, ht]; rfl
  have hx : ttext [77, 50] 8 1 [51, 47, 50, 32, 45, 49] = [77, 50, 32, 56, 32, 49, 32, 51, 47, 50, 32, 45, 49] := by decide +kernel
  have e0 : tpErr (tchk (⟨#[77, 50]⟩ : ByteArray).data.toList 8 1 (gchk false [3] [2] true [1] [1])) (⟨#[77, 50]⟩ : ByteArray).data.toList 8 1 (gpErr false [3] [2] true [1] [1]) (gtext false [3] [2] true [1] [1]) = 0 := by
    refine tpErr_ok (by rw [zg]; exact ztchk) hg ?_
    rw [ht]
    show ¬ 65536 < (ttext [77, 50] 8 1 [51, 47, 50, 32, 45, 49]).length
    rw [hx]; decide
  have e1 := hS e0
  rw [ht] at e1
  have e2 : S.data.toList = [77, 50, 32, 56, 32, 49, 32, 51, 47, 50, 32, 45, 49] := e1.trans hx
  rw [e0, zbytes e2]
  exact ⟨rfl, hb⟩
theorem zl0 : tword [77, 50, 32, 56, 32, 49, 32, 51, 47, 50, 32, 45, 49] = [77, 50] := by decide +kernel
theorem zl1 : tword (trest [77, 50, 32, 56, 32, 49, 32, 51, 47, 50, 32, 45, 49]) = [56] := by decide +kernel
theorem zl2 : tword (trest (trest [77, 50, 32, 56, 32, 49, 32, 51, 47, 50, 32, 45, 49])) = [49] := by decide +kernel
theorem zl3 : trest (trest (trest [77, 50, 32, 56, 32, 49, 32, 51, 47, 50, 32, 45, 49])) = [51, 47, 50, 32, 45, 49] := by decide +kernel
theorem zn1 : tnumOk [56] = true ∧ tnumV [56] = 8 := by decide +kernel
theorem zn2 : tnumOk [49] = true ∧ tnumV [49] = 1 := by decide +kernel
theorem zp1 : gp1 [51, 47, 50, 32, 45, 49] = rtext false [3] [2] := by decide +kernel
theorem zp2 : gp2 [51, 47, 50, 32, 45, 49] = rtext true [1] [1] := by decide +kernel
theorem zq1 : rgood (gp1 [51, 47, 50, 32, 45, 49]) ∧ rpq (gp1 [51, 47, 50, 32, 45, 49]) = rq false [3] [2] := by
  rw [zp1]
  exact ⟨rgood_text (zw 3 (by decide) (by decide)) (zw 2 (by decide) (by decide)) (zform zk32), rpq_text false (zw 3 (by decide) (by decide)) (zw 2 (by decide) (by decide))⟩
theorem zq2 : rgood (gp2 [51, 47, 50, 32, 45, 49]) ∧ rpq (gp2 [51, 47, 50, 32, 45, 49]) = rq true [1] [1] := by
  rw [zp2]
  exact ⟨rgood_text (zw 1 (by decide) (by decide)) (zw 1 (by decide) (by decide)) (zform zk11), rpq_text true (zw 1 (by decide) (by decide)) (zw 1 (by decide) (by decide))⟩
theorem aw_tparse (w : World) (htab : Tab w) (herr : ErrT w) : Calls Tryz.prog 9 #[.string ⟨#[77, 50, 32, 56, 32, 49, 32, 51, 47, 50, 32, 45, 49]⟩] w (TEt w) := by
  refine Calls.mono (tParse_any ⟨#[77, 50, 32, 56, 32, 49, 32, 51, 47, 50, 32, 45, 49]⟩ w (by decide) htab herr) ?_
  have e0 : (⟨#[77, 50, 32, 56, 32, 49, 32, 51, 47, 50, 32, 45, 49]⟩ : ByteArray).data.toList = [77, 50, 32, 56, 32, 49, 32, 51, 47, 50, 32, 45, 49] := rfl
  have hgd : tgood [77, 50, 32, 56, 32, 49, 32, 51, 47, 50, 32, 45, 49] := by
    unfold tgood
    rw [zl0, zl1, zl2, zl3]
    exact ⟨zname, zn1.1, zn2.1, zq1.1, zq2.1⟩
  have hE : tpE ⟨#[77, 50, 32, 56, 32, 49, 32, 51, 47, 50, 32, 45, 49]⟩ = 0 := by
    rw [tpE_good (by decide) (by rw [e0]; exact hgd), e0, zl1, zl2, zn1.2, zn2.2]
    exact zo
  rw [e0, hE, zl0, zl1, zl2, zl3, zn1.2, zn2.2, zq1.2, zq2.2]
  have hL : ¬ gplong [51, 47, 50, 32, 45, 49] := by
    unfold gplong
    rw [zq1.2, zq2.2]
    rintro (h | h)
    · exact znotlong (zw 3 (by decide) (by decide)) (zw 2 (by decide) (by decide)) zk32 h
    · exact znotlong (zw 1 (by decide) (by decide)) (zw 1 (by decide) (by decide)) zk11 h
  rintro e w' ⟨S, F, R, n, a, ca, xs, b, cb, ys, m, c, cc, us, d, cd, vs, code, rfl, ⟨o1, o2, o3, o4⟩, t, hb, _⟩
  obtain ⟨rfl, ⟨k1, g1⟩, k2, g2⟩ := t.num.good rfl hL
  obtain ⟨e1, rfl, rfl⟩ := t.good rfl
  obtain ⟨rfl, rfl, rfl⟩ := rq_inj t.num.wd.1 t.num.wd.2.1 (zw 3 (by decide) (by decide)) (zw 2 (by decide) (by decide)) k1 zk32 g1
  obtain ⟨rfl, rfl, rfl⟩ := rq_inj t.num.wd.2.2.1 t.num.wd.2.2.2 (zw 1 (by decide) (by decide)) (zw 1 (by decide) (by decide)) k2 zk11 g2
  rw [zbytes e1]
  exact ⟨a, ca, b, cb, c, cc, d, cd, rfl, ⟨o1, o2, o3, o4⟩, hb⟩
set_option maxHeartbeats 3200000 in
set_option maxRecDepth 100000 in
theorem tawake_any (w : World) (htab : Tab w) (herr : ErrT w) : Calls Tryz.prog 5 #[] w fun e w' => e = .returned (.bool true) ∧ Below w.heap.size w w' := by
  have H1 := hid (texample_any w)
  have HPR : Hid (∀ V (a : Option Addr) (ca : Nat) (b : Option Addr) (cb : Nat) (c : Option Addr) (cc : Nat) (d : Option Addr) (cd : Nat), Below w.heap.size w V → (Sl V (.slice a 1 ca) [3] ∧ Sl V (.slice b 1 cb) [2] ∧ Sl V (.slice c 1 cc) [1] ∧ Sl V (.slice d 1 cd) [1]) → Calls Tryz.prog 14 #[.agg #[.string ⟨#[77, 50]⟩, .int .i32 8, .int .i32 1, .bool false, .slice a 1 ca, .slice b 1 cb, .bool true, .slice c 1 cc, .slice d 1 cd]] V fun x w' => x = .returned (.tuple #[.string ⟨#[77, 50, 32, 56, 32, 49, 32, 51, 47, 50, 32, 45, 49]⟩, .int .i64 0]) ∧ Below V.heap.size V w') := fun V a ca b cb c cc d cd hv h => aw_tprint a ca b cb c cc d cd V h.1 h.2.1 h.2.2.1 h.2.2.2 (htab.later hv)
  have HPA : Hid (∀ V, Below w.heap.size w V → Calls Tryz.prog 9 #[.string ⟨#[77, 50, 32, 56, 32, 49, 32, 51, 47, 50, 32, 45, 49]⟩] V (TEt V)) := fun V hv => aw_tparse V (htab.later hv) (herr.later hv)
  clear htab herr
  go_enter Tryz.func5, Tryz.ntmps5
  go_wp2_with fail
  refine Calls.mono H1.out ?_
  rintro e w1 ⟨a, ca, b, cb, c, cc, d, cd, rfl, hs1, hb1⟩
  have HS1 : Hid (Sl w1 (.slice a 1 ca) [3] ∧ Sl w1 (.slice b 1 cb) [2] ∧ Sl w1 (.slice c 1 cc) [1] ∧ Sl w1 (.slice d 1 cd) [1]) := ⟨Sl.own hs1.out.1 (zw 3 (by decide) (by decide)), Sl.own hs1.out.2.1 (zw 2 (by decide) (by decide)), Sl.own hs1.out.2.2.1 (zw 1 (by decide) (by decide)), Sl.own hs1.out.2.2.2 (zw 1 (by decide) (by decide))⟩
  clear hs1 H1
  go_wp2_with fail
  refine Calls.mono (HPR.out w1 a ca b cb c cc d cd hb1.out HS1.out) ?_
  rintro e w2 ⟨rfl, hb2⟩
  have HB2 := hid (bt hb1.out hb2)
  clear hb1 hb2 HS1 HPR
  go_wp2_with fail
  refine Calls.mono (HPA.out w2 HB2.out) ?_
  rintro e w3 ⟨a0, ca0, b0, cb0, c0, cc0, d0, cd0, rfl, hs3, hb3⟩
  have HN := hid (Box.made w3 31 #[.string ⟨#[77, 50]⟩, .int .i32 8, .int .i32 1, .bool false, .slice a0 1 ca0, .slice b0 1 cb0, .bool true, .slice c0 1 cc0, .slice d0 1 cd0])
  have HNB := hid (alloc_later w3 (.cells #[.string ⟨#[77, 50]⟩, .int .i32 8, .int .i32 1, .bool false, .slice a0 1 ca0, .slice b0 1 cb0, .bool true, .slice c0 1 cc0, .slice d0 1 cd0] 31))
  obtain ⟨Y, hY⟩ : ∃ Y, w3.alloc (.cells #[.string ⟨#[77, 50]⟩, .int .i32 8, .int .i32 1, .bool false, .slice a0 1 ca0, .slice b0 1 cb0, .bool true, .slice c0 1 cc0, .slice d0 1 cd0] 31) = Y := ⟨_, rfl⟩
  rw [hY] at HN HNB
  have HBY := hid (bt HB2.out (bt hb3.out HNB.out))
  have HS3 : Hid (Sl Y (.slice a0 1 ca0) [3] ∧ Sl Y (.slice b0 1 cb0) [2] ∧ Sl Y (.slice c0 1 cc0) [1] ∧ Sl Y (.slice d0 1 cd0) [1]) := ⟨(Sl.own hs3.out.1 (zw 3 (by decide) (by decide))).later HNB.out, (Sl.own hs3.out.2.1 (zw 2 (by decide) (by decide))).later HNB.out, (Sl.own hs3.out.2.2.1 (zw 1 (by decide) (by decide))).later HNB.out, (Sl.own hs3.out.2.2.2 (zw 1 (by decide) (by decide))).later HNB.out⟩
  clear hs3 hb3 HPA HB2
  have HK : Hid (∀ V, Below Y.heap.size Y V → V.cell? ⟨w3.heap.size, 0, none⟩ = some (.string ⟨#[77, 50]⟩) ∧ V.cell? ⟨w3.heap.size, 1, none⟩ = some (.int .i32 8) ∧ V.cell? ⟨w3.heap.size, 2, none⟩ = some (.int .i32 1) ∧ V.cell? ⟨w3.heap.size, 3, none⟩ = some (.bool false) ∧ V.cell? ⟨w3.heap.size, 4, none⟩ = some (.slice a0 1 ca0) ∧ V.cell? ⟨w3.heap.size, 5, none⟩ = some (.slice b0 1 cb0) ∧ V.cell? ⟨w3.heap.size, 6, none⟩ = some (.bool true) ∧ V.cell? ⟨w3.heap.size, 7, none⟩ = some (.slice c0 1 cc0) ∧ V.cell? ⟨w3.heap.size, 8, none⟩ = some (.slice d0 1 cd0)) := fun V hv => by
    have h := HN.out.later hv HN.out.lt
    exact ⟨h.cell 0, h.cell 1, h.cell 2, h.cell 3, h.cell 4, h.cell 5, h.cell 6, h.cell 7, h.cell 8⟩
  have HEX : Hid (∀ V, Below Y.heap.size Y V → Calls Tryz.prog 6 #[] V fun e w' => ∃ a ca b cb c cc d cd, e = .returned (.agg #[.string ⟨#[77, 50]⟩, .int .i32 8, .int .i32 1, .bool false, .slice a 1 ca, .slice b 1 cb, .bool true, .slice c 1 cc, .slice d 1 cd]) ∧ Hid (Sl w' (.slice a 1 ca) [3] ∧ Sl w' (.slice b 1 cb) [2] ∧ Sl w' (.slice c 1 cc) [1] ∧ Sl w' (.slice d 1 cd) [1]) ∧ (w'.cell? ⟨w3.heap.size, 0, none⟩ = some (.string ⟨#[77, 50]⟩) ∧ w'.cell? ⟨w3.heap.size, 1, none⟩ = some (.int .i32 8) ∧ w'.cell? ⟨w3.heap.size, 2, none⟩ = some (.int .i32 1) ∧ w'.cell? ⟨w3.heap.size, 3, none⟩ = some (.bool false) ∧ w'.cell? ⟨w3.heap.size, 4, none⟩ = some (.slice a0 1 ca0) ∧ w'.cell? ⟨w3.heap.size, 5, none⟩ = some (.slice b0 1 cb0) ∧ w'.cell? ⟨w3.heap.size, 6, none⟩ = some (.bool true) ∧ w'.cell? ⟨w3.heap.size, 7, none⟩ = some (.slice c0 1 cc0) ∧ w'.cell? ⟨w3.heap.size, 8, none⟩ = some (.slice d0 1 cd0)) ∧ Below Y.heap.size Y w') := fun V hv => by
    refine Calls.mono (texample_any V) ?_
    rintro e w' ⟨a, ca, b, cb, c, cc, d, cd, rfl, hs1, hb1⟩
    exact ⟨a, ca, b, cb, c, cc, d, cd, rfl, ⟨Sl.own hs1.out.1 (zw 3 (by decide) (by decide)), Sl.own hs1.out.2.1 (zw 2 (by decide) (by decide)), Sl.own hs1.out.2.2.1 (zw 1 (by decide) (by decide)), Sl.own hs1.out.2.2.2 (zw 1 (by decide) (by decide))⟩, HK.out _ (bt hv hb1.out), bt hv hb1.out⟩
  have HSA : Hid (∀ V (a : Option Addr) (ca : Nat) (b : Option Addr) (cb : Nat) (c : Option Addr) (cc : Nat) (d : Option Addr) (cd : Nat), Below Y.heap.size Y V → Hid (Sl V (.slice a 1 ca) [3] ∧ Sl V (.slice b 1 cb) [2] ∧ Sl V (.slice c 1 cc) [1] ∧ Sl V (.slice d 1 cd) [1]) → Calls Tryz.prog 15 #[.agg #[.string ⟨#[77, 50]⟩, .int .i32 8, .int .i32 1, .bool false, .slice a0 1 ca0, .slice b0 1 cb0, .bool true, .slice c0 1 cc0, .slice d0 1 cd0], .agg #[.string ⟨#[77, 50]⟩, .int .i32 8, .int .i32 1, .bool false, .slice a 1 ca, .slice b 1 cb, .bool true, .slice c 1 cc, .slice d 1 cd]] V fun e w' => e = .returned (.bool true) ∧ (w'.cell? ⟨w3.heap.size, 0, none⟩ = some (.string ⟨#[77, 50]⟩) ∧ w'.cell? ⟨w3.heap.size, 1, none⟩ = some (.int .i32 8) ∧ w'.cell? ⟨w3.heap.size, 2, none⟩ = some (.int .i32 1) ∧ w'.cell? ⟨w3.heap.size, 3, none⟩ = some (.bool false) ∧ w'.cell? ⟨w3.heap.size, 4, none⟩ = some (.slice a0 1 ca0) ∧ w'.cell? ⟨w3.heap.size, 5, none⟩ = some (.slice b0 1 cb0) ∧ w'.cell? ⟨w3.heap.size, 6, none⟩ = some (.bool true) ∧ w'.cell? ⟨w3.heap.size, 7, none⟩ = some (.slice c0 1 cc0) ∧ w'.cell? ⟨w3.heap.size, 8, none⟩ = some (.slice d0 1 cd0)) ∧ Below Y.heap.size Y w') := fun V a ca b cb c cc d cd hv hs => by
    refine Calls.mono (tSame_any ⟨#[77, 50]⟩ 8 1 false a0 ca0 [3] b0 cb0 [2] true c0 cc0 [1] d0 cd0 [1] ⟨#[77, 50]⟩ 8 1 false a ca [3] b cb [2] true c cc [1] d cd [1] V (HS3.out.1.later hv) (HS3.out.2.1.later hv) (HS3.out.2.2.1.later hv) (HS3.out.2.2.2.later hv) hs.out.1 hs.out.2.1 hs.out.2.2.1 hs.out.2.2.2 (by decide) (by decide) (by decide) (by decide) (by decide) (by decide) (by decide) (by decide)) ?_
    rintro e w' ⟨rfl, hb⟩
    exact ⟨by simp, HK.out _ (bt hv hb), bt hv hb⟩
  have HCH : Hid (∀ V (a : Option Addr) (ca : Nat) (b : Option Addr) (cb : Nat) (c : Option Addr) (cc : Nat) (d : Option Addr) (cd : Nat), Below Y.heap.size Y V → Hid (Sl V (.slice a 1 ca) [3] ∧ Sl V (.slice b 1 cb) [2] ∧ Sl V (.slice c 1 cc) [1] ∧ Sl V (.slice d 1 cd) [1]) → Calls Tryz.prog 8 #[.agg #[.string ⟨#[77, 50]⟩, .int .i32 8, .int .i32 1, .bool false, .slice a 1 ca, .slice b 1 cb, .bool true, .slice c 1 cc, .slice d 1 cd]] V fun e w' => e = .returned (.int .i64 0) ∧ (w'.cell? ⟨w3.heap.size, 0, none⟩ = some (.string ⟨#[77, 50]⟩) ∧ w'.cell? ⟨w3.heap.size, 1, none⟩ = some (.int .i32 8) ∧ w'.cell? ⟨w3.heap.size, 2, none⟩ = some (.int .i32 1) ∧ w'.cell? ⟨w3.heap.size, 3, none⟩ = some (.bool false) ∧ w'.cell? ⟨w3.heap.size, 4, none⟩ = some (.slice a0 1 ca0) ∧ w'.cell? ⟨w3.heap.size, 5, none⟩ = some (.slice b0 1 cb0) ∧ w'.cell? ⟨w3.heap.size, 6, none⟩ = some (.bool true) ∧ w'.cell? ⟨w3.heap.size, 7, none⟩ = some (.slice c0 1 cc0) ∧ w'.cell? ⟨w3.heap.size, 8, none⟩ = some (.slice d0 1 cd0)) ∧ Below Y.heap.size Y w') := fun V a ca b cb c cc d cd hv hs => by
    refine Calls.mono (tCheck_any ⟨#[77, 50]⟩ 8 1 false a ca [3] b cb [2] true c cc [1] d cd [1] V (by decide) z32 hs.out.1 hs.out.2.1 hs.out.2.2.1 hs.out.2.2.2) ?_
    rintro e w' ⟨rfl, hb⟩
    exact ⟨by rw [zg]; exact congrArg (fun z => Ending.returned (.int .i64 z)) ztchk, HK.out _ (bt hv hb), bt hv hb⟩
  have hs0 := HK.out _ (Below.refl _ Y).drew
  have hd0 := hid (Below.refl Y.heap.size Y).drew
  clear HK HS3 HN HNB
  go_wp2_with fail
  go_region_held3 (fun V : World => V.cell? ⟨w3.heap.size, 0, none⟩ = some (.string ⟨#[77, 50]⟩) ∧ V.cell? ⟨w3.heap.size, 1, none⟩ = some (.int .i32 8) ∧ V.cell? ⟨w3.heap.size, 2, none⟩ = some (.int .i32 1) ∧ V.cell? ⟨w3.heap.size, 3, none⟩ = some (.bool false) ∧ V.cell? ⟨w3.heap.size, 4, none⟩ = some (.slice a0 1 ca0) ∧ V.cell? ⟨w3.heap.size, 5, none⟩ = some (.slice b0 1 cb0) ∧ V.cell? ⟨w3.heap.size, 6, none⟩ = some (.bool true) ∧ V.cell? ⟨w3.heap.size, 7, none⟩ = some (.slice c0 1 cc0) ∧ V.cell? ⟨w3.heap.size, 8, none⟩ = some (.slice d0 1 cd0)) (first | exact hs4 | exact hs3 | exact hs2 | exact hs1 | exact hs0)
    (first
      | (go_at_call 8; (with_reducible refine Calls.mono (HCH.out _ a2 ca2 b2 cb2 c2 cc2 d2 cd2 hb7 hq2) ?_); rintro e w8 ⟨rfl, hs4, hb8⟩)
      | (go_at_call 6; (with_reducible refine Calls.mono (HEX.out _ hb6) ?_); rintro e w7 ⟨a2, ca2, b2, cb2, c2, cc2, d2, cd2, rfl, hq2, hs3, hb7⟩)
      | (go_at_call 15; (with_reducible refine Calls.mono (HSA.out _ a1 ca1 b1 cb1 c1 cc1 d1 cd1 hb5 hq1) ?_); rintro e w6 ⟨rfl, hs2, hb6⟩)
      | (go_at_call 6; (with_reducible refine Calls.mono (HEX.out _ hd0.out) ?_); rintro e w5 ⟨a1, ca1, b1, cb1, c1, cc1, d1, cd1, rfl, hq1, hs1, hb5⟩))
  all_goals
    have HB9 := hid (bt HBY.out hb8)
    clear hs0 hs1 hs2 hs3 hs4 hb5 hb6 hb7 hb8 HCH HEX HSA hd0 hq1 hq2
    go_wp2_with fail
    go_ret
    exact ⟨rfl, HB9.out⟩
end Go.Proofs.YtmgjkdijnjeljaaGreatDoor

/- TideNames: of every text: it is a name, and Check says so, just if it is 1 to 20 letters and digits, the first a letter. -/
namespace Go.Proofs.YtmgjkdijnjeljaaGreatDoor
open Go.RowKit
set_option linter.unusedVariables false
set_option linter.unusedSimpArgs false

/-- What the law's loop knows behind k bytes. -/
def nmTo (l : List UInt8) : Nat → Bool
  | 0 => decide (1 ≤ l.length) && decide (l.length ≤ 20)
  | k + 1 => nmTo l k && (tlet ((l[k]?.getD 0).toNat : Int) || decide (0 < k) && tdig ((l[k]?.getD 0).toNat : Int))
theorem nmTo_iff (l : List UInt8) : ∀ k, nmTo l k = true ↔ (1 ≤ l.length ∧ l.length ≤ 20) ∧ ∀ j, j < k → (tlet ((l[j]?.getD 0).toNat : Int) || decide (0 < j) && tdig ((l[j]?.getD 0).toNat : Int)) = true
  | 0 => by unfold nmTo; simp
  | k + 1 => by
    unfold nmTo
    rw [Bool.and_eq_true, nmTo_iff l k]
    constructor
    · rintro ⟨⟨h1, h2⟩, h3⟩
      refine ⟨h1, fun j hj => ?_⟩
      by_cases e : j = k
      · rw [e]; exact h3
      · exact h2 j (by omega)
    · rintro ⟨h1, h2⟩
      exact ⟨⟨h1, fun j hj => h2 j (by omega)⟩, h2 k (by omega)⟩
theorem nmTo_all (l : List UInt8) : nmTo l l.length = tname l := by
  rw [Bool.eq_iff_iff, nmTo_iff]
  constructor
  · rintro ⟨⟨h1, h2⟩, h3⟩
    refine tname_all h1 h2 ?_ (fun j hj => ?_)
    · have := h3 0 (by omega)
      simpa using this
    · have h := h3 j hj
      revert h
      cases tlet ((l[j]?.getD 0).toNat : Int) <;> cases tdig ((l[j]?.getD 0).toNat : Int) <;> simp
  · intro h
    have hn := h
    unfold tname at h
    simp only [Bool.and_eq_true, decide_eq_true_eq] at h
    obtain ⟨⟨⟨h1, h2⟩, h3⟩, h4⟩ := h
    refine ⟨⟨h1, h2⟩, fun j hj => ?_⟩
    by_cases e : j = 0
    · rw [e, h3]; rfl
    · rw [List.all_eq_true] at h4
      have h5 := h4 (l[j]) (List.getElem_mem hj)
      rw [List.getElem?_eq_getElem hj, decide_eq_true (show 0 < j by omega)]
      simpa using h5
theorem nmTo_no {l : List UInt8} {k : Nat} (h : nmTo l k = false) (hk : k ≤ l.length) : tname l = false := by
  rw [← nmTo_all]
  cases e : nmTo l l.length with
  | false => rfl
  | true =>
    have h1 := (nmTo_iff l l.length).1 e
    have h2 := (nmTo_iff l k).2 ⟨h1.1, fun j hj => h1.2 j (by omega)⟩
    rw [h] at h2; cases h2

set_option maxHeartbeats 6400000 in
set_option maxRecDepth 100000 in
theorem tideNames_walk (s : ByteArray) (w : World) (hm : s.size ≤ 9223372036854775807) (htab : Tab w) (herr : ErrT w) :
    Calls Tryz.prog 3 #[.string s] w fun e w' => e = .returned (.bool true) ∧ Below w.heap.size w w' := by
  have HAW := hid (tawake_any w htab herr)
  have HM := hid hm
  have HL := hid (tsize_list s)
  have hstart : nmTo s.data.toList 0 = (decide (1 ≤ (s.size : Int)) && decide ((s.size : Int) ≤ 20)) := by
    unfold nmTo
    rw [tsize_list]
    congr 1 <;> exact decide_eq_decide.2 (by omega)
  have HR0 := hid hstart
  clear htab herr hstart
  obtain ⟨B2, hB2⟩ : ∃ B2, decide ((s.size : Int) ≤ 20) = B2 := ⟨_, rfl⟩
  rw [hB2] at HR0
  have HC0 : (1 ≤ (s.size : Int) ∧ nmTo s.data.toList 0 = B2) ∨ (¬ 1 ≤ (s.size : Int) ∧ nmTo s.data.toList 0 = false) := by
    by_cases q1 : 1 ≤ (s.size : Int)
    · exact .inl ⟨q1, by rw [HR0.out, decide_eq_true q1]; rfl⟩
    · exact .inr ⟨q1, by rw [HR0.out, decide_eq_false q1]; rfl⟩
  clear HR0
  rcases HC0 with ⟨q1, h1⟩ | ⟨q1, h1⟩
  · have HR1 := hid h1
    clear h1
    go_enter Tryz.func3, Tryz.ntmps3
    go_wp2_with fail
    refine Calls.mono HAW.out ?_
    rintro e w1 ⟨rfl, hb1⟩
    have HB1 := hid hb1
    clear hb1 HAW
    go_wp2_with fail
    go_loop [4, 5] (fun r t => ∃ (k : Nat) (b : Bool), k ≤ s.size ∧ t = .int .i64 k ∧ r = .bool b ∧ Hid (nmTo s.data.toList k = b)) (fun _ t => s.size - (intOf t).toNat)
    case atStart => exact ⟨0, _, by omega, rfl, rfl, HR1⟩
    case round =>
      obtain ⟨k, b', hk, rfl, rfl, HB⟩ := hrel
      clear HR1 hB2
      by_cases hlt : k < s.size
      · cases b' with
        | true =>
          have bk := tbyte_at s k hlt
          have HST : Hid (nmTo s.data.toList (k + 1) = (tlet (s[k].toNat : Int) || decide (0 < k) && tdig (s[k].toNat : Int))) := by
            show (nmTo s.data.toList k && _) = _
            rw [HB.out, bk]; simp
          clear bk
          by_cases x1 : 65 ≤ (s[k].toNat : Int) <;> by_cases x2 : (s[k].toNat : Int) ≤ 90 <;> (try (exfalso; omega)) <;> by_cases x3 : 97 ≤ (s[k].toNat : Int) <;> (try (exfalso; omega)) <;> by_cases x4 : (s[k].toNat : Int) ≤ 122 <;> (try (exfalso; omega)) <;> by_cases x5 : 48 ≤ (s[k].toNat : Int) <;> (try (exfalso; omega)) <;> by_cases x6 : (s[k].toNat : Int) ≤ 57 <;> (try (exfalso; omega)) <;> by_cases x7 : 0 < (k : Int)
          all_goals
            have HST2 : Hid (∃ b, nmTo s.data.toList (k + 1) = b ∧ (tlet (s[k].toNat : Int) || decide (0 < k) && tdig (s[k].toNat : Int)) = b) := ⟨_, HST.out, rfl⟩
            have x8 : decide (0 < k) = decide (0 < (k : Int)) := decide_eq_decide.2 (by omega)
            unfold tlet tdig at HST2
            simp only [x8, x1, x2, x3, x4, x5, x6, x7, decide_true, decide_false, Bool.and_true, Bool.true_and, Bool.and_false, Bool.false_and, Bool.or_false, Bool.false_or, Bool.or_true, Bool.true_or, Bool.and_self, Bool.or_self] at HST2
            clear HST x8
            go_wp2_with fail
            go_round
            case rel => exact ⟨k + 1, _, by omega, by go_num, rfl, (by obtain ⟨b, h1, h2⟩ := HST2.out; exact h1.trans h2.symm)⟩
            case measure => simp [intOf]; omega
        | false =>
          have HTN := hid (nmTo_no HB.out (by have := HL.out; omega))
          have hlt' : (k : Int) < (s.size : Int) := by omega
          go_wp2_with fail
          refine Calls.mono (texample_any w1) ?_
          rintro e w2 ⟨a, ca, b, cb, c, cc, d, cd, rfl, hs2, hb2⟩
          have HN := hid (Box.made w2 31 #[.string ⟨#[77, 50]⟩, .int .i32 8, .int .i32 1, .bool false, .slice a 1 ca, .slice b 1 cb, .bool true, .slice c 1 cc, .slice d 1 cd])
          have HNB := hid (alloc_later w2 (.cells #[.string ⟨#[77, 50]⟩, .int .i32 8, .int .i32 1, .bool false, .slice a 1 ca, .slice b 1 cb, .bool true, .slice c 1 cc, .slice d 1 cd] 31))
          obtain ⟨Y, hY⟩ : ∃ Y, w2.alloc (.cells #[.string ⟨#[77, 50]⟩, .int .i32 8, .int .i32 1, .bool false, .slice a 1 ca, .slice b 1 cb, .bool true, .slice c 1 cc, .slice d 1 cd] 31) = Y := ⟨_, rfl⟩
          rw [hY] at HN HNB
          have y0 : Y.cell? ⟨w2.heap.size, 0, none⟩ = some (.string ⟨#[77, 50]⟩) := HN.out.cell 0
          have yf := HN.out.free 0
          have HP : Hid (Box (Y.setCell ⟨w2.heap.size, 0, none⟩ (.string s)) w2.heap.size 31 #[.string s, .int .i32 8, .int .i32 1, .bool false, .slice a 1 ca, .slice b 1 cb, .bool true, .slice c 1 cc, .slice d 1 cd]) := HN.out.set 0 (.string s)
          have HSZ : Hid (w.heap.size ≤ w2.heap.size) := (bt HB1.out hb2.out).size
          have HBY : Hid (Below w.heap.size w (Y.setCell ⟨w2.heap.size, 0, none⟩ (.string s))) := (bt HB1.out (bt hb2.out HNB.out)).setCell (p := ⟨w2.heap.size, 0, none⟩) HSZ.out _
          have HSS : Hid (Sl (Y.setCell ⟨w2.heap.size, 0, none⟩ (.string s)) (.slice a 1 ca) [3] ∧ Sl (Y.setCell ⟨w2.heap.size, 0, none⟩ (.string s)) (.slice b 1 cb) [2] ∧ Sl (Y.setCell ⟨w2.heap.size, 0, none⟩ (.string s)) (.slice c 1 cc) [1] ∧ Sl (Y.setCell ⟨w2.heap.size, 0, none⟩ (.string s)) (.slice d 1 cd) [1]) :=
            ⟨Sl.own (xs := [3]) (own_put1 (owns_later hs2.out.1 HNB.out) _ (fun g hg => Nat.ne_of_lt (hs2.out.1.lt g hg).2) 0 _) (zw 3 (by decide) (by decide)), Sl.own (xs := [2]) (own_put1 (owns_later hs2.out.2.1 HNB.out) _ (fun g hg => Nat.ne_of_lt (hs2.out.2.1.lt g hg).2) 0 _) (zw 2 (by decide) (by decide)), Sl.own (xs := [1]) (own_put1 (owns_later hs2.out.2.2.1 HNB.out) _ (fun g hg => Nat.ne_of_lt (hs2.out.2.2.1.lt g hg).2) 0 _) (zw 1 (by decide) (by decide)), Sl.own (xs := [1]) (own_put1 (owns_later hs2.out.2.2.2 HNB.out) _ (fun g hg => Nat.ne_of_lt (hs2.out.2.2.2.lt g hg).2) 0 _) (zw 1 (by decide) (by decide))⟩
          obtain ⟨Y1, hY1⟩ : ∃ Y1, Y.setCell ⟨w2.heap.size, 0, none⟩ (.string s) = Y1 := ⟨_, rfl⟩
          rw [hY1] at HP HBY HSS
          have HCH : Hid (∀ V, Below Y1.heap.size Y1 V → Calls Tryz.prog 8 #[.agg #[.string s, .int .i32 8, .int .i32 1, .bool false, .slice a 1 ca, .slice b 1 cb, .bool true, .slice c 1 cc, .slice d 1 cd]] V fun e w' => e = .returned (.int .i64 (tchk s.data.toList 8 1 0)) ∧ Below V.heap.size V w') := fun V hv => by
            have h := tCheck_any s 8 1 false a ca [3] b cb [2] true c cc [1] d cd [1] V HM.out z32 (HSS.out.1.later hv) (HSS.out.2.1.later hv) (HSS.out.2.2.1.later hv) (HSS.out.2.2.2.later hv)
            rw [zg] at h
            exact h
          have HNM := hid (tName_any s Y1 HM.out)
          clear hs2 hb2 HSS
          have k0 : Y1.cell? ⟨w2.heap.size, 0, none⟩ = some (.string s) := HP.out.cell 0
          have k1 : Y1.cell? ⟨w2.heap.size, 1, none⟩ = some (.int .i32 8) := HP.out.cell 1
          have k2 : Y1.cell? ⟨w2.heap.size, 2, none⟩ = some (.int .i32 1) := HP.out.cell 2
          have k3 : Y1.cell? ⟨w2.heap.size, 3, none⟩ = some (.bool false) := HP.out.cell 3
          have k4 : Y1.cell? ⟨w2.heap.size, 4, none⟩ = some (.slice a 1 ca) := HP.out.cell 4
          have k5 : Y1.cell? ⟨w2.heap.size, 5, none⟩ = some (.slice b 1 cb) := HP.out.cell 5
          have k6 : Y1.cell? ⟨w2.heap.size, 6, none⟩ = some (.bool true) := HP.out.cell 6
          have k7 : Y1.cell? ⟨w2.heap.size, 7, none⟩ = some (.slice c 1 cc) := HP.out.cell 7
          have k8 : Y1.cell? ⟨w2.heap.size, 8, none⟩ = some (.slice d 1 cd) := HP.out.cell 8
          rw [HTN.out] at HNM
          have e0 : tchk s.data.toList 8 1 0 = 4 := tchk_name _ _ _ HTN.out
          rw [e0] at HCH
          clear e0
          go_wp2_with fail
          refine Calls.mono HNM.out ?_
          rintro e w3 ⟨rfl, rfl⟩
          go_wp2_with fail
          refine Calls.mono (HCH.out _ (Below.refl _ _)) ?_
          rintro e w3 ⟨rfl, hb3⟩
          have HB3 := hid (bt HBY.out hb3)
          have HP3 := hid (HP.out.later hb3 HP.out.lt)
          have HC3 := hid (HCH.out w3 hb3)
          clear hb3 HCH HNM k0 k1 k2 k3 k4 k5 k6 k7 k8
          have k0 : w3.cell? ⟨w2.heap.size, 0, none⟩ = some (.string s) := HP3.out.cell 0
          have k1 : w3.cell? ⟨w2.heap.size, 1, none⟩ = some (.int .i32 8) := HP3.out.cell 1
          have k2 : w3.cell? ⟨w2.heap.size, 2, none⟩ = some (.int .i32 1) := HP3.out.cell 2
          have k3 : w3.cell? ⟨w2.heap.size, 3, none⟩ = some (.bool false) := HP3.out.cell 3
          have k4 : w3.cell? ⟨w2.heap.size, 4, none⟩ = some (.slice a 1 ca) := HP3.out.cell 4
          have k5 : w3.cell? ⟨w2.heap.size, 5, none⟩ = some (.slice b 1 cb) := HP3.out.cell 5
          have k6 : w3.cell? ⟨w2.heap.size, 6, none⟩ = some (.bool true) := HP3.out.cell 6
          have k7 : w3.cell? ⟨w2.heap.size, 7, none⟩ = some (.slice c 1 cc) := HP3.out.cell 7
          have k8 : w3.cell? ⟨w2.heap.size, 8, none⟩ = some (.slice d 1 cd) := HP3.out.cell 8
          go_wp2_with fail
          refine Calls.mono HC3.out ?_
          rintro e w4 ⟨rfl, hb4⟩
          have HB4 := hid (bt HB3.out hb4)
          clear hb4 HC3 k0 k1 k2 k3 k4 k5 k6 k7 k8
          go_wp2_with fail
          go_ret
          exact ⟨rfl, HB4.out⟩
      · have hkn : k = s.size := by omega
        subst hkn
        have HTN := hid ((nmTo_all s.data.toList).symm.trans ((congrArg (nmTo s.data.toList) HL.out).trans HB.out))
        cases b' with
        | true =>
          go_wp2_with fail
          refine Calls.mono (texample_any w1) ?_
          rintro e w2 ⟨a, ca, b, cb, c, cc, d, cd, rfl, hs2, hb2⟩
          have HN := hid (Box.made w2 31 #[.string ⟨#[77, 50]⟩, .int .i32 8, .int .i32 1, .bool false, .slice a 1 ca, .slice b 1 cb, .bool true, .slice c 1 cc, .slice d 1 cd])
          have HNB := hid (alloc_later w2 (.cells #[.string ⟨#[77, 50]⟩, .int .i32 8, .int .i32 1, .bool false, .slice a 1 ca, .slice b 1 cb, .bool true, .slice c 1 cc, .slice d 1 cd] 31))
          obtain ⟨Y, hY⟩ : ∃ Y, w2.alloc (.cells #[.string ⟨#[77, 50]⟩, .int .i32 8, .int .i32 1, .bool false, .slice a 1 ca, .slice b 1 cb, .bool true, .slice c 1 cc, .slice d 1 cd] 31) = Y := ⟨_, rfl⟩
          rw [hY] at HN HNB
          have y0 : Y.cell? ⟨w2.heap.size, 0, none⟩ = some (.string ⟨#[77, 50]⟩) := HN.out.cell 0
          have yf := HN.out.free 0
          have HP : Hid (Box (Y.setCell ⟨w2.heap.size, 0, none⟩ (.string s)) w2.heap.size 31 #[.string s, .int .i32 8, .int .i32 1, .bool false, .slice a 1 ca, .slice b 1 cb, .bool true, .slice c 1 cc, .slice d 1 cd]) := HN.out.set 0 (.string s)
          have HSZ : Hid (w.heap.size ≤ w2.heap.size) := (bt HB1.out hb2.out).size
          have HBY : Hid (Below w.heap.size w (Y.setCell ⟨w2.heap.size, 0, none⟩ (.string s))) := (bt HB1.out (bt hb2.out HNB.out)).setCell (p := ⟨w2.heap.size, 0, none⟩) HSZ.out _
          have HSS : Hid (Sl (Y.setCell ⟨w2.heap.size, 0, none⟩ (.string s)) (.slice a 1 ca) [3] ∧ Sl (Y.setCell ⟨w2.heap.size, 0, none⟩ (.string s)) (.slice b 1 cb) [2] ∧ Sl (Y.setCell ⟨w2.heap.size, 0, none⟩ (.string s)) (.slice c 1 cc) [1] ∧ Sl (Y.setCell ⟨w2.heap.size, 0, none⟩ (.string s)) (.slice d 1 cd) [1]) :=
            ⟨Sl.own (xs := [3]) (own_put1 (owns_later hs2.out.1 HNB.out) _ (fun g hg => Nat.ne_of_lt (hs2.out.1.lt g hg).2) 0 _) (zw 3 (by decide) (by decide)), Sl.own (xs := [2]) (own_put1 (owns_later hs2.out.2.1 HNB.out) _ (fun g hg => Nat.ne_of_lt (hs2.out.2.1.lt g hg).2) 0 _) (zw 2 (by decide) (by decide)), Sl.own (xs := [1]) (own_put1 (owns_later hs2.out.2.2.1 HNB.out) _ (fun g hg => Nat.ne_of_lt (hs2.out.2.2.1.lt g hg).2) 0 _) (zw 1 (by decide) (by decide)), Sl.own (xs := [1]) (own_put1 (owns_later hs2.out.2.2.2 HNB.out) _ (fun g hg => Nat.ne_of_lt (hs2.out.2.2.2.lt g hg).2) 0 _) (zw 1 (by decide) (by decide))⟩
          obtain ⟨Y1, hY1⟩ : ∃ Y1, Y.setCell ⟨w2.heap.size, 0, none⟩ (.string s) = Y1 := ⟨_, rfl⟩
          rw [hY1] at HP HBY HSS
          have HCH : Hid (∀ V, Below Y1.heap.size Y1 V → Calls Tryz.prog 8 #[.agg #[.string s, .int .i32 8, .int .i32 1, .bool false, .slice a 1 ca, .slice b 1 cb, .bool true, .slice c 1 cc, .slice d 1 cd]] V fun e w' => e = .returned (.int .i64 (tchk s.data.toList 8 1 0)) ∧ Below V.heap.size V w') := fun V hv => by
            have h := tCheck_any s 8 1 false a ca [3] b cb [2] true c cc [1] d cd [1] V HM.out z32 (HSS.out.1.later hv) (HSS.out.2.1.later hv) (HSS.out.2.2.1.later hv) (HSS.out.2.2.2.later hv)
            rw [zg] at h
            exact h
          have HNM := hid (tName_any s Y1 HM.out)
          clear hs2 hb2 HSS
          have k0 : Y1.cell? ⟨w2.heap.size, 0, none⟩ = some (.string s) := HP.out.cell 0
          have k1 : Y1.cell? ⟨w2.heap.size, 1, none⟩ = some (.int .i32 8) := HP.out.cell 1
          have k2 : Y1.cell? ⟨w2.heap.size, 2, none⟩ = some (.int .i32 1) := HP.out.cell 2
          have k3 : Y1.cell? ⟨w2.heap.size, 3, none⟩ = some (.bool false) := HP.out.cell 3
          have k4 : Y1.cell? ⟨w2.heap.size, 4, none⟩ = some (.slice a 1 ca) := HP.out.cell 4
          have k5 : Y1.cell? ⟨w2.heap.size, 5, none⟩ = some (.slice b 1 cb) := HP.out.cell 5
          have k6 : Y1.cell? ⟨w2.heap.size, 6, none⟩ = some (.bool true) := HP.out.cell 6
          have k7 : Y1.cell? ⟨w2.heap.size, 7, none⟩ = some (.slice c 1 cc) := HP.out.cell 7
          have k8 : Y1.cell? ⟨w2.heap.size, 8, none⟩ = some (.slice d 1 cd) := HP.out.cell 8
          rw [HTN.out] at HNM
          have e0 : tchk s.data.toList 8 1 0 = 0 := by rw [tchk_rest _ _ _ HTN.out, zo, fstE_zero]
          rw [e0] at HCH
          clear e0
          go_wp2_with fail
          refine Calls.mono HNM.out ?_
          rintro e w3 ⟨rfl, rfl⟩
          go_wp2_with fail
          refine Calls.mono (HCH.out _ (Below.refl _ _)) ?_
          rintro e w3 ⟨rfl, hb3⟩
          have HB3 := hid (bt HBY.out hb3)
          clear hb3 HCH HNM k0 k1 k2 k3 k4 k5 k6 k7 k8
          go_wp2_with fail
          go_ret
          exact ⟨rfl, HB3.out⟩
        | false =>
          go_wp2_with fail
          refine Calls.mono (texample_any w1) ?_
          rintro e w2 ⟨a, ca, b, cb, c, cc, d, cd, rfl, hs2, hb2⟩
          have HN := hid (Box.made w2 31 #[.string ⟨#[77, 50]⟩, .int .i32 8, .int .i32 1, .bool false, .slice a 1 ca, .slice b 1 cb, .bool true, .slice c 1 cc, .slice d 1 cd])
          have HNB := hid (alloc_later w2 (.cells #[.string ⟨#[77, 50]⟩, .int .i32 8, .int .i32 1, .bool false, .slice a 1 ca, .slice b 1 cb, .bool true, .slice c 1 cc, .slice d 1 cd] 31))
          obtain ⟨Y, hY⟩ : ∃ Y, w2.alloc (.cells #[.string ⟨#[77, 50]⟩, .int .i32 8, .int .i32 1, .bool false, .slice a 1 ca, .slice b 1 cb, .bool true, .slice c 1 cc, .slice d 1 cd] 31) = Y := ⟨_, rfl⟩
          rw [hY] at HN HNB
          have y0 : Y.cell? ⟨w2.heap.size, 0, none⟩ = some (.string ⟨#[77, 50]⟩) := HN.out.cell 0
          have yf := HN.out.free 0
          have HP : Hid (Box (Y.setCell ⟨w2.heap.size, 0, none⟩ (.string s)) w2.heap.size 31 #[.string s, .int .i32 8, .int .i32 1, .bool false, .slice a 1 ca, .slice b 1 cb, .bool true, .slice c 1 cc, .slice d 1 cd]) := HN.out.set 0 (.string s)
          have HSZ : Hid (w.heap.size ≤ w2.heap.size) := (bt HB1.out hb2.out).size
          have HBY : Hid (Below w.heap.size w (Y.setCell ⟨w2.heap.size, 0, none⟩ (.string s))) := (bt HB1.out (bt hb2.out HNB.out)).setCell (p := ⟨w2.heap.size, 0, none⟩) HSZ.out _
          have HSS : Hid (Sl (Y.setCell ⟨w2.heap.size, 0, none⟩ (.string s)) (.slice a 1 ca) [3] ∧ Sl (Y.setCell ⟨w2.heap.size, 0, none⟩ (.string s)) (.slice b 1 cb) [2] ∧ Sl (Y.setCell ⟨w2.heap.size, 0, none⟩ (.string s)) (.slice c 1 cc) [1] ∧ Sl (Y.setCell ⟨w2.heap.size, 0, none⟩ (.string s)) (.slice d 1 cd) [1]) :=
            ⟨Sl.own (xs := [3]) (own_put1 (owns_later hs2.out.1 HNB.out) _ (fun g hg => Nat.ne_of_lt (hs2.out.1.lt g hg).2) 0 _) (zw 3 (by decide) (by decide)), Sl.own (xs := [2]) (own_put1 (owns_later hs2.out.2.1 HNB.out) _ (fun g hg => Nat.ne_of_lt (hs2.out.2.1.lt g hg).2) 0 _) (zw 2 (by decide) (by decide)), Sl.own (xs := [1]) (own_put1 (owns_later hs2.out.2.2.1 HNB.out) _ (fun g hg => Nat.ne_of_lt (hs2.out.2.2.1.lt g hg).2) 0 _) (zw 1 (by decide) (by decide)), Sl.own (xs := [1]) (own_put1 (owns_later hs2.out.2.2.2 HNB.out) _ (fun g hg => Nat.ne_of_lt (hs2.out.2.2.2.lt g hg).2) 0 _) (zw 1 (by decide) (by decide))⟩
          obtain ⟨Y1, hY1⟩ : ∃ Y1, Y.setCell ⟨w2.heap.size, 0, none⟩ (.string s) = Y1 := ⟨_, rfl⟩
          rw [hY1] at HP HBY HSS
          have HCH : Hid (∀ V, Below Y1.heap.size Y1 V → Calls Tryz.prog 8 #[.agg #[.string s, .int .i32 8, .int .i32 1, .bool false, .slice a 1 ca, .slice b 1 cb, .bool true, .slice c 1 cc, .slice d 1 cd]] V fun e w' => e = .returned (.int .i64 (tchk s.data.toList 8 1 0)) ∧ Below V.heap.size V w') := fun V hv => by
            have h := tCheck_any s 8 1 false a ca [3] b cb [2] true c cc [1] d cd [1] V HM.out z32 (HSS.out.1.later hv) (HSS.out.2.1.later hv) (HSS.out.2.2.1.later hv) (HSS.out.2.2.2.later hv)
            rw [zg] at h
            exact h
          have HNM := hid (tName_any s Y1 HM.out)
          clear hs2 hb2 HSS
          have k0 : Y1.cell? ⟨w2.heap.size, 0, none⟩ = some (.string s) := HP.out.cell 0
          have k1 : Y1.cell? ⟨w2.heap.size, 1, none⟩ = some (.int .i32 8) := HP.out.cell 1
          have k2 : Y1.cell? ⟨w2.heap.size, 2, none⟩ = some (.int .i32 1) := HP.out.cell 2
          have k3 : Y1.cell? ⟨w2.heap.size, 3, none⟩ = some (.bool false) := HP.out.cell 3
          have k4 : Y1.cell? ⟨w2.heap.size, 4, none⟩ = some (.slice a 1 ca) := HP.out.cell 4
          have k5 : Y1.cell? ⟨w2.heap.size, 5, none⟩ = some (.slice b 1 cb) := HP.out.cell 5
          have k6 : Y1.cell? ⟨w2.heap.size, 6, none⟩ = some (.bool true) := HP.out.cell 6
          have k7 : Y1.cell? ⟨w2.heap.size, 7, none⟩ = some (.slice c 1 cc) := HP.out.cell 7
          have k8 : Y1.cell? ⟨w2.heap.size, 8, none⟩ = some (.slice d 1 cd) := HP.out.cell 8
          rw [HTN.out] at HNM
          have e0 : tchk s.data.toList 8 1 0 = 4 := tchk_name _ _ _ HTN.out
          rw [e0] at HCH
          clear e0
          go_wp2_with fail
          refine Calls.mono HNM.out ?_
          rintro e w3 ⟨rfl, rfl⟩
          go_wp2_with fail
          refine Calls.mono (HCH.out _ (Below.refl _ _)) ?_
          rintro e w3 ⟨rfl, hb3⟩
          have HB3 := hid (bt HBY.out hb3)
          have HP3 := hid (HP.out.later hb3 HP.out.lt)
          have HC3 := hid (HCH.out w3 hb3)
          clear hb3 HCH HNM k0 k1 k2 k3 k4 k5 k6 k7 k8
          have k0 : w3.cell? ⟨w2.heap.size, 0, none⟩ = some (.string s) := HP3.out.cell 0
          have k1 : w3.cell? ⟨w2.heap.size, 1, none⟩ = some (.int .i32 8) := HP3.out.cell 1
          have k2 : w3.cell? ⟨w2.heap.size, 2, none⟩ = some (.int .i32 1) := HP3.out.cell 2
          have k3 : w3.cell? ⟨w2.heap.size, 3, none⟩ = some (.bool false) := HP3.out.cell 3
          have k4 : w3.cell? ⟨w2.heap.size, 4, none⟩ = some (.slice a 1 ca) := HP3.out.cell 4
          have k5 : w3.cell? ⟨w2.heap.size, 5, none⟩ = some (.slice b 1 cb) := HP3.out.cell 5
          have k6 : w3.cell? ⟨w2.heap.size, 6, none⟩ = some (.bool true) := HP3.out.cell 6
          have k7 : w3.cell? ⟨w2.heap.size, 7, none⟩ = some (.slice c 1 cc) := HP3.out.cell 7
          have k8 : w3.cell? ⟨w2.heap.size, 8, none⟩ = some (.slice d 1 cd) := HP3.out.cell 8
          go_wp2_with fail
          refine Calls.mono HC3.out ?_
          rintro e w4 ⟨rfl, hb4⟩
          have HB4 := hid (bt HB3.out hb4)
          clear hb4 HC3 k0 k1 k2 k3 k4 k5 k6 k7 k8
          go_wp2_with fail
          go_ret
          exact ⟨rfl, HB4.out⟩
  · have HR1 := hid h1
    clear h1
    go_enter Tryz.func3, Tryz.ntmps3
    go_wp2_with fail
    refine Calls.mono HAW.out ?_
    rintro e w1 ⟨rfl, hb1⟩
    have HB1 := hid hb1
    clear hb1 HAW
    go_wp2_with fail
    go_loop [4, 5] (fun r t => ∃ (k : Nat) (b : Bool), k ≤ s.size ∧ t = .int .i64 k ∧ r = .bool b ∧ Hid (nmTo s.data.toList k = b)) (fun _ t => s.size - (intOf t).toNat)
    case atStart => exact ⟨0, _, by omega, rfl, rfl, HR1⟩
    case round =>
      obtain ⟨k, b', hk, rfl, rfl, HB⟩ := hrel
      clear HR1 hB2
      by_cases hlt : k < s.size
      · exfalso; omega
      · have hkn : k = s.size := by omega
        subst hkn
        have HTN := hid ((nmTo_all s.data.toList).symm.trans ((congrArg (nmTo s.data.toList) HL.out).trans HB.out))
        cases b' with
        | true =>
          go_wp2_with fail
          refine Calls.mono (texample_any w1) ?_
          rintro e w2 ⟨a, ca, b, cb, c, cc, d, cd, rfl, hs2, hb2⟩
          have HN := hid (Box.made w2 31 #[.string ⟨#[77, 50]⟩, .int .i32 8, .int .i32 1, .bool false, .slice a 1 ca, .slice b 1 cb, .bool true, .slice c 1 cc, .slice d 1 cd])
          have HNB := hid (alloc_later w2 (.cells #[.string ⟨#[77, 50]⟩, .int .i32 8, .int .i32 1, .bool false, .slice a 1 ca, .slice b 1 cb, .bool true, .slice c 1 cc, .slice d 1 cd] 31))
          obtain ⟨Y, hY⟩ : ∃ Y, w2.alloc (.cells #[.string ⟨#[77, 50]⟩, .int .i32 8, .int .i32 1, .bool false, .slice a 1 ca, .slice b 1 cb, .bool true, .slice c 1 cc, .slice d 1 cd] 31) = Y := ⟨_, rfl⟩
          rw [hY] at HN HNB
          have y0 : Y.cell? ⟨w2.heap.size, 0, none⟩ = some (.string ⟨#[77, 50]⟩) := HN.out.cell 0
          have yf := HN.out.free 0
          have HP : Hid (Box (Y.setCell ⟨w2.heap.size, 0, none⟩ (.string s)) w2.heap.size 31 #[.string s, .int .i32 8, .int .i32 1, .bool false, .slice a 1 ca, .slice b 1 cb, .bool true, .slice c 1 cc, .slice d 1 cd]) := HN.out.set 0 (.string s)
          have HSZ : Hid (w.heap.size ≤ w2.heap.size) := (bt HB1.out hb2.out).size
          have HBY : Hid (Below w.heap.size w (Y.setCell ⟨w2.heap.size, 0, none⟩ (.string s))) := (bt HB1.out (bt hb2.out HNB.out)).setCell (p := ⟨w2.heap.size, 0, none⟩) HSZ.out _
          have HSS : Hid (Sl (Y.setCell ⟨w2.heap.size, 0, none⟩ (.string s)) (.slice a 1 ca) [3] ∧ Sl (Y.setCell ⟨w2.heap.size, 0, none⟩ (.string s)) (.slice b 1 cb) [2] ∧ Sl (Y.setCell ⟨w2.heap.size, 0, none⟩ (.string s)) (.slice c 1 cc) [1] ∧ Sl (Y.setCell ⟨w2.heap.size, 0, none⟩ (.string s)) (.slice d 1 cd) [1]) :=
            ⟨Sl.own (xs := [3]) (own_put1 (owns_later hs2.out.1 HNB.out) _ (fun g hg => Nat.ne_of_lt (hs2.out.1.lt g hg).2) 0 _) (zw 3 (by decide) (by decide)), Sl.own (xs := [2]) (own_put1 (owns_later hs2.out.2.1 HNB.out) _ (fun g hg => Nat.ne_of_lt (hs2.out.2.1.lt g hg).2) 0 _) (zw 2 (by decide) (by decide)), Sl.own (xs := [1]) (own_put1 (owns_later hs2.out.2.2.1 HNB.out) _ (fun g hg => Nat.ne_of_lt (hs2.out.2.2.1.lt g hg).2) 0 _) (zw 1 (by decide) (by decide)), Sl.own (xs := [1]) (own_put1 (owns_later hs2.out.2.2.2 HNB.out) _ (fun g hg => Nat.ne_of_lt (hs2.out.2.2.2.lt g hg).2) 0 _) (zw 1 (by decide) (by decide))⟩
          obtain ⟨Y1, hY1⟩ : ∃ Y1, Y.setCell ⟨w2.heap.size, 0, none⟩ (.string s) = Y1 := ⟨_, rfl⟩
          rw [hY1] at HP HBY HSS
          have HCH : Hid (∀ V, Below Y1.heap.size Y1 V → Calls Tryz.prog 8 #[.agg #[.string s, .int .i32 8, .int .i32 1, .bool false, .slice a 1 ca, .slice b 1 cb, .bool true, .slice c 1 cc, .slice d 1 cd]] V fun e w' => e = .returned (.int .i64 (tchk s.data.toList 8 1 0)) ∧ Below V.heap.size V w') := fun V hv => by
            have h := tCheck_any s 8 1 false a ca [3] b cb [2] true c cc [1] d cd [1] V HM.out z32 (HSS.out.1.later hv) (HSS.out.2.1.later hv) (HSS.out.2.2.1.later hv) (HSS.out.2.2.2.later hv)
            rw [zg] at h
            exact h
          have HNM := hid (tName_any s Y1 HM.out)
          clear hs2 hb2 HSS
          have k0 : Y1.cell? ⟨w2.heap.size, 0, none⟩ = some (.string s) := HP.out.cell 0
          have k1 : Y1.cell? ⟨w2.heap.size, 1, none⟩ = some (.int .i32 8) := HP.out.cell 1
          have k2 : Y1.cell? ⟨w2.heap.size, 2, none⟩ = some (.int .i32 1) := HP.out.cell 2
          have k3 : Y1.cell? ⟨w2.heap.size, 3, none⟩ = some (.bool false) := HP.out.cell 3
          have k4 : Y1.cell? ⟨w2.heap.size, 4, none⟩ = some (.slice a 1 ca) := HP.out.cell 4
          have k5 : Y1.cell? ⟨w2.heap.size, 5, none⟩ = some (.slice b 1 cb) := HP.out.cell 5
          have k6 : Y1.cell? ⟨w2.heap.size, 6, none⟩ = some (.bool true) := HP.out.cell 6
          have k7 : Y1.cell? ⟨w2.heap.size, 7, none⟩ = some (.slice c 1 cc) := HP.out.cell 7
          have k8 : Y1.cell? ⟨w2.heap.size, 8, none⟩ = some (.slice d 1 cd) := HP.out.cell 8
          rw [HTN.out] at HNM
          have e0 : tchk s.data.toList 8 1 0 = 0 := by rw [tchk_rest _ _ _ HTN.out, zo, fstE_zero]
          rw [e0] at HCH
          clear e0
          go_wp2_with fail
          refine Calls.mono HNM.out ?_
          rintro e w3 ⟨rfl, rfl⟩
          go_wp2_with fail
          refine Calls.mono (HCH.out _ (Below.refl _ _)) ?_
          rintro e w3 ⟨rfl, hb3⟩
          have HB3 := hid (bt HBY.out hb3)
          clear hb3 HCH HNM k0 k1 k2 k3 k4 k5 k6 k7 k8
          go_wp2_with fail
          go_ret
          exact ⟨rfl, HB3.out⟩
        | false =>
          go_wp2_with fail
          refine Calls.mono (texample_any w1) ?_
          rintro e w2 ⟨a, ca, b, cb, c, cc, d, cd, rfl, hs2, hb2⟩
          have HN := hid (Box.made w2 31 #[.string ⟨#[77, 50]⟩, .int .i32 8, .int .i32 1, .bool false, .slice a 1 ca, .slice b 1 cb, .bool true, .slice c 1 cc, .slice d 1 cd])
          have HNB := hid (alloc_later w2 (.cells #[.string ⟨#[77, 50]⟩, .int .i32 8, .int .i32 1, .bool false, .slice a 1 ca, .slice b 1 cb, .bool true, .slice c 1 cc, .slice d 1 cd] 31))
          obtain ⟨Y, hY⟩ : ∃ Y, w2.alloc (.cells #[.string ⟨#[77, 50]⟩, .int .i32 8, .int .i32 1, .bool false, .slice a 1 ca, .slice b 1 cb, .bool true, .slice c 1 cc, .slice d 1 cd] 31) = Y := ⟨_, rfl⟩
          rw [hY] at HN HNB
          have y0 : Y.cell? ⟨w2.heap.size, 0, none⟩ = some (.string ⟨#[77, 50]⟩) := HN.out.cell 0
          have yf := HN.out.free 0
          have HP : Hid (Box (Y.setCell ⟨w2.heap.size, 0, none⟩ (.string s)) w2.heap.size 31 #[.string s, .int .i32 8, .int .i32 1, .bool false, .slice a 1 ca, .slice b 1 cb, .bool true, .slice c 1 cc, .slice d 1 cd]) := HN.out.set 0 (.string s)
          have HSZ : Hid (w.heap.size ≤ w2.heap.size) := (bt HB1.out hb2.out).size
          have HBY : Hid (Below w.heap.size w (Y.setCell ⟨w2.heap.size, 0, none⟩ (.string s))) := (bt HB1.out (bt hb2.out HNB.out)).setCell (p := ⟨w2.heap.size, 0, none⟩) HSZ.out _
          have HSS : Hid (Sl (Y.setCell ⟨w2.heap.size, 0, none⟩ (.string s)) (.slice a 1 ca) [3] ∧ Sl (Y.setCell ⟨w2.heap.size, 0, none⟩ (.string s)) (.slice b 1 cb) [2] ∧ Sl (Y.setCell ⟨w2.heap.size, 0, none⟩ (.string s)) (.slice c 1 cc) [1] ∧ Sl (Y.setCell ⟨w2.heap.size, 0, none⟩ (.string s)) (.slice d 1 cd) [1]) :=
            ⟨Sl.own (xs := [3]) (own_put1 (owns_later hs2.out.1 HNB.out) _ (fun g hg => Nat.ne_of_lt (hs2.out.1.lt g hg).2) 0 _) (zw 3 (by decide) (by decide)), Sl.own (xs := [2]) (own_put1 (owns_later hs2.out.2.1 HNB.out) _ (fun g hg => Nat.ne_of_lt (hs2.out.2.1.lt g hg).2) 0 _) (zw 2 (by decide) (by decide)), Sl.own (xs := [1]) (own_put1 (owns_later hs2.out.2.2.1 HNB.out) _ (fun g hg => Nat.ne_of_lt (hs2.out.2.2.1.lt g hg).2) 0 _) (zw 1 (by decide) (by decide)), Sl.own (xs := [1]) (own_put1 (owns_later hs2.out.2.2.2 HNB.out) _ (fun g hg => Nat.ne_of_lt (hs2.out.2.2.2.lt g hg).2) 0 _) (zw 1 (by decide) (by decide))⟩
          obtain ⟨Y1, hY1⟩ : ∃ Y1, Y.setCell ⟨w2.heap.size, 0, none⟩ (.string s) = Y1 := ⟨_, rfl⟩
          rw [hY1] at HP HBY HSS
          have HCH : Hid (∀ V, Below Y1.heap.size Y1 V → Calls Tryz.prog 8 #[.agg #[.string s, .int .i32 8, .int .i32 1, .bool false, .slice a 1 ca, .slice b 1 cb, .bool true, .slice c 1 cc, .slice d 1 cd]] V fun e w' => e = .returned (.int .i64 (tchk s.data.toList 8 1 0)) ∧ Below V.heap.size V w') := fun V hv => by
            have h := tCheck_any s 8 1 false a ca [3] b cb [2] true c cc [1] d cd [1] V HM.out z32 (HSS.out.1.later hv) (HSS.out.2.1.later hv) (HSS.out.2.2.1.later hv) (HSS.out.2.2.2.later hv)
            rw [zg] at h
            exact h
          have HNM := hid (tName_any s Y1 HM.out)
          clear hs2 hb2 HSS
          have k0 : Y1.cell? ⟨w2.heap.size, 0, none⟩ = some (.string s) := HP.out.cell 0
          have k1 : Y1.cell? ⟨w2.heap.size, 1, none⟩ = some (.int .i32 8) := HP.out.cell 1
          have k2 : Y1.cell? ⟨w2.heap.size, 2, none⟩ = some (.int .i32 1) := HP.out.cell 2
          have k3 : Y1.cell? ⟨w2.heap.size, 3, none⟩ = some (.bool false) := HP.out.cell 3
          have k4 : Y1.cell? ⟨w2.heap.size, 4, none⟩ = some (.slice a 1 ca) := HP.out.cell 4
          have k5 : Y1.cell? ⟨w2.heap.size, 5, none⟩ = some (.slice b 1 cb) := HP.out.cell 5
          have k6 : Y1.cell? ⟨w2.heap.size, 6, none⟩ = some (.bool true) := HP.out.cell 6
          have k7 : Y1.cell? ⟨w2.heap.size, 7, none⟩ = some (.slice c 1 cc) := HP.out.cell 7
          have k8 : Y1.cell? ⟨w2.heap.size, 8, none⟩ = some (.slice d 1 cd) := HP.out.cell 8
          rw [HTN.out] at HNM
          have e0 : tchk s.data.toList 8 1 0 = 4 := tchk_name _ _ _ HTN.out
          rw [e0] at HCH
          clear e0
          go_wp2_with fail
          refine Calls.mono HNM.out ?_
          rintro e w3 ⟨rfl, rfl⟩
          go_wp2_with fail
          refine Calls.mono (HCH.out _ (Below.refl _ _)) ?_
          rintro e w3 ⟨rfl, hb3⟩
          have HB3 := hid (bt HBY.out hb3)
          have HP3 := hid (HP.out.later hb3 HP.out.lt)
          have HC3 := hid (HCH.out w3 hb3)
          clear hb3 HCH HNM k0 k1 k2 k3 k4 k5 k6 k7 k8
          have k0 : w3.cell? ⟨w2.heap.size, 0, none⟩ = some (.string s) := HP3.out.cell 0
          have k1 : w3.cell? ⟨w2.heap.size, 1, none⟩ = some (.int .i32 8) := HP3.out.cell 1
          have k2 : w3.cell? ⟨w2.heap.size, 2, none⟩ = some (.int .i32 1) := HP3.out.cell 2
          have k3 : w3.cell? ⟨w2.heap.size, 3, none⟩ = some (.bool false) := HP3.out.cell 3
          have k4 : w3.cell? ⟨w2.heap.size, 4, none⟩ = some (.slice a 1 ca) := HP3.out.cell 4
          have k5 : w3.cell? ⟨w2.heap.size, 5, none⟩ = some (.slice b 1 cb) := HP3.out.cell 5
          have k6 : w3.cell? ⟨w2.heap.size, 6, none⟩ = some (.bool true) := HP3.out.cell 6
          have k7 : w3.cell? ⟨w2.heap.size, 7, none⟩ = some (.slice c 1 cc) := HP3.out.cell 7
          have k8 : w3.cell? ⟨w2.heap.size, 8, none⟩ = some (.slice d 1 cd) := HP3.out.cell 8
          go_wp2_with fail
          refine Calls.mono HC3.out ?_
          rintro e w4 ⟨rfl, hb4⟩
          have HB4 := hid (bt HB3.out hb4)
          clear hb4 HC3 k0 k1 k2 k3 k4 k5 k6 k7 k8
          go_wp2_with fail
          go_ret
          exact ⟨rfl, HB4.out⟩
end Go.Proofs.YtmgjkdijnjeljaaGreatDoor

