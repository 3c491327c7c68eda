/- My texts on the way to TideBack, one behind the other: contracts of the program and of the document's answers. -/
import Derived.Test.YtiaebiaeolaocaaGreatDoorJ2
import Derived.Test.YtiaebiaeolaocaaGreatDoorJ3
import Derived.Test.YtiaebiaeolaocaaGreatDoorJ4
import Derived.Test.YtiaebiaeolaocaaGreatDoorJ5
import Derived.Test.YtiaebiaeolaocaaGreatDoorShelf
import Derived.Lib.IndexBytes
import Derived.Lib.CutLaws
import Derived.Shelf.RegionOpenPlain
import Derived.Lib.AtoiErrMem
import Derived.Lib.ItoaLen
import Derived.Lib.AtoiAllCases
/- strings.Cut at one byte. -/
namespace Go.Proofs.YtiaebiaeolaocaaGreatDoor
open Go.RowKit Go.Lib
set_option linter.unusedVariables false
set_option linter.unusedSimpArgs false

set_option maxHeartbeats 1600000 in
set_option maxRecDepth 100000 in
theorem zcut0_any (s : ByteArray) (c : UInt8) (w : World) (hs : s.size ≤ 281474976710656) :
    Calls Tryz.prog 43 #[.string s, .string ⟨#[c]⟩] w fun e w' => e = .returned (.tuple #[.string ⟨(Lib.cut s.data.toList [c]).1.toArray⟩, .string ⟨(Lib.cut s.data.toList [c]).2.1.toArray⟩, .bool (Lib.cut s.data.toList [c]).2.2]) ∧ Below w.heap.size w w' := by
  have HI := hid (Tryz.stringslite_Index_one s c w)
  rw [← Lib.index_one] at HI
  rcases Lib.indexB_cases s ⟨#[c]⟩ with hix | ⟨i, hix, hroom⟩
  · obtain ⟨e1, e2, e3⟩ := Lib.cutB_miss s ⟨#[c]⟩ hix
    have e1' : (⟨(Lib.cut s.data.toList [c]).1.toArray⟩ : ByteArray) = _ := e1
    have e2' : (⟨(Lib.cut s.data.toList [c]).2.1.toArray⟩ : ByteArray) = _ := e2
    have e3' : (Lib.cut s.data.toList [c]).2.2 = _ := e3
    have hix' : Lib.index s.data.toList [c] = -1 := hix
    rw [hix'] at HI
    rw [e1', e2', e3']
    clear e1 e2 e3 e1' e2' e3' hix hix'
    go_enter Tryz.func43, Tryz.ntmps43
    go_wp2_with fail
    refine Calls.mono HI.out ?_
    rintro e w1 ⟨rfl, rfl⟩
    go_wp2_with fail
    go_returns
    exact ⟨rfl, Below.refl _ _⟩
  · obtain ⟨e1, e2, e3⟩ := Lib.cutB_hit s ⟨#[c]⟩ i hix
    have e1' : (⟨(Lib.cut s.data.toList [c]).1.toArray⟩ : ByteArray) = _ := e1
    have e2' : (⟨(Lib.cut s.data.toList [c]).2.1.toArray⟩ : ByteArray) = _ := e2
    have e3' : (Lib.cut s.data.toList [c]).2.2 = _ := e3
    have hix' : Lib.index s.data.toList [c] = (i : Int) := hix
    rw [hix'] at HI
    rw [e1', e2', e3']
    have hr : i + 1 ≤ s.size := hroom
    have c1 : (0 : Int) ≤ ↑i := by omega
    have c2 : (↑i : Int) ≤ ↑s.size := by omega
    have c3 : (0 : Int) ≤ ↑i + 1 := by omega
    have c4 : (↑i + 1 : Int) ≤ ↑s.size := by omega
    have hw : IntKind.i64.wrap ((i : Int) + 1) = (i : Int) + 1 := by rw [IntKind.wrap_i64]; omega
    have ht : ((i : Int) + 1).toNat = i + 1 := by omega
    clear e1 e2 e3 e1' e2' e3' hix hix' hroom
    go_enter Tryz.func43, Tryz.ntmps43
    go_wp2_with fail
    refine Calls.mono HI.out ?_
    rintro e w1 ⟨rfl, rfl⟩
    go_wp2_with fail
    go_region
    go_wp2_with fail
    go_returns
    exact ⟨rfl, (Below.refl _ _).drew⟩
set_option maxHeartbeats 1600000 in
set_option maxRecDepth 100000 in
theorem zcut_any (s : ByteArray) (c : UInt8) (w : World) (hs : s.size ≤ 281474976710656) :
    Calls Tryz.prog 20 #[.string s, .string ⟨#[c]⟩] w fun e w' => e = .returned (.tuple #[.string ⟨(Lib.cut s.data.toList [c]).1.toArray⟩, .string ⟨(Lib.cut s.data.toList [c]).2.1.toArray⟩, .bool (Lib.cut s.data.toList [c]).2.2]) ∧ Below w.heap.size w w' := by
  have HC := hid (zcut0_any s c w hs)
  generalize (Lib.cut s.data.toList [c]).1.toArray = A at *
  generalize (Lib.cut s.data.toList [c]).2.1.toArray = B at *
  generalize (Lib.cut s.data.toList [c]).2.2 = C at *
  go_enter Tryz.func20, Tryz.ntmps20
  go_wp2_with fail
  refine Calls.mono HC.out ?_
  rintro e w1 ⟨rfl, hb⟩
  go_wp2_with fail
  go_returns
  exact ⟨rfl, hb⟩
theorem zcut_len (l : List UInt8) (c : UInt8) : (Lib.cut l [c]).1.length ≤ l.length ∧ (Lib.cut l [c]).2.1.length ≤ l.length := by
  unfold Lib.cut
  split
  · simp
    omega
  · simp
end Go.Proofs.YtiaebiaeolaocaaGreatDoor

/- Complex fractions: gauss.Parse: of any text. -/
namespace Go.Proofs.YtiaebiaeolaocaaGreatDoor
open Go.RowKit Go.Lib
set_option linter.unusedVariables false

/-- A complex fraction told in new memory, all four rows apart. -/
def GToldC (w : World) (E : Int) (L : Prop) (q1 q2 : Rat) (x : Ending) (w' : World) : Prop :=
  ∃ n a ca xs b cb ys m c cc us d cd vs code, x = .returned (.tuple #[.agg #[.bool n, .slice a (List.length xs) ca, .slice b (List.length ys) cb, .bool m, .slice c (List.length us) cc, .slice d (List.length vs) cd], .int .i64 code]) ∧ (w'.ownsRow w.heap.size 115 1 (.slice a xs.length ca) xs.length (xs.map (Value.int .u32)) ∧ w'.ownsRow w.heap.size 115 1 (.slice b ys.length cb) ys.length (ys.map (Value.int .u32)) ∧ w'.ownsRow w.heap.size 115 1 (.slice c us.length cc) us.length (us.map (Value.int .u32)) ∧ w'.ownsRow w.heap.size 115 1 (.slice d vs.length cd) vs.length (vs.map (Value.int .u32))) ∧ GTells E L q1 q2 n xs ys m us vs code ∧ Below w.heap.size w w' ∧ ∃ W1, Cut w (.slice a xs.length ca) (.slice b ys.length cb) W1 ∧ Cut W1 (.slice c us.length cc) (.slice d vs.length cd) w'
theorem GToldC.told {w w' : World} {E : Int} {L : Prop} {q1 q2 : Rat} {x : Ending} (h : GToldC w E L q1 q2 x w') : GTold w E L q1 q2 x w' := by
  obtain ⟨n, a, ca, xs, b, cb, ys, m, c, cc, us, d, cd, vs, code, e, o, t, hb, _⟩ := h
  exact ⟨n, a, ca, xs, b, cb, ys, m, c, cc, us, d, cd, vs, code, e, o, t, hb⟩
theorem cut_nil (w w' : World) (h : w.heap.size ≤ w'.heap.size) : Cut w (.slice none 0 0) (.slice none 0 0) w' := ⟨w.heap.size, Nat.le_refl _, h, fun g hg => by simp [Value.ownBlock] at hg, fun g hg => by simp [Value.ownBlock] at hg⟩
theorem gtoldc_zero {w W : World} {E : Int} {L : Prop} {q1 q2 : Rat} {code : Int} (h : E ≠ 0 ∧ code = E ∨ E = 0 ∧ L ∧ code = 3) (hb : Below w.heap.size w W) : GToldC w E L q1 q2 (.returned (.tuple #[.agg #[.bool false, .slice none 0 0, .slice none 0 0, .bool false, .slice none 0 0, .slice none 0 0], .int .i64 code])) W := by
  refine ⟨false, none, 0, [], none, 0, [], false, none, 0, [], none, 0, [], code, rfl, ⟨World.ownsRow_nil _ _ _ _, World.ownsRow_nil _ _ _ _, World.ownsRow_nil _ _ _ _, World.ownsRow_nil _ _ _ _⟩, ⟨⟨Wd.nil, Wd.nil, Wd.nil, Wd.nil⟩, fun he => ⟨⟨rfl, rfl, rfl, rfl, rfl, rfl⟩, ?_⟩, fun he hl => ⟨⟨rfl, rfl, rfl, rfl, rfl, rfl⟩, ?_⟩, fun he hl => ?_⟩, hb, W, cut_nil _ _ hb.size, cut_nil _ _ (Nat.le_refl _)⟩
  · rcases h with h | h
    · exact h.2
    · exact absurd h.1 he
  · rcases h with h | h
    · exact absurd he h.1
    · exact h.2.2
  · rcases h with h | h
    · exact absurd he h.1
    · exact absurd h.2.1 hl

/-- The two pieces of a text. -/
def gp1 (l : List UInt8) : List UInt8 := (Lib.cut l [32]).1
def gp2 (l : List UInt8) : List UInt8 := (Lib.cut l [32]).2.1
def ggood (l : List UInt8) : Prop := rgood (gp1 l) ∧ rgood (gp2 l)
def gplong (l : List UInt8) : Prop := rlong (rpq (gp1 l)) ∨ rlong (rpq (gp2 l))
open Classical in
/-- What is refused of a text, but for numbers that are too long. -/
noncomputable def gpE (s : ByteArray) : Int := if 65536 < s.size then 3 else if ggood s.data.toList then 0 else 140
theorem gpE_long {s : ByteArray} (h : 65536 < s.size) : gpE s = 3 := by unfold gpE; rw [if_pos h]
theorem gpE_good {s : ByteArray} (hs : s.size ≤ 65536) (h : ggood s.data.toList) : gpE s = 0 := by unfold gpE; rw [if_neg (by omega), if_pos h]
theorem gpE_bad {s : ByteArray} (hs : s.size ≤ 65536) (h : ¬ ggood s.data.toList) : gpE s = 140 := by unfold gpE; rw [if_neg (by omega), if_neg h]
/-- The codes of both pieces, and what is told of them. -/
theorem gpar_codes {l1 l2 : List UInt8} (z1 : l1.length ≤ 65536) (z2 : l2.length ≤ 65536) {n m : Bool} {xs ys us vs : List Int} {c1 c2 : Int} (h1 : RTells (prErr ⟨l1.toArray⟩) (rpq l1) n xs ys c1) (h2 : RTells (prErr ⟨l2.toArray⟩) (rpq l2) m us vs c2) :
    (c1 = 130 ∧ ¬ (rgood l1 ∧ rgood l2)) ∨ (c1 ≠ 130 ∧ c2 = 130 ∧ ¬ (rgood l1 ∧ rgood l2)) ∨ ((rgood l1 ∧ rgood l2) ∧ c1 = 3 ∧ c2 ≠ 130 ∧ (rlong (rpq l1) ∨ rlong (rpq l2))) ∨ ((rgood l1 ∧ rgood l2) ∧ c1 = 0 ∧ c2 = 3 ∧ (rlong (rpq l1) ∨ rlong (rpq l2))) ∨ ((rgood l1 ∧ rgood l2) ∧ c1 = 0 ∧ c2 = 0 ∧ ¬ (rlong (rpq l1) ∨ rlong (rpq l2)) ∧ (rchk n xs ys = 0 ∧ rq n xs ys = rpq l1) ∧ rchk m us vs = 0 ∧ rq m us vs = rpq l2) := by
  have s1 : (⟨l1.toArray⟩ : ByteArray).size ≤ 65536 := by show l1.toArray.size ≤ 65536; simpa using z1
  have s2 : (⟨l2.toArray⟩ : ByteArray).size ≤ 65536 := by show l2.toArray.size ≤ 65536; simpa using z2
  have g1 : (⟨l1.toArray⟩ : ByteArray).data.toList = l1 := by simp
  have g2 : (⟨l2.toArray⟩ : ByteArray).data.toList = l2 := by simp
  have c2f : ¬ rgood l2 → c2 = 130 := fun h => by
    have e := prErr_bad s2 (by rw [g2]; exact h)
    rw [e] at h2
    exact (h2.bad (by decide)).2.2.2
  have c2t : rgood l2 → (c2 = 3 ∧ rlong (rpq l2)) ∨ (c2 = 0 ∧ ¬ rlong (rpq l2) ∧ rchk m us vs = 0 ∧ rq m us vs = rpq l2) := fun h => by
    have e := prErr_good s2 (by rw [g2]; exact h)
    rw [e] at h2
    by_cases hl : rlong (rpq l2)
    · exact .inl ⟨(h2.long rfl hl).2.2.2, hl⟩
    · exact .inr ⟨(h2.good rfl hl).1, hl, (h2.good rfl hl).2⟩
  by_cases k1 : rgood l1
  · have e := prErr_good s1 (by rw [g1]; exact k1)
    rw [e] at h1
    by_cases k2 : rgood l2
    · rcases c2t k2 with ⟨d, hl2⟩ | ⟨d, hl2, hk⟩
      · by_cases hl : rlong (rpq l1)
        · exact .inr (.inr (.inl ⟨⟨k1, k2⟩, (h1.long rfl hl).2.2.2, by omega, .inl hl⟩))
        · exact .inr (.inr (.inr (.inl ⟨⟨k1, k2⟩, (h1.good rfl hl).1, d, .inr hl2⟩)))
      · by_cases hl : rlong (rpq l1)
        · exact .inr (.inr (.inl ⟨⟨k1, k2⟩, (h1.long rfl hl).2.2.2, by omega, .inl hl⟩))
        · exact .inr (.inr (.inr (.inr ⟨⟨k1, k2⟩, (h1.good rfl hl).1, d, fun h => h.elim hl hl2, (h1.good rfl hl).2, hk⟩)))
    · refine .inr (.inl ⟨?_, c2f k2, fun h => k2 h.2⟩)
      by_cases hl : rlong (rpq l1)
      · have := (h1.long rfl hl).2.2.2; omega
      · have := (h1.good rfl hl).1; omega
  · have e := prErr_bad s1 (by rw [g1]; exact k1)
    rw [e] at h1
    exact .inl ⟨(h1.bad (by decide)).2.2.2, fun h => k1 h.1⟩

set_option maxHeartbeats 1600000 in
set_option maxRecDepth 100000 in
theorem gParse_long (s : ByteArray) (w : World) (hs : 65536 < s.size) (hm : s.size ≤ 281474976710656) (L : Prop) (q1 q2 : Rat) : Calls Tryz.prog 22 #[.string s] w (GToldC w 3 L q1 q2) := by
  have HX := hid (Box.made w 28 #[.bool false, .slice none 0 0, .slice none 0 0, .bool false, .slice none 0 0, .slice none 0 0])
  have HB := hid (alloc_later w (.cells #[.bool false, .slice none 0 0, .slice none 0 0, .bool false, .slice none 0 0, .slice none 0 0] 28))
  obtain ⟨X, hX⟩ : ∃ X, w.alloc (.cells #[.bool false, .slice none 0 0, .slice none 0 0, .bool false, .slice none 0 0, .slice none 0 0] 28) = X := ⟨_, rfl⟩
  rw [hX] at HX HB
  have m0 : X.cell? ⟨w.heap.size, 0, none⟩ = some (.bool false) := HX.out.cell 0
  have m1 : X.cell? ⟨w.heap.size, 1, none⟩ = some (.slice none 0 0) := HX.out.cell 1
  have m2 : X.cell? ⟨w.heap.size, 2, none⟩ = some (.slice none 0 0) := HX.out.cell 2
  have m3 : X.cell? ⟨w.heap.size, 3, none⟩ = some (.bool false) := HX.out.cell 3
  have m4 : X.cell? ⟨w.heap.size, 4, none⟩ = some (.slice none 0 0) := HX.out.cell 4
  have m5 : X.cell? ⟨w.heap.size, 5, none⟩ = some (.slice none 0 0) := HX.out.cell 5
  have f0 := HX.out.free 0
  have f1 := HX.out.free 1
  have f2 := HX.out.free 2
  have f3 := HX.out.free 3
  have f4 := HX.out.free 4
  have f5 := HX.out.free 5
  have hs' : (65536 : Int) < (s.size : Int) := by omega
  clear hs
  go_enter Tryz.func22, Tryz.ntmps22
  go_wp2_with fail
  have B1 := box_put6 HX.out (.bool false) (.slice none 0 0) (.slice none 0 0) (.bool false) (.slice none 0 0) (.slice none 0 0)
  have G1 := below_put6 HB.out w.heap.size (Nat.le_refl _) (.bool false) (.slice none 0 0) (.slice none 0 0) (.bool false) (.slice none 0 0) (.slice none 0 0)
  clear m0 m1 m2 m3 m4 m5 f0 f1 f2 f3 f4 f5
  exact bodyPost_ret (gres_run (by rfl) B1 _ rfl) rfl (gtoldc_zero (E := 3) (.inl ⟨by decide, rfl⟩) G1)

set_option maxHeartbeats 3200000 in
set_option maxRecDepth 100000 in
theorem gParse_any (s : ByteArray) (w : World) (hm : s.size ≤ 281474976710656) : Calls Tryz.prog 22 #[.string s] w (GToldC w (gpE s) (gplong s.data.toList) (rpq (gp1 s.data.toList)) (rpq (gp2 s.data.toList))) := by
  by_cases hs : 65536 < s.size
  · rw [gpE_long hs]
    exact gParse_long s w hs hm _ _ _
  have HX := hid (Box.made w 28 #[.bool false, .slice none 0 0, .slice none 0 0, .bool false, .slice none 0 0, .slice none 0 0])
  have HB := hid (alloc_later w (.cells #[.bool false, .slice none 0 0, .slice none 0 0, .bool false, .slice none 0 0, .slice none 0 0] 28))
  obtain ⟨X, hX⟩ : ∃ X, w.alloc (.cells #[.bool false, .slice none 0 0, .slice none 0 0, .bool false, .slice none 0 0, .slice none 0 0] 28) = X := ⟨_, rfl⟩
  rw [hX] at HX HB
  have hs' : ¬ (65536 : Int) < (s.size : Int) := by omega
  have HC := hid (zcut_any s 32 X hm)
  have hl : s.data.toList.length = s.size := Array.length_toList
  have hz1 : (Lib.cut s.data.toList [32]).1.length ≤ 65536 := by have := (zcut_len s.data.toList 32).1; omega
  have hz2 : (Lib.cut s.data.toList [32]).2.1.length ≤ 65536 := by have := (zcut_len s.data.toList 32).2; omega
  have HEG : Hid (ggood s.data.toList → gpE s = 0) := gpE_good (by omega)
  have HEB : Hid (¬ ggood s.data.toList → gpE s = 140) := gpE_bad (by omega)
  have HGG : Hid (ggood s.data.toList ↔ (rgood (gp1 s.data.toList) ∧ rgood (gp2 s.data.toList))) := Iff.rfl
  have HLL : Hid (gplong s.data.toList ↔ (rlong (rpq (gp1 s.data.toList)) ∨ rlong (rpq (gp2 s.data.toList)))) := Iff.rfl
  have e1 : gp1 s.data.toList = (Lib.cut s.data.toList [32]).1 := rfl
  have e2 : gp2 s.data.toList = (Lib.cut s.data.toList [32]).2.1 := rfl
  rw [← e1] at hz1 HC
  rw [← e2] at hz2 HC
  clear e1 e2 hl hs
  generalize gp1 s.data.toList = l1 at *
  generalize gp2 s.data.toList = l2 at *
  generalize ggood s.data.toList = GG at *
  generalize gplong s.data.toList = GL at *
  generalize gpE s = E at *
  have H1 : Hid (∀ V, Calls Tryz.prog 45 #[.string ⟨l1.toArray⟩] V (RToldA V (prErr ⟨l1.toArray⟩) (rpq l1))) := fun V => rparse_any ⟨l1.toArray⟩ V (by show l1.toArray.size ≤ 65536; simpa using hz1)
  have H2 : Hid (∀ V, Calls Tryz.prog 45 #[.string ⟨l2.toArray⟩] V (RToldA V (prErr ⟨l2.toArray⟩) (rpq l2))) := fun V => rparse_any ⟨l2.toArray⟩ V (by show l2.toArray.size ≤ 65536; simpa using hz2)
  have HP : Hid (∀ {n m : Bool} {xs ys us vs : List Int} {c1 c2 : Int}, RTells (prErr ⟨l1.toArray⟩) (rpq l1) n xs ys c1 → RTells (prErr ⟨l2.toArray⟩) (rpq l2) m us vs c2 → _) := fun h1 h2 => gpar_codes hz1 hz2 h1 h2
  generalize prErr ⟨l1.toArray⟩ = p1 at *
  generalize prErr ⟨l2.toArray⟩ = p2 at *
  generalize rpq l1 = q1 at *
  generalize rpq l2 = q2 at *
  generalize (rgood l1 ∧ rgood l2) = GD at *
  generalize (Lib.cut s.data.toList [32]).2.2 = fnd at *
  generalize l1.toArray = A1 at *
  generalize l2.toArray = A2 at *
  clear hz1 hz2
  go_enter Tryz.func22, Tryz.ntmps22
  go_wp2_with fail
  refine Calls.mono HC.out ?_
  rintro e w1 ⟨rfl, hb1⟩
  have HW1 := hid (bt HB.out hb1)
  have HR1 := hid (HX.out.later hb1 HX.out.lt)
  clear hb1 HC
  go_wp2_with fail
  refine Calls.mono (H1.out _) ?_
  rintro x w2 ⟨n, v, xs, u, ys, code1, rfl, ov1, ou1, ht1, hb2, hcut1⟩
  obtain ⟨av1, cv1, rfl⟩ := own_slice' ov1
  obtain ⟨au1, cu1, rfl⟩ := own_slice' ou1
  have HW2 := hid (bt HW1.out hb2)
  have HR2 := hid (HR1.out.later hb2 HR1.out.lt)
  have HN := hid (Box.made w2 26 #[.bool n, .slice av1 xs.length cv1, .slice au1 ys.length cu1])
  have HNB := hid (alloc_later w2 (.cells #[.bool n, .slice av1 xs.length cv1, .slice au1 ys.length cu1] 26))
  obtain ⟨Z, hZ⟩ : ∃ Z, w2.alloc (.cells #[.bool n, .slice av1 xs.length cv1, .slice au1 ys.length cu1] 26) = Z := ⟨_, rfl⟩
  rw [hZ] at HN HNB
  have HV1 := hid ov1
  have HU1 := hid ou1
  have HT1 := hid ht1
  have HC1 := hid hcut1
  have h12 : w1.heap.size ≤ w2.heap.size := hb2.size
  clear ov1 ou1 ht1 hcut1 hb2 H1
  go_wp2_with fail
  refine Calls.mono (H2.out _) ?_
  rintro x w3 ⟨m, v, us, u, vs, code2, rfl, ov2, ou2, ht2, hb3, hcut2⟩
  obtain ⟨av2, cv2, rfl⟩ := own_slice' ov2
  obtain ⟨au2, cu2, rfl⟩ := own_slice' ou2
  have HM := hid (Box.made w3 26 #[.bool m, .slice av2 us.length cv2, .slice au2 vs.length cu2])
  have HMB := hid (alloc_later w3 (.cells #[.bool m, .slice av2 us.length cv2, .slice au2 vs.length cu2] 26))
  obtain ⟨Q, hQ⟩ : ∃ Q, w3.alloc (.cells #[.bool m, .slice av2 us.length cv2, .slice au2 vs.length cu2] 26) = Q := ⟨_, rfl⟩
  rw [hQ] at HM HMB
  have hb2Q : Below w2.heap.size w2 Q := bt HNB.out (bt hb3 HMB.out)
  have HW3 := hid (bt HW2.out hb2Q)
  have HR3 := hid (HR2.out.later hb2Q HR2.out.lt)
  have HN3 := hid (HN.out.later (bt hb3 HMB.out) HN.out.lt)
  have HOO := hid (And.intro (owns_later HV1.out hb2Q) (And.intro (owns_later HU1.out hb2Q) (And.intro (owns_later ov2 HMB.out) (owns_later ou2 HMB.out))))
  have HC2 : Hid (Cut w2 (.slice av2 us.length cv2) (.slice au2 vs.length cu2) Q) := hcut2.up HNB.out.size HMB.out.size
  have HTT := hid (HP.out HT1.out ht2)
  have HWD := hid (And.intro HT1.out.wx (And.intro HT1.out.wy (And.intro ht2.wx ht2.wy)))
  have hsz1 : w.heap.size ≤ w1.heap.size := HW1.out.size
  have hszZ : w2.heap.size ≤ Z.heap.size := HNB.out.size
  clear ov2 ou2 ht2 hcut2 H2 HP hb2Q hb3 HT1
  have m0 : Q.cell? ⟨w.heap.size, 0, none⟩ = some (.bool false) := HR3.out.cell 0
  have m1 : Q.cell? ⟨w.heap.size, 1, none⟩ = some (.slice none 0 0) := HR3.out.cell 1
  have m2 : Q.cell? ⟨w.heap.size, 2, none⟩ = some (.slice none 0 0) := HR3.out.cell 2
  have m3 : Q.cell? ⟨w.heap.size, 3, none⟩ = some (.bool false) := HR3.out.cell 3
  have m4 : Q.cell? ⟨w.heap.size, 4, none⟩ = some (.slice none 0 0) := HR3.out.cell 4
  have m5 : Q.cell? ⟨w.heap.size, 5, none⟩ = some (.slice none 0 0) := HR3.out.cell 5
  have f0 := HR3.out.free 0
  have f1 := HR3.out.free 1
  have f2 := HR3.out.free 2
  have f3 := HR3.out.free 3
  have f4 := HR3.out.free 4
  have f5 := HR3.out.free 5
  rcases HTT.out with ⟨rfl, hg⟩ | ⟨d1, rfl, hg⟩ | ⟨hg, rfl, d2, hL⟩ | ⟨hg, rfl, rfl, hL⟩ | ⟨hg, rfl, rfl, hL, hk⟩
  · have HE := hid (HEB.out (fun h => hg (HGG.out.1 h)))
    clear HTT
    go_wp2_with fail
    have B1 := box_put6 HR3.out (.bool false) (.slice none 0 0) (.slice none 0 0) (.bool false) (.slice none 0 0) (.slice none 0 0)
    have G1 := below_put6 HW3.out w.heap.size (Nat.le_refl _) (.bool false) (.slice none 0 0) (.slice none 0 0) (.bool false) (.slice none 0 0) (.slice none 0 0)
    clear m0 m1 m2 m3 m4 m5 f0 f1 f2 f3 f4 f5
    exact bodyPost_ret (gres_run (by rfl) B1 _ rfl) rfl (gtoldc_zero (E := E) (.inl ⟨by rw [HE.out]; decide, HE.out.symm⟩) G1)
  · have HE := hid (HEB.out (fun h => hg (HGG.out.1 h)))
    have d1' : (code1 == 130) = false := by simp [d1]
    clear d1
    clear HTT
    go_wp2_with fail
    have B1 := box_put6 HR3.out (.bool false) (.slice none 0 0) (.slice none 0 0) (.bool false) (.slice none 0 0) (.slice none 0 0)
    have G1 := below_put6 HW3.out w.heap.size (Nat.le_refl _) (.bool false) (.slice none 0 0) (.slice none 0 0) (.bool false) (.slice none 0 0) (.slice none 0 0)
    clear m0 m1 m2 m3 m4 m5 f0 f1 f2 f3 f4 f5
    exact bodyPost_ret (gres_run (by rfl) B1 _ rfl) rfl (gtoldc_zero (E := E) (.inl ⟨by rw [HE.out]; decide, HE.out.symm⟩) G1)
  · have HE := hid (HEG.out (HGG.out.2 hg))
    have d2' : (code2 == 130) = false := by simp [d2]
    have HLo := hid (HLL.out.2 hL)
    clear d2 hL hg
    clear HTT
    go_wp2_with fail
    have B1 := box_put6 HR3.out (.bool false) (.slice none 0 0) (.slice none 0 0) (.bool false) (.slice none 0 0) (.slice none 0 0)
    have G1 := below_put6 HW3.out w.heap.size (Nat.le_refl _) (.bool false) (.slice none 0 0) (.slice none 0 0) (.bool false) (.slice none 0 0) (.slice none 0 0)
    clear m0 m1 m2 m3 m4 m5 f0 f1 f2 f3 f4 f5
    exact bodyPost_ret (gres_run (by rfl) B1 _ rfl) rfl (gtoldc_zero (E := E) (.inr ⟨HE.out, HLo.out, rfl⟩) G1)
  · have HE := hid (HEG.out (HGG.out.2 hg))
    have HLo := hid (HLL.out.2 hL)
    clear hL hg
    clear HTT
    go_wp2_with fail
    have B1 := box_put6 HR3.out (.bool false) (.slice none 0 0) (.slice none 0 0) (.bool false) (.slice none 0 0) (.slice none 0 0)
    have G1 := below_put6 HW3.out w.heap.size (Nat.le_refl _) (.bool false) (.slice none 0 0) (.slice none 0 0) (.bool false) (.slice none 0 0) (.slice none 0 0)
    clear m0 m1 m2 m3 m4 m5 f0 f1 f2 f3 f4 f5
    exact bodyPost_ret (gres_run (by rfl) B1 _ rfl) rfl (gtoldc_zero (E := E) (.inr ⟨HE.out, HLo.out, rfl⟩) G1)
  · have HE := hid (HEG.out (HGG.out.2 hg))
    have HLo := hid (fun h => hL (HLL.out.1 h))
    have HKK := hid hk
    have ka0 : Q.cell? ⟨w2.heap.size, 0, none⟩ = some (.bool n) := HN3.out.cell 0
    have ka1 : Q.cell? ⟨w2.heap.size, 1, none⟩ = some (.slice av1 xs.length cv1) := HN3.out.cell 1
    have ka2 : Q.cell? ⟨w2.heap.size, 2, none⟩ = some (.slice au1 ys.length cu1) := HN3.out.cell 2
    have kb0 : Q.cell? ⟨w3.heap.size, 0, none⟩ = some (.bool m) := HM.out.cell 0
    have kb1 : Q.cell? ⟨w3.heap.size, 1, none⟩ = some (.slice av2 us.length cv2) := HM.out.cell 1
    have kb2 : Q.cell? ⟨w3.heap.size, 2, none⟩ = some (.slice au2 vs.length cu2) := HM.out.cell 2
    clear HTT hL hk hg
    go_wp2_with fail
    have B1 := box_put6 HR3.out (.bool n) (.slice av1 xs.length cv1) (.slice au1 ys.length cu1) (.bool m) (.slice av2 us.length cv2) (.slice au2 vs.length cu2)
    have G1 := below_put6 HW3.out w.heap.size (Nat.le_refl _) (.bool n) (.slice av1 xs.length cv1) (.slice au1 ys.length cu1) (.bool m) (.slice av2 us.length cv2) (.slice au2 vs.length cu2)
    have hwX : w.heap.size < X.heap.size := HX.out.lt
    have hX1 : w.heap.size < w1.heap.size := HR1.out.lt
    have hput : ∀ {base k : Nat} {v : Value} {l : List Value}, Q.ownsRow base 115 1 v k l → (∀ g, v.ownBlock = some g → w1.heap.size ≤ g) → ((((((Q.setCell ⟨w.heap.size, 0, none⟩ (.bool n)).setCell ⟨w.heap.size, 1, none⟩ (.slice av1 xs.length cv1)).setCell ⟨w.heap.size, 2, none⟩ (.slice au1 ys.length cu1)).setCell ⟨w.heap.size, 3, none⟩ (.bool m)).setCell ⟨w.heap.size, 4, none⟩ (.slice av2 us.length cv2)).setCell ⟨w.heap.size, 5, none⟩ (.slice au2 vs.length cu2)).ownsRow base 115 1 v k l := fun h hb => own_put6 h _ (fun g hg => by have := hb g hg; omega) _ _ _ _ _ _
    clear m0 m1 m2 m3 m4 m5 f0 f1 f2 f3 f4 f5
    refine bodyPost_ret (gres_run (by rfl) B1 _ rfl) rfl ?_
    have hszQ : w.heap.size ≤ Z.heap.size := by omega
    refine ⟨n, av1, cv1, xs, au1, cu1, ys, m, av2, cv2, us, au2, cu2, vs, 0, rfl, ⟨owns_base (hput HOO.out.1 (fun g hg => (HOO.out.1.lt g hg).1)) hsz1, owns_base (hput HOO.out.2.1 (fun g hg => (HOO.out.2.1.lt g hg).1)) hsz1, owns_base (hput HOO.out.2.2.1 (fun g hg => by have := (HOO.out.2.2.1.lt g hg).1; omega)) hszQ, owns_base (hput HOO.out.2.2.2 (fun g hg => by have := (HOO.out.2.2.2.lt g hg).1; omega)) hszQ⟩, ⟨HWD.out, fun h => absurd HE.out h, fun _ h => absurd h HLo.out, fun _ _ => ⟨rfl, HKK.out⟩⟩, G1, w2, HC1.out.up hsz1 (Nat.le_refl _), HC2.out.up (Nat.le_refl _) (by simp [World.setCell])⟩
end Go.Proofs.YtiaebiaeolaocaaGreatDoor

/- package tide: decimal, readNumber, readRotor. -/
namespace Go.Proofs.YtiaebiaeolaocaaGreatDoor
open Go.RowKit Go.Lib
set_option linter.unusedVariables false
set_option linter.unusedSimpArgs false

/-- strconv's two errors are values of their type. -/
def ErrT (w : World) : Prop := (∃ te pe, w.cell? ⟨1, 0, none⟩ = some (.iface te pe)) ∧ (∃ te pe, w.cell? ⟨2, 0, none⟩ = some (.iface te pe))
theorem zcell_lt {w : World} {b j : Nat} {v : Value} (h : w.cell? ⟨b, j, none⟩ = some v) : b < w.heap.size := by
  rcases Nat.lt_or_ge b w.heap.size with h' | h'
  · exact h'
  · unfold World.cell? at h
    rw [Array.getElem?_eq_none h'] at h
    simp at h
theorem ErrT.later {w w' : World} (h : ErrT w) (hb : Below w.heap.size w w') : ErrT w' := by
  obtain ⟨⟨a, b, h1⟩, c, d, h2⟩ := h
  exact ⟨⟨a, b, (hb.cell (p := ⟨_, 0, none⟩) (zcell_lt h1)).trans h1⟩, c, d, (hb.cell (p := ⟨_, 0, none⟩) (zcell_lt h2)).trans h2⟩
theorem zbytes_app (a b : List UInt8) : ((⟨a.toArray⟩ : ByteArray) ++ (⟨b.toArray⟩ : ByteArray)) = ⟨(a ++ b).toArray⟩ := by
  apply ByteArray.ext
  rw [ByteArray.data_append]
  simp
theorem zstr_other {s t : ByteArray} (h : ¬ s = t) : (s.toList == t.toList) = false := by
  apply beq_eq_false_iff_ne.2
  intro e
  rw [Lib.toList_data, Lib.toList_data] at e
  exact h (ByteArray.ext (Array.toList_inj.1 e))
theorem zitoa_len (n : Int) (h0 : -2147483648 ≤ n) (h1 : n ≤ 2147483647) : (itoa n).length ≤ 21 := by
  unfold itoa
  split
  · rw [List.length_cons, decDigits_length]
    have := nDigits_le20 n.natAbs (by omega)
    omega
  · rw [decDigits_length]
    have := nDigits_le20 n.toNat (by omega)
    omega
theorem zitoa_any (n : Int) (w : World) (h0 : -9223372036854775808 ≤ n) (h1 : n ≤ 9223372036854775807) (htab : Tab w) :
    Calls Tryz.prog 52 #[.int .i64 n] w fun e w' => e = .returned (.string ⟨(itoa n).toArray⟩) ∧ Below w.heap.size w w' := by
  refine Calls.mono (Tryz.strconv_Itoa n h0 h1 w htab) ?_
  rintro e w' ⟨rfl, k, os, rfl⟩
  refine ⟨rfl, rfl, rfl, rfl, ?_, fun b hb => ?_⟩
  · show w.heap.size ≤ (w.heap ++ os).size
    rw [Array.size_append]; omega
  · show (w.heap ++ os)[b]? = w.heap[b]?
    rw [Array.getElem?_append_left hb]
set_option maxHeartbeats 800000 in
set_option maxRecDepth 100000 in
theorem tdecimal_any (n : Int) (w : World) (h0 : -2147483648 ≤ n) (h1 : n ≤ 2147483647) (htab : Tab w) :
    Calls Tryz.prog 27 #[.int .i32 n] w fun e w' => e = .returned (.string ⟨(itoa n).toArray⟩) ∧ Below w.heap.size w w' := by
  have HI := hid (zitoa_any n w (by omega) (by omega) htab)
  have hw : IntKind.i64.wrap n = n := by rw [IntKind.wrap_i64]; omega
  clear htab
  go_enter Tryz.func27, Tryz.ntmps27
  go_wp2_with fail
  refine Calls.mono HI.out ?_
  rintro e w1 ⟨rfl, hb⟩
  go_wp2_with fail
  go_ret
  exact ⟨rfl, hb⟩

/-- The number of a text of at most five bytes; is it one? -/
def tnumOk (l : List UInt8) : Bool := decide (l.length ≤ 5) && (match atoiAll l with | .ok v => decide (itoa v = l) | _ => false)
def tnumV (l : List UInt8) : Int := if tnumOk l = true then (match atoiAll l with | .ok v => v | _ => 0) else 0
theorem itoa_small {v : Int} (h : (itoa v).length ≤ 5) : -99999 ≤ v ∧ v ≤ 99999 := by
  unfold itoa at h
  by_cases hv : v < 0
  · rw [if_pos hv, List.length_cons, decDigits_length] at h
    have h1 := lt_pow_nDigits v.natAbs
    have h2 : (10 : Nat) ^ nDigits v.natAbs ≤ 10 ^ 5 := Nat.pow_le_pow_right (by decide) (by omega)
    omega
  · rw [if_neg hv, decDigits_length] at h
    have h1 := lt_pow_nDigits v.toNat
    have h2 : (10 : Nat) ^ nDigits v.toNat ≤ 10 ^ 5 := Nat.pow_le_pow_right (by decide) (by omega)
    omega
theorem tnumV_in (l : List UInt8) : -99999 ≤ tnumV l ∧ tnumV l ≤ 99999 := by
  unfold tnumV
  by_cases h : tnumOk l = true
  · rw [if_pos h]
    unfold tnumOk at h
    cases hp : atoiAll l with
    | ok v =>
      rw [hp] at h
      simp at h
      simp only
      exact itoa_small (by rw [h.2]; exact h.1)
    | «syntax» => simp
    | range => simp
  · rw [if_neg h]; decide
set_option maxHeartbeats 1600000 in
set_option maxRecDepth 100000 in
theorem treadNumber_any (s : ByteArray) (w : World) (hs : s.size ≤ 65536) (htab : Tab w) (herr : ErrT w) :
    Calls Tryz.prog 44 #[.string s] w fun e w' => e = .returned (.tuple #[.int .i32 (tnumV s.data.toList), .bool (tnumOk s.data.toList)]) ∧ Below w.heap.size w w' := by
  have hl : s.data.toList.length = s.size := Array.length_toList
  by_cases h5 : 5 < (s.size : Int)
  · have e1 : tnumOk s.data.toList = false := by unfold tnumOk; rw [decide_eq_false (by omega)]; rfl
    have e2 : tnumV s.data.toList = 0 := by unfold tnumV; rw [if_neg (by rw [e1]; decide)]
    rw [e1, e2]
    clear hl e1 e2
    go_enter Tryz.func44, Tryz.ntmps44
    go_wp2_with fail
    go_ret2
    exact ⟨rfl, Below.refl _ _⟩
  obtain ⟨⟨te, pe, h1⟩, te2, pe2, h2⟩ := herr
  have HT := hid htab
  clear htab
  cases hp : atoiAll s.data.toList with
  | ok v =>
    have HC := hid (Tryz.strconv_Atoi_ok s (by omega) v hp w)
    have hvb := atoiAll_bounds hp
    have HI : Hid (∀ V, Below w.heap.size w V → Calls Tryz.prog 52 #[.int .i64 v] V fun e w' => e = .returned (.string ⟨(itoa v).toArray⟩) ∧ Below V.heap.size V w') := fun V hv => zitoa_any v V hvb.1 hvb.2 (HT.out.later hv)
    by_cases hi : (⟨(itoa v).toArray⟩ : ByteArray) = s
    · have hi2 : itoa v = s.data.toList := by rw [← hi]
      have e1 : tnumOk s.data.toList = true := by unfold tnumOk; rw [decide_eq_true (by omega), hp]; simp [hi2]
      have e2 : tnumV s.data.toList = v := by unfold tnumV; rw [if_pos e1, hp]
      have e3 := tnumV_in s.data.toList
      rw [e1, e2]
      rw [e2] at e3
      have hw : IntKind.i32.wrap v = v := by rw [IntKind.wrap_i32]; omega
      rw [hi] at HI
      clear e1 e2 e3 hi hi2 hp hl h1 h2 hvb
      go_enter Tryz.func44, Tryz.ntmps44
      go_wp2_with fail
      refine Calls.mono HC.out ?_
      rintro e w1 ⟨rfl, hw1⟩
      have HB : Hid (Below w.heap.size w w1) := by
        rcases hw1 with rfl | ⟨t, rfl⟩
        · exact Below.refl _ _
        · exact Lib.bytesWorld_below w _ t
      clear hw1
      go_wp2_with fail
      refine Calls.mono (HI.out _ HB.out) ?_
      rintro e w2 ⟨rfl, hb2⟩
      have HB2 := hid (bt HB.out hb2)
      clear hb2
      go_wp2_with fail
      go_ret2
      exact ⟨rfl, HB2.out⟩
    · have e1 : tnumOk s.data.toList = false := by
        unfold tnumOk
        rw [hp]
        have : ¬ itoa v = s.data.toList := fun e => hi (by rw [e])
        simp [this]
      have e2 : tnumV s.data.toList = 0 := by unfold tnumV; rw [if_neg (by rw [e1]; decide)]
      rw [e1, e2]
      have hne := zstr_other hi
      clear e1 e2 hi hp hl h1 h2 hvb
      generalize (⟨(itoa v).toArray⟩ : ByteArray) = IT at *
      go_enter Tryz.func44, Tryz.ntmps44
      go_wp2_with fail
      refine Calls.mono HC.out ?_
      rintro e w1 ⟨rfl, hw1⟩
      have HB : Hid (Below w.heap.size w w1) := by
        rcases hw1 with rfl | ⟨t, rfl⟩
        · exact Below.refl _ _
        · exact Lib.bytesWorld_below w _ t
      clear hw1
      go_wp2_with fail
      refine Calls.mono (HI.out _ HB.out) ?_
      rintro e w2 ⟨rfl, hb2⟩
      have HB2 := hid (bt HB.out hb2)
      clear hb2
      go_wp2_with fail
      go_ret2
      exact ⟨rfl, HB2.out⟩
  | «syntax» =>
    have e1 : tnumOk s.data.toList = false := by unfold tnumOk; rw [hp]; simp
    have e2 : tnumV s.data.toList = 0 := by unfold tnumV; rw [if_neg (by rw [e1]; decide)]
    rw [e1, e2]
    have HC := hid (Tryz.strconv_Atoi_syntax s (by omega) hp _ w h1 (.inr ⟨te, pe, rfl⟩))
    clear hp hl e1 e2
    go_enter Tryz.func44, Tryz.ntmps44
    go_wp2_with fail
    refine Calls.mono HC.out ?_
    rintro e w1 ⟨N, rfl, hN, _, hb⟩
    go_wp2_with fail
    go_ret2
    exact ⟨rfl, hb⟩
  | range =>
    have e1 : tnumOk s.data.toList = false := by unfold tnumOk; rw [hp]; simp
    have e2 : tnumV s.data.toList = 0 := by unfold tnumV; rw [if_neg (by rw [e1]; decide)]
    rw [e1, e2]
    have HC := hid (Tryz.strconv_Atoi_range s (by omega) hp _ w h2 (.inr ⟨te2, pe2, rfl⟩))
    clear hp hl e1 e2
    go_enter Tryz.func44, Tryz.ntmps44
    go_wp2_with fail
    refine Calls.mono HC.out ?_
    rintro e w1 ⟨N, rfl, hN, _, hb⟩
    go_wp2_with fail
    go_ret2
    exact ⟨rfl, hb⟩
set_option maxHeartbeats 1600000 in
set_option maxRecDepth 100000 in
theorem treadRotor_any (s t : ByteArray) (w : World) (hs : s.size ≤ 65536) (ht : t.size ≤ 65536) (htab : Tab w) (herr : ErrT w) :
    Calls Tryz.prog 21 #[.string s, .string t] w fun e w' => e = .returned (.tuple #[.agg #[.int .i32 (tnumV s.data.toList), .int .i32 (tnumV t.data.toList)], .bool (tnumOk s.data.toList && tnumOk t.data.toList)]) ∧ Below w.heap.size w w' := by
  have HX := hid (boxes1 w 23 #[.int .i32 0, .int .i32 0])
  have H1 := hid (treadNumber_any s (w.alloc (.cells #[.int .i32 0, .int .i32 0] 23)) hs (htab.later HX.out.2) (herr.later HX.out.2))
  have H2 : Hid (∀ V, Below w.heap.size w V → Calls Tryz.prog 44 #[.string t] V fun e w' => e = .returned (.tuple #[.int .i32 (tnumV t.data.toList), .bool (tnumOk t.data.toList)]) ∧ Below V.heap.size V w') := fun V hv => treadNumber_any t V ht (htab.later hv) (herr.later hv)
  generalize tnumV s.data.toList = A at *
  generalize tnumV t.data.toList = B at *
  generalize tnumOk s.data.toList = P at *
  generalize tnumOk t.data.toList = Q at *
  clear htab herr
  cases P <;> cases Q
  all_goals
    go_enter Tryz.func21, Tryz.ntmps21
    go_wp2_with fail
    generalize w.alloc (.cells #[.int .i32 0, .int .i32 0] 23) = X at *
    refine Calls.mono H1.out ?_
    rintro e w1 ⟨rfl, hb1⟩
    have HB1 := hid (bt HX.out.2 hb1)
    have HX1 := hid (HX.out.1.later hb1 HX.out.1.lt)
    clear hb1 H1
    go_wp2_with fail
    refine Calls.mono (H2.out _ HB1.out) ?_
    rintro e w2 ⟨rfl, hb2⟩
    have HB2 := hid (bt HB1.out hb2)
    have HX2 := hid (HX1.out.later hb2 HX1.out.lt)
    clear hb2 H2
    obtain ⟨c0, c1, g0, g1⟩ := fbox_facts HX2.out (Below.refl _ _)
    go_wp2_with fail
    refine bodyPost_ret (v := .tuple #[.agg #[.int .i32 A, .int .i32 B], .bool _]) (by simp [results, Tryz.results21, go_sem, c0, c1]; rfl) rfl ?_
    exact ⟨rfl, fput2 HB2.out _ (by omega) _ _⟩
end Go.Proofs.YtiaebiaeolaocaaGreatDoor

/- package tide: Print. -/
namespace Go.Proofs.YtiaebiaeolaocaaGreatDoor
open Go.RowKit Go.Lib
set_option linter.unusedVariables false
set_option linter.unusedSimpArgs false

/-- A constituent's text. -/
def ttext (l : List UInt8) (f r : Int) (g : List UInt8) : List UInt8 := l ++ 32 :: (itoa f ++ 32 :: (itoa r ++ 32 :: g))
/-- Print's error: E Check's, g the number's text. -/
def tpErr (E : Int) (l : List UInt8) (f r : Int) (G : Int) (g : List UInt8) : Int := if E ≠ 0 then E else if G ≠ 0 then G else if 65536 < (ttext l f r g).length then 3 else 0
theorem tpErr_chk {E : Int} {l : List UInt8} {f r G : Int} {g : List UInt8} (h : E ≠ 0) : tpErr E l f r G g = E := by unfold tpErr; rw [if_pos h]
theorem tpErr_num {E : Int} {l : List UInt8} {f r G : Int} {g : List UInt8} (h : E = 0) (h2 : G ≠ 0) : tpErr E l f r G g = G := by unfold tpErr; rw [if_neg (by simp [h]), if_pos h2]
theorem tpErr_long {E : Int} {l : List UInt8} {f r G : Int} {g : List UInt8} (h : E = 0) (h2 : G = 0) (h3 : 65536 < (ttext l f r g).length) : tpErr E l f r G g = 3 := by unfold tpErr; rw [if_neg (by simp [h]), if_neg (by simp [h2]), if_pos h3]
theorem tpErr_ok {E : Int} {l : List UInt8} {f r G : Int} {g : List UInt8} (h : E = 0) (h2 : G = 0) (h3 : ¬ 65536 < (ttext l f r g).length) : tpErr E l f r G g = 0 := by unfold tpErr; rw [if_neg (by simp [h]), if_neg (by simp [h2]), if_neg h3]
theorem tsum_text (s : ByteArray) (f r : Int) (U : ByteArray) : s ++ (⟨#[32]⟩ : ByteArray) ++ (⟨(itoa f).toArray⟩ : ByteArray) ++ (⟨#[32]⟩ : ByteArray) ++ (⟨(itoa r).toArray⟩ : ByteArray) ++ (⟨#[32]⟩ : ByteArray) ++ U = ⟨(ttext s.data.toList f r U.data.toList).toArray⟩ := by
  have e : ∀ x : ByteArray, x = ⟨x.data.toList.toArray⟩ := fun x => by simp
  rw [e s, e U, show (⟨#[32]⟩ : ByteArray) = ⟨([32] : List UInt8).toArray⟩ from rfl, zbytes_app, zbytes_app, zbytes_app, zbytes_app, zbytes_app, zbytes_app]
  unfold ttext
  simp
theorem tname_ok {l : List UInt8} (h : tname l = true) : 1 ≤ l.length ∧ l.length ≤ 20 := by
  unfold tname at h
  simp at h
  exact ⟨h.1.1.1, h.1.1.2⟩
theorem tchk_ok {l : List UInt8} {f n g : Int} (h : tchk l f n g = 0) : tname l = true ∧ ochk f n = 0 ∧ g = 0 := by
  unfold tchk at h
  by_cases hn : tname l = true
  · rw [if_pos hn] at h
    unfold fstE at h
    by_cases ho : ochk f n = 0
    · rw [if_pos ho] at h; exact ⟨hn, ho, h⟩
    · rw [if_neg ho] at h; exact absurd h ho
  · rw [if_neg hn] at h; exact absurd h (by decide)
set_option maxHeartbeats 3200000 in
set_option maxRecDepth 100000 in
theorem tPrint_any (s : ByteArray) (f r : Int) (n : Bool) (a : Option Addr) (ca : Nat) (xs : List Int) (b : Option Addr) (cb : Nat) (ys : List Int) (m : Bool) (c : Option Addr) (cc : Nat) (us : List Int) (d : Option Addr) (cd : Nat) (vs : List Int) (w : World) (hz : s.size ≤ 9223372036854775807) (hr : in32 f r) (sx : Sl w (.slice a xs.length ca) xs) (sy : Sl w (.slice b ys.length cb) ys) (su : Sl w (.slice c us.length cc) us) (sv : Sl w (.slice d vs.length cd) vs) (htab : Tab w) :
    Calls Tryz.prog 6 #[.agg #[.string s, .int .i32 f, .int .i32 r, .bool n, .slice a xs.length ca, .slice b ys.length cb, .bool m, .slice c us.length cc, .slice d vs.length cd]] w fun x w' => ∃ S : ByteArray, x = .returned (.tuple #[.string S, .int .i64 (tpErr (tchk s.data.toList f r (gchk n xs ys m us vs)) s.data.toList f r (gpErr n xs ys m us vs) (gtext n xs ys m us vs))]) ∧ (tpErr (tchk s.data.toList f r (gchk n xs ys m us vs)) s.data.toList f r (gpErr n xs ys m us vs) (gtext n xs ys m us vs) = 0 → S.data.toList = ttext s.data.toList f r (gtext n xs ys m us vs)) ∧ (tpErr (tchk s.data.toList f r (gchk n xs ys m us vs)) s.data.toList f r (gpErr n xs ys m us vs) (gtext n xs ys m us vs) ≠ 0 → S = ⟨#[]⟩) ∧ Below w.heap.size w w' := by
  have HX := hid (Box.made w 30 #[.string s, .int .i32 f, .int .i32 r, .bool n, .slice a xs.length ca, .slice b ys.length cb, .bool m, .slice c us.length cc, .slice d vs.length cd])
  have HB := hid (alloc_later w (.cells #[.string s, .int .i32 f, .int .i32 r, .bool n, .slice a xs.length ca, .slice b ys.length cb, .bool m, .slice c us.length cc, .slice d vs.length cd] 30))
  obtain ⟨X, hX⟩ : ∃ X, w.alloc (.cells #[.string s, .int .i32 f, .int .i32 r, .bool n, .slice a xs.length ca, .slice b ys.length cb, .bool m, .slice c us.length cc, .slice d vs.length cd] 30) = X := ⟨_, rfl⟩
  rw [hX] at HX HB
  have HC := hid (tCheck_any s f r n a ca xs b cb ys m c cc us d cd vs X hz hr (sx.later HB.out) (sy.later HB.out) (su.later HB.out) (sv.later HB.out))
  have HP : Hid (∀ V, Below w.heap.size w V → Calls Tryz.prog 26 #[.agg #[.bool n, .slice a xs.length ca, .slice b ys.length cb, .bool m, .slice c us.length cc, .slice d vs.length cd]] V fun x w' => ∃ S : ByteArray, x = .returned (.tuple #[.string S, .int .i64 (gpErr n xs ys m us vs)]) ∧ (gpErr n xs ys m us vs = 0 → S.data.toList = gtext n xs ys m us vs) ∧ (gpErr n xs ys m us vs ≠ 0 → S = ⟨#[]⟩) ∧ Below V.heap.size V w') := fun V hv => gPrint_any n a ca xs b cb ys m c cc us d cd vs V (sx.later hv) (sy.later hv) (su.later hv) (sv.later hv) (htab.later hv)
  have HD : Hid (∀ z, -2147483648 ≤ z → z ≤ 2147483647 → ∀ V, Below w.heap.size w V → Calls Tryz.prog 27 #[.int .i32 z] V fun e w' => e = .returned (.string ⟨(itoa z).toArray⟩) ∧ Below V.heap.size V w') := fun z z0 z1 V hv => tdecimal_any z V z0 z1 (htab.later hv)
  have D1 := hid (HD.out f hr.1.1 hr.1.2)
  have D2 := hid (HD.out r hr.2.1 hr.2.2)
  have lf := zitoa_len f hr.1.1 hr.1.2
  have lr := zitoa_len r hr.2.1 hr.2.2
  have hls : s.data.toList.length = s.size := Array.length_toList
  have HTC : Hid (tchk s.data.toList f r (gchk n xs ys m us vs) = 0 → s.size ≤ 20) := fun h => by have := tname_ok (tchk_ok h).1; omega
  have HGL : Hid (gpErr n xs ys m us vs = 0 → (gtext n xs ys m us vs).length ≤ 65536) := fun h => by
    unfold gpErr at h
    by_cases hg : gchk n xs ys m us vs = 0
    · rw [hg, fstE_zero] at h
      by_cases hl : 65536 < (gtext n xs ys m us vs).length
      · rw [if_pos hl] at h; exact absurd h (by decide)
      · omega
    · rw [fstE_err _ hg] at h; exact absurd h hg
  generalize gtext n xs ys m us vs = GT at *
  generalize gpErr n xs ys m us vs = GE at *
  generalize tchk s.data.toList f r (gchk n xs ys m us vs) = TC at *
  have HE1 : Hid (TC ≠ 0 → tpErr TC s.data.toList f r GE GT = TC) := tpErr_chk
  have HE2 : Hid (TC = 0 → GE ≠ 0 → tpErr TC s.data.toList f r GE GT = GE) := tpErr_num
  have HE3 : Hid (TC = 0 → GE = 0 → 65536 < (ttext s.data.toList f r GT).length → tpErr TC s.data.toList f r GE GT = 3) := tpErr_long
  have HE4 : Hid (TC = 0 → GE = 0 → ¬ 65536 < (ttext s.data.toList f r GT).length → tpErr TC s.data.toList f r GE GT = 0) := tpErr_ok
  have HTX : Hid (∀ U : ByteArray, U.data.toList = GT → s ++ (⟨#[32]⟩ : ByteArray) ++ (⟨(itoa f).toArray⟩ : ByteArray) ++ (⟨#[32]⟩ : ByteArray) ++ (⟨(itoa r).toArray⟩ : ByteArray) ++ (⟨#[32]⟩ : ByteArray) ++ U = ⟨(ttext s.data.toList f r GT).toArray⟩) := fun U hU => by rw [tsum_text, hU]
  have HTL : Hid (∀ U : ByteArray, U.data.toList = GT → (ttext s.data.toList f r GT).length = s.size + 1 + (itoa f).length + 1 + (itoa r).length + 1 + U.size) := fun U hU => by
    have hu : U.data.toList.length = U.size := Array.length_toList
    unfold ttext
    rw [← hU]
    simp only [List.length_append, List.length_cons]
    omega
  generalize tpErr TC s.data.toList f r GE GT = TE at *
  generalize ttext s.data.toList f r GT = TT at *
  clear sx sy su sv htab hr HD hls
  have k0 : X.cell? ⟨w.heap.size, 0, none⟩ = some (.string s) := HX.out.cell 0
  have k1 : X.cell? ⟨w.heap.size, 1, none⟩ = some (.int .i32 f) := HX.out.cell 1
  have k2 : X.cell? ⟨w.heap.size, 2, none⟩ = some (.int .i32 r) := HX.out.cell 2
  have k3 : X.cell? ⟨w.heap.size, 3, none⟩ = some (.bool n) := HX.out.cell 3
  have k4 : X.cell? ⟨w.heap.size, 4, none⟩ = some (.slice a xs.length ca) := HX.out.cell 4
  have k5 : X.cell? ⟨w.heap.size, 5, none⟩ = some (.slice b ys.length cb) := HX.out.cell 5
  have k6 : X.cell? ⟨w.heap.size, 6, none⟩ = some (.bool m) := HX.out.cell 6
  have k7 : X.cell? ⟨w.heap.size, 7, none⟩ = some (.slice c us.length cc) := HX.out.cell 7
  have k8 : X.cell? ⟨w.heap.size, 8, none⟩ = some (.slice d vs.length cd) := HX.out.cell 8
  go_enter Tryz.func6, Tryz.ntmps6
  go_wp2_with fail
  refine Calls.mono HC.out ?_
  rintro e w1 ⟨rfl, hb1⟩
  have HW1 := hid (bt HB.out hb1)
  have HX1 := hid (HX.out.later hb1 HX.out.lt)
  clear hb1 HC k0 k1 k2 k3 k4 k5 k6 k7 k8 HX HB hX
  by_cases hTC : TC = 0
  · have hsz := HTC.out hTC
    have HZ1 := hid hTC
    subst hTC
    have k3 : w1.cell? ⟨w.heap.size, 3, none⟩ = some (.bool n) := HX1.out.cell 3
    have k4 : w1.cell? ⟨w.heap.size, 4, none⟩ = some (.slice a xs.length ca) := HX1.out.cell 4
    have k5 : w1.cell? ⟨w.heap.size, 5, none⟩ = some (.slice b ys.length cb) := HX1.out.cell 5
    have k6 : w1.cell? ⟨w.heap.size, 6, none⟩ = some (.bool m) := HX1.out.cell 6
    have k7 : w1.cell? ⟨w.heap.size, 7, none⟩ = some (.slice c us.length cc) := HX1.out.cell 7
    have k8 : w1.cell? ⟨w.heap.size, 8, none⟩ = some (.slice d vs.length cd) := HX1.out.cell 8
    go_wp2_with fail
    refine Calls.mono (HP.out _ HW1.out) ?_
    rintro x w2 ⟨U, rfl, hU, _, hb2⟩
    have HW2 := hid (bt HW1.out hb2)
    have HX2 := hid (HX1.out.later hb2 HX1.out.lt)
    have HU := hid hU
    clear hU hb2 k3 k4 k5 k6 k7 k8
    by_cases hGE : GE = 0
    · have hU2 := HU.out hGE
      have hGL := HGL.out hGE
      have hUl : U.size ≤ 65536 := by
        have e1 : U.data.toList.length = U.size := Array.length_toList
        rw [hU2] at e1; omega
      have HT := hid (HTX.out U hU2)
      have hTL := HTL.out U hU2
      have HGZ := hid hGE
      subst hGE
      clear hU2 hGL HU HTX HTL HGL HTC
      have hm1 : ¬ 9223372036854775807 < s.size + 1 := by omega
      have hm2 : ¬ 9223372036854775807 < s.size + 1 + (itoa f).length := by omega
      have hm3 : ¬ 9223372036854775807 < s.size + 1 + (itoa f).length + 1 := by omega
      have hm4 : ¬ 9223372036854775807 < s.size + 1 + (itoa f).length + 1 + (itoa r).length := by omega
      have hm5 : ¬ 9223372036854775807 < s.size + 1 + (itoa f).length + 1 + (itoa r).length + 1 := by omega
      have hm6 : ¬ 9223372036854775807 < s.size + 1 + (itoa f).length + 1 + (itoa r).length + 1 + U.size := by omega
      have HTL := hid hTL
      clear hTL hsz hUl lf lr
      have HF : Hid (∀ V, Below w2.heap.size w2 V → V.cell? ⟨w.heap.size, 0, none⟩ = some (.string s) ∧ V.cell? ⟨w.heap.size, 1, none⟩ = some (.int .i32 f) ∧ V.cell? ⟨w.heap.size, 2, none⟩ = some (.int .i32 r)) := fun V hv => by
        have h := HX2.out.later hv HX2.out.lt
        exact ⟨h.cell 0, h.cell 1, h.cell 2⟩
      have hs0 := HF.out _ (Below.refl _ w2).drew
      have hd0 := hid (Below.refl w2.heap.size w2).drew
      have H1 : Hid (∀ V, Below w2.heap.size w2 V → Calls Tryz.prog 27 #[.int .i32 f] V fun e w' => e = .returned (.string ⟨(itoa f).toArray⟩) ∧ (w'.cell? ⟨w.heap.size, 0, none⟩ = some (.string s) ∧ w'.cell? ⟨w.heap.size, 1, none⟩ = some (.int .i32 f) ∧ w'.cell? ⟨w.heap.size, 2, none⟩ = some (.int .i32 r)) ∧ Below w2.heap.size w2 w') := fun V hv => by
        refine Calls.mono (D1.out V (bt HW2.out hv)) ?_
        rintro e w' ⟨rfl, h⟩
        exact ⟨rfl, HF.out _ (bt hv h), bt hv h⟩
      have H2 : Hid (∀ V, Below w2.heap.size w2 V → Calls Tryz.prog 27 #[.int .i32 r] V fun e w' => e = .returned (.string ⟨(itoa r).toArray⟩) ∧ (w'.cell? ⟨w.heap.size, 0, none⟩ = some (.string s) ∧ w'.cell? ⟨w.heap.size, 1, none⟩ = some (.int .i32 f) ∧ w'.cell? ⟨w.heap.size, 2, none⟩ = some (.int .i32 r)) ∧ Below w2.heap.size w2 w') := fun V hv => by
        refine Calls.mono (D2.out V (bt HW2.out hv)) ?_
        rintro e w' ⟨rfl, h⟩
        exact ⟨rfl, HF.out _ (bt hv h), bt hv h⟩
      clear HF HX1 HX2 D1 D2 HP
      go_wp2_with fail
      go_region_held3 (fun V : World => V.cell? ⟨w.heap.size, 0, none⟩ = some (.string s) ∧ V.cell? ⟨w.heap.size, 1, none⟩ = some (.int .i32 f) ∧ V.cell? ⟨w.heap.size, 2, none⟩ = some (.int .i32 r)) (first | exact hs2 | exact hs1 | exact hs0)
        (first
          | (go_at_call 27; with_reducible refine Calls.mono (H2.out _ hb2) ?_; rintro e w4 ⟨rfl, hs2, hb3⟩)
          | (go_at_call 27; with_reducible refine Calls.mono (H1.out _ hd0.out) ?_; rintro e w3 ⟨rfl, hs1, hb2⟩))
      all_goals
        have HB3 := hid (bt HW2.out hb3)
        clear hs0 hs1 hs2 hb2 hb3 H1 H2 hd0
        have HSZ : Hid ((⟨TT.toArray⟩ : ByteArray).size = TT.length) := by show TT.toArray.size = TT.length; simp
        have HTB : Hid ((⟨TT.toArray⟩ : ByteArray).data.toList = TT) := by show _ = _; simp
        rw [HT.out]
        clear HT hm1 hm2 hm3 hm4 hm5 hm6
        generalize (⟨TT.toArray⟩ : ByteArray) = TB at *
        by_cases hl : (65536 : Int) < (TB.size : Int)
        · have HTE := hid (HE3.out trivial trivial (by have := HSZ.out; omega))
          go_wp2_with fail
          go_ret2
          rw [HTE.out]
          exact ⟨_, rfl, fun h => absurd h (by decide), fun _ => rfl, HB3.out⟩
        · have HTE := hid (HE4.out trivial trivial (by have := HSZ.out; omega))
          go_wp2_with fail
          go_ret2
          rw [HTE.out]
          exact ⟨_, rfl, fun _ => HTB.out, fun h => absurd rfl h, HB3.out⟩
    · have HTE := hid (HE2.out trivial hGE)
      have h2' : (GE == 0) = false := by simp [hGE]
      have h2n : (GE != 0) = true := by simp [hGE]
      clear HP D1 D2 HTX HTL HGL HTC HE3 HE4 HE1
      go_wp2_with fail
      go_ret2
      rw [HTE.out]
      exact ⟨_, rfl, fun h => absurd h hGE, fun _ => rfl, HW2.out⟩
  · have HTE := hid (HE1.out hTC)
    have h2' : (TC == 0) = false := by simp [hTC]
    have h2n : (TC != 0) = true := by simp [hTC]
    clear HP D1 D2 HTX HTL HGL HTC HE3 HE4 HE2
    go_wp2_with fail
    go_ret2
    rw [HTE.out]
    exact ⟨_, rfl, fun h => absurd h hTC, fun _ => rfl, HW1.out⟩
end Go.Proofs.YtiaebiaeolaocaaGreatDoor

/- package tide: Parse, of any text. -/
namespace Go.Proofs.YtiaebiaeolaocaaGreatDoor
open Go.RowKit Go.Lib
set_option linter.unusedVariables false
set_option linter.unusedSimpArgs false

theorem box_put9 {U : World} {b t : Nat} {u0 u1 u2 u3 u4 u5 u6 u7 u8 : Value} (h : Box U b t #[u0, u1, u2, u3, u4, u5, u6, u7, u8]) (v0 v1 v2 v3 v4 v5 v6 v7 v8 : Value) : Box (((((((((U.setCell ⟨b, 0, none⟩ v0).setCell ⟨b, 1, none⟩ v1).setCell ⟨b, 2, none⟩ v2).setCell ⟨b, 3, none⟩ v3).setCell ⟨b, 4, none⟩ v4).setCell ⟨b, 5, none⟩ v5).setCell ⟨b, 6, none⟩ v6).setCell ⟨b, 7, none⟩ v7).setCell ⟨b, 8, none⟩ v8) b t #[v0, v1, v2, v3, v4, v5, v6, v7, v8] := by
  have h0 : Box _ b t #[v0, u1, u2, u3, u4, u5, u6, u7, u8] := h.set 0 v0
  have h1 : Box _ b t #[v0, v1, u2, u3, u4, u5, u6, u7, u8] := h0.set 1 v1
  have h2 : Box _ b t #[v0, v1, v2, u3, u4, u5, u6, u7, u8] := h1.set 2 v2
  have h3 : Box _ b t #[v0, v1, v2, v3, u4, u5, u6, u7, u8] := h2.set 3 v3
  have h4 : Box _ b t #[v0, v1, v2, v3, v4, u5, u6, u7, u8] := h3.set 4 v4
  have h5 : Box _ b t #[v0, v1, v2, v3, v4, v5, u6, u7, u8] := h4.set 5 v5
  have h6 : Box _ b t #[v0, v1, v2, v3, v4, v5, v6, u7, u8] := h5.set 6 v6
  have h7 : Box _ b t #[v0, v1, v2, v3, v4, v5, v6, v7, u8] := h6.set 7 v7
  exact h7.set 8 v8
theorem below_put9 {B : Nat} {x U : World} (h : Below B x U) (b : Nat) (hb : B ≤ b) (v0 v1 v2 v3 v4 v5 v6 v7 v8 : Value) : Below B x (((((((((U.setCell ⟨b, 0, none⟩ v0).setCell ⟨b, 1, none⟩ v1).setCell ⟨b, 2, none⟩ v2).setCell ⟨b, 3, none⟩ v3).setCell ⟨b, 4, none⟩ v4).setCell ⟨b, 5, none⟩ v5).setCell ⟨b, 6, none⟩ v6).setCell ⟨b, 7, none⟩ v7).setCell ⟨b, 8, none⟩ v8) :=
  ((((((((h.setCell (p := ⟨b, 0, none⟩) hb _).setCell (p := ⟨b, 1, none⟩) hb _).setCell (p := ⟨b, 2, none⟩) hb _).setCell (p := ⟨b, 3, none⟩) hb _).setCell (p := ⟨b, 4, none⟩) hb _).setCell (p := ⟨b, 5, none⟩) hb _).setCell (p := ⟨b, 6, none⟩) hb _).setCell (p := ⟨b, 7, none⟩) hb _).setCell (p := ⟨b, 8, none⟩) hb _
theorem own_put9 {w : World} {base e n : Nat} {v : Value} {xs : List Value} (h : w.ownsRow base e 1 v n xs) (b : Nat) (hb : ∀ g, v.ownBlock = some g → g ≠ b) (v0 v1 v2 v3 v4 v5 v6 v7 v8 : Value) : (((((((((w.setCell ⟨b, 0, none⟩ v0).setCell ⟨b, 1, none⟩ v1).setCell ⟨b, 2, none⟩ v2).setCell ⟨b, 3, none⟩ v3).setCell ⟨b, 4, none⟩ v4).setCell ⟨b, 5, none⟩ v5).setCell ⟨b, 6, none⟩ v6).setCell ⟨b, 7, none⟩ v7).setCell ⟨b, 8, none⟩ v8).ownsRow base e 1 v n xs :=
  own_put1 (own_put1 (own_put1 (own_put1 (own_put1 (own_put1 (own_put1 (own_put1 (own_put1 h b hb 0 v0) b hb 1 v1) b hb 2 v2) b hb 3 v3) b hb 4 v4) b hb 5 v5) b hb 6 v6) b hb 7 v7) b hb 8 v8
/-- A constituent is read out of a box, its error out of a slot. -/
theorem tres_run {fn : Func} {W : World} {b q u : Nat} {cs : Array Value} (hr : fn.results = #[.cell q 30, .tmp u]) (hb : Box W b 30 cs) (tmps : Array Value) (h4 : tmps.getD q undef = .pointer (some ⟨b, 0, none⟩)) (hi : (Tryz.prog.info? 30).map (·.size) = some cs.size := by kernel_rfl) : (results fn tmps).run Tryz.prog W = .ok (.tuple #[.agg cs, tmps.getD u undef]) W := by
  have h := run_loadVar_row (P := Tryz.prog) W b 30 30 cs (0, 0) _ hb Tryz.underlying30 rfl hi
  rw [results_cell_tmp hr, h4]
  simp [asAddr, h]
/-- A store of nine cells, cell by cell, each world by its name. -/
theorem tchain9 {W : World} {b t : Nat} {u0 u1 u2 u3 u4 u5 u6 u7 u8 : Value} (h : Box W b t #[u0, u1, u2, u3, u4, u5, u6, u7, u8]) (v0 v1 v2 v3 v4 v5 v6 v7 v8 : Value) : ∃ A0 A1 A2 A3 A4 A5 A6 A7 A8, W.setCell ⟨b, 0, none⟩ v0 = A0 ∧ A0.setCell ⟨b, 1, none⟩ v1 = A1 ∧ A1.setCell ⟨b, 2, none⟩ v2 = A2 ∧ A2.setCell ⟨b, 3, none⟩ v3 = A3 ∧ A3.setCell ⟨b, 4, none⟩ v4 = A4 ∧ A4.setCell ⟨b, 5, none⟩ v5 = A5 ∧ A5.setCell ⟨b, 6, none⟩ v6 = A6 ∧ A6.setCell ⟨b, 7, none⟩ v7 = A7 ∧ A7.setCell ⟨b, 8, none⟩ v8 = A8 ∧ (W.cell? ⟨b, 0, none⟩ = some u0 ∧ A0.cell? ⟨b, 1, none⟩ = some u1 ∧ A1.cell? ⟨b, 2, none⟩ = some u2 ∧ A2.cell? ⟨b, 3, none⟩ = some u3 ∧ A3.cell? ⟨b, 4, none⟩ = some u4 ∧ A4.cell? ⟨b, 5, none⟩ = some u5 ∧ A5.cell? ⟨b, 6, none⟩ = some u6 ∧ A6.cell? ⟨b, 7, none⟩ = some u7 ∧ A7.cell? ⟨b, 8, none⟩ = some u8) ∧ (W.frozen? ⟨b, 0, none⟩ = false ∧ A0.frozen? ⟨b, 1, none⟩ = false ∧ A1.frozen? ⟨b, 2, none⟩ = false ∧ A2.frozen? ⟨b, 3, none⟩ = false ∧ A3.frozen? ⟨b, 4, none⟩ = false ∧ A4.frozen? ⟨b, 5, none⟩ = false ∧ A5.frozen? ⟨b, 6, none⟩ = false ∧ A6.frozen? ⟨b, 7, none⟩ = false ∧ A7.frozen? ⟨b, 8, none⟩ = false) := by
  have h0 : Box _ b t #[v0, u1, u2, u3, u4, u5, u6, u7, u8] := h.set 0 v0
  have h1 : Box _ b t #[v0, v1, u2, u3, u4, u5, u6, u7, u8] := h0.set 1 v1
  have h2 : Box _ b t #[v0, v1, v2, u3, u4, u5, u6, u7, u8] := h1.set 2 v2
  have h3 : Box _ b t #[v0, v1, v2, v3, u4, u5, u6, u7, u8] := h2.set 3 v3
  have h4 : Box _ b t #[v0, v1, v2, v3, v4, u5, u6, u7, u8] := h3.set 4 v4
  have h5 : Box _ b t #[v0, v1, v2, v3, v4, v5, u6, u7, u8] := h4.set 5 v5
  have h6 : Box _ b t #[v0, v1, v2, v3, v4, v5, v6, u7, u8] := h5.set 6 v6
  have h7 : Box _ b t #[v0, v1, v2, v3, v4, v5, v6, v7, u8] := h6.set 7 v7
  exact ⟨_, _, _, _, _, _, _, _, _, rfl, rfl, rfl, rfl, rfl, rfl, rfl, rfl, rfl, ⟨h.cell 0, h0.cell 1, h1.cell 2, h2.cell 3, h3.cell 4, h4.cell 5, h5.cell 6, h6.cell 7, h7.cell 8⟩, h.free 0, h0.free 1, h1.free 2, h2.free 3, h3.free 4, h4.free 5, h5.free 6, h6.free 7, h7.free 8⟩
theorem tchain_far {W A0 A1 A2 A3 A4 A5 A6 A7 A8 : World} {b b' t' : Nat} {cs : Array Value} {v0 v1 v2 v3 v4 v5 v6 v7 v8 : Value} (h : Box W b' t' cs) (hne : b' ≠ b) (hA0 : W.setCell ⟨b, 0, none⟩ v0 = A0) (hA1 : A0.setCell ⟨b, 1, none⟩ v1 = A1) (hA2 : A1.setCell ⟨b, 2, none⟩ v2 = A2) (hA3 : A2.setCell ⟨b, 3, none⟩ v3 = A3) (hA4 : A3.setCell ⟨b, 4, none⟩ v4 = A4) (hA5 : A4.setCell ⟨b, 5, none⟩ v5 = A5) (hA6 : A5.setCell ⟨b, 6, none⟩ v6 = A6) (hA7 : A6.setCell ⟨b, 7, none⟩ v7 = A7) (hA8 : A7.setCell ⟨b, 8, none⟩ v8 = A8) : Box A8 b' t' cs := by
  subst hA0 hA1 hA2 hA3 hA4 hA5 hA6 hA7 hA8
  exact (((((((((h.other ⟨b, 0, none⟩ v0 hne).other ⟨b, 1, none⟩ v1 hne).other ⟨b, 2, none⟩ v2 hne).other ⟨b, 3, none⟩ v3 hne).other ⟨b, 4, none⟩ v4 hne).other ⟨b, 5, none⟩ v5 hne).other ⟨b, 6, none⟩ v6 hne).other ⟨b, 7, none⟩ v7 hne).other ⟨b, 8, none⟩ v8 hne)

/-- What a call tells that tells a constituent: E what was refused, L whether its number is too long; else the name l, the rotor f r, the number q1 q2. -/
structure TTells (E : Int) (L : Prop) (l : List UInt8) (f r : Int) (q1 q2 : Rat) (S : ByteArray) (F R : Int) (n : Bool) (xs ys : List Int) (m : Bool) (us vs : List Int) (code : Int) : Prop where
  num : GTells E L q1 q2 n xs ys m us vs code
  bad : code ≠ 0 → S = ⟨#[]⟩ ∧ F = 0 ∧ R = 0
  good : code = 0 → S.data.toList = l ∧ F = f ∧ R = r
def TToldC (w : World) (E : Int) (L : Prop) (l : List UInt8) (f r : Int) (q1 q2 : Rat) (x : Ending) (w' : World) : Prop :=
  ∃ S F R n a ca xs b cb ys m c cc us d cd vs code, x = .returned (.tuple #[.agg #[.string S, .int .i32 F, .int .i32 R, .bool n, .slice a (List.length xs) ca, .slice b (List.length ys) cb, .bool m, .slice c (List.length us) cc, .slice d (List.length vs) cd], .int .i64 code]) ∧ (w'.ownsRow w.heap.size 115 1 (.slice a xs.length ca) xs.length (xs.map (Value.int .u32)) ∧ w'.ownsRow w.heap.size 115 1 (.slice b ys.length cb) ys.length (ys.map (Value.int .u32)) ∧ w'.ownsRow w.heap.size 115 1 (.slice c us.length cc) us.length (us.map (Value.int .u32)) ∧ w'.ownsRow w.heap.size 115 1 (.slice d vs.length cd) vs.length (vs.map (Value.int .u32))) ∧ TTells E L l f r q1 q2 S F R n xs ys m us vs code ∧ Below w.heap.size w w' ∧ ∃ W1, Cut w (.slice a xs.length ca) (.slice b ys.length cb) W1 ∧ Cut W1 (.slice c us.length cc) (.slice d vs.length cd) w'
theorem ttoldc_zero {w W : World} {E : Int} {L : Prop} {l : List UInt8} {f r : Int} {q1 q2 : Rat} {code : Int} (h : E ≠ 0 ∧ code = E ∨ E = 0 ∧ L ∧ code = 3) (hb : Below w.heap.size w W) : TToldC w E L l f r q1 q2 (.returned (.tuple #[.agg #[.string ⟨#[]⟩, .int .i32 0, .int .i32 0, .bool false, .slice none 0 0, .slice none 0 0, .bool false, .slice none 0 0, .slice none 0 0], .int .i64 code])) W := by
  have hc : code ≠ 0 := by rcases h with h | h <;> omega
  refine ⟨⟨#[]⟩, 0, 0, false, none, 0, [], none, 0, [], false, none, 0, [], none, 0, [], code, rfl, ⟨World.ownsRow_nil _ _ _ _, World.ownsRow_nil _ _ _ _, World.ownsRow_nil _ _ _ _, World.ownsRow_nil _ _ _ _⟩, ⟨⟨⟨Wd.nil, Wd.nil, Wd.nil, Wd.nil⟩, fun he => ⟨⟨rfl, rfl, rfl, rfl, rfl, rfl⟩, ?_⟩, fun he hl => ⟨⟨rfl, rfl, rfl, rfl, rfl, rfl⟩, ?_⟩, fun he hl => ?_⟩, fun _ => ⟨rfl, rfl, rfl⟩, fun e => absurd e hc⟩, hb, W, cut_nil _ _ hb.size, cut_nil _ _ (Nat.le_refl _)⟩
  · rcases h with h | h
    · exact h.2
    · exact absurd h.1 he
  · rcases h with h | h
    · exact absurd he h.1
    · exact h.2.2
  · rcases h with h | h
    · exact absurd he h.1
    · exact absurd h.2.1 hl

/-- A text's words, one behind the other. -/
def trest (l : List UInt8) : List UInt8 := (Lib.cut l [32]).2.1
def tword (l : List UInt8) : List UInt8 := (Lib.cut l [32]).1
def tgood (l : List UInt8) : Prop := tname (tword l) = true ∧ tnumOk (tword (trest l)) = true ∧ tnumOk (tword (trest (trest l))) = true ∧ ggood (trest (trest (trest l)))
open Classical in
/-- What is refused of a text, but for numbers that are too long. -/
noncomputable def tpE (s : ByteArray) : Int := if 65536 < s.size then 3 else if tgood s.data.toList then ochk (tnumV (tword (trest s.data.toList))) (tnumV (tword (trest (trest s.data.toList)))) else 230
theorem tpE_long {s : ByteArray} (h : 65536 < s.size) : tpE s = 3 := by unfold tpE; rw [if_pos h]
theorem tpE_good {s : ByteArray} (hs : s.size ≤ 65536) (h : tgood s.data.toList) : tpE s = ochk (tnumV (tword (trest s.data.toList))) (tnumV (tword (trest (trest s.data.toList)))) := by unfold tpE; rw [if_neg (by omega), if_pos h]
theorem tpE_bad {s : ByteArray} (hs : s.size ≤ 65536) (h : ¬ tgood s.data.toList) : tpE s = 230 := by unfold tpE; rw [if_neg (by omega), if_neg h]
theorem gpar_or {T : ByteArray} (hs : T.size ≤ 65536) {L : Prop} {q1 q2 : Rat} {n m : Bool} {xs ys us vs : List Int} {code : Int} (h : GTells (gpE T) L q1 q2 n xs ys m us vs code) :
    (code = 140 ∧ ¬ ggood T.data.toList) ∨ (ggood T.data.toList ∧ L ∧ code = 3) ∨ (ggood T.data.toList ∧ ¬ L ∧ code = 0 ∧ GTells 0 L q1 q2 n xs ys m us vs 0) := by
  by_cases hg : ggood T.data.toList
  · rw [gpE_good hs hg] at h
    by_cases hL : L
    · exact .inr (.inl ⟨hg, hL, (h.long rfl hL).2⟩)
    · have e := (h.good rfl hL).1
      subst e
      exact .inr (.inr ⟨hg, hL, rfl, h⟩)
  · rw [gpE_bad hs hg] at h
    exact .inl ⟨(h.bad (by decide)).2, hg⟩
theorem tclone_any (s : ByteArray) (w : World) (h : s.size ≤ 281474976710656) : Calls Tryz.prog 25 #[.string s] w fun e w' => e = .returned (.string s) ∧ Below w.heap.size w w' := by
  have HC := hid (Tryz.stringslite_Clone s w h)
  go_enter Tryz.func25, Tryz.ntmps25
  go_wp2_with fail
  refine Calls.mono HC.out ?_
  rintro e w1 ⟨rfl, hb⟩
  go_wp2_with fail
  go_ret
  exact ⟨rfl, hb⟩

set_option maxHeartbeats 1600000 in
set_option maxRecDepth 100000 in
theorem tParse_long (s : ByteArray) (w : World) (hs : 65536 < s.size) (hm : s.size ≤ 281474976710656) (L : Prop) (l : List UInt8) (f r : Int) (q1 q2 : Rat) : Calls Tryz.prog 5 #[.string s] w (TToldC w 3 L l f r q1 q2) := by
  have HX := hid (Box.made w 30 #[.string ⟨#[]⟩, .int .i32 0, .int .i32 0, .bool false, .slice none 0 0, .slice none 0 0, .bool false, .slice none 0 0, .slice none 0 0])
  have HB := hid (alloc_later w (.cells #[.string ⟨#[]⟩, .int .i32 0, .int .i32 0, .bool false, .slice none 0 0, .slice none 0 0, .bool false, .slice none 0 0, .slice none 0 0] 30))
  obtain ⟨X, hX⟩ : ∃ X, w.alloc (.cells #[.string ⟨#[]⟩, .int .i32 0, .int .i32 0, .bool false, .slice none 0 0, .slice none 0 0, .bool false, .slice none 0 0, .slice none 0 0] 30) = X := ⟨_, rfl⟩
  rw [hX] at HX HB
  have m0 : X.cell? ⟨w.heap.size, 0, none⟩ = some (.string ⟨#[]⟩) := HX.out.cell 0
  have m1 : X.cell? ⟨w.heap.size, 1, none⟩ = some (.int .i32 0) := HX.out.cell 1
  have m2 : X.cell? ⟨w.heap.size, 2, none⟩ = some (.int .i32 0) := HX.out.cell 2
  have m3 : X.cell? ⟨w.heap.size, 3, none⟩ = some (.bool false) := HX.out.cell 3
  have m4 : X.cell? ⟨w.heap.size, 4, none⟩ = some (.slice none 0 0) := HX.out.cell 4
  have m5 : X.cell? ⟨w.heap.size, 5, none⟩ = some (.slice none 0 0) := HX.out.cell 5
  have m6 : X.cell? ⟨w.heap.size, 6, none⟩ = some (.bool false) := HX.out.cell 6
  have m7 : X.cell? ⟨w.heap.size, 7, none⟩ = some (.slice none 0 0) := HX.out.cell 7
  have m8 : X.cell? ⟨w.heap.size, 8, none⟩ = some (.slice none 0 0) := HX.out.cell 8
  have f0 := HX.out.free 0
  have f1 := HX.out.free 1
  have f2 := HX.out.free 2
  have f3 := HX.out.free 3
  have f4 := HX.out.free 4
  have f5 := HX.out.free 5
  have f6 := HX.out.free 6
  have f7 := HX.out.free 7
  have f8 := HX.out.free 8
  have hs' : (65536 : Int) < (s.size : Int) := by omega
  clear hs
  go_enter Tryz.func5, Tryz.ntmps5
  go_wp2_with fail
  have B1 := box_put9 HX.out (.string ⟨#[]⟩) (.int .i32 0) (.int .i32 0) (.bool false) (.slice none 0 0) (.slice none 0 0) (.bool false) (.slice none 0 0) (.slice none 0 0)
  have G1 := below_put9 HB.out w.heap.size (Nat.le_refl _) (.string ⟨#[]⟩) (.int .i32 0) (.int .i32 0) (.bool false) (.slice none 0 0) (.slice none 0 0) (.bool false) (.slice none 0 0) (.slice none 0 0)
  clear m0 m1 m2 m3 m4 m5 m6 m7 m8 f0 f1 f2 f3 f4 f5 f6 f7 f8
  exact bodyPost_ret (tres_run (by rfl) B1 _ rfl) rfl (ttoldc_zero (E := 3) (.inl ⟨by decide, rfl⟩) G1)
end Go.Proofs.YtiaebiaeolaocaaGreatDoor

/- package tide: Parse, of any text. -/
namespace Go.Proofs.YtiaebiaeolaocaaGreatDoor
open Go.RowKit Go.Lib
set_option linter.unusedVariables false
set_option linter.unusedSimpArgs false

set_option maxHeartbeats 6400000 in
set_option maxRecDepth 100000 in
theorem tParse_any (s : ByteArray) (w : World) (hm : s.size ≤ 281474976710656) (htab : Tab w) (herr : ErrT w) : Calls Tryz.prog 5 #[.string s] w (TToldC w (tpE s) (gplong (trest (trest (trest s.data.toList)))) (tword s.data.toList) (tnumV (tword (trest s.data.toList))) (tnumV (tword (trest (trest s.data.toList)))) (rpq (gp1 (trest (trest (trest s.data.toList))))) (rpq (gp2 (trest (trest (trest s.data.toList)))))) := by
  by_cases hs : 65536 < s.size
  · rw [tpE_long hs]
    exact tParse_long s w hs hm _ _ _ _ _ _
  have HX := hid (Box.made w 30 #[.string ⟨#[]⟩, .int .i32 0, .int .i32 0, .bool false, .slice none 0 0, .slice none 0 0, .bool false, .slice none 0 0, .slice none 0 0])
  have HB := hid (alloc_later w (.cells #[.string ⟨#[]⟩, .int .i32 0, .int .i32 0, .bool false, .slice none 0 0, .slice none 0 0, .bool false, .slice none 0 0, .slice none 0 0] 30))
  obtain ⟨X, hX⟩ : ∃ X, w.alloc (.cells #[.string ⟨#[]⟩, .int .i32 0, .int .i32 0, .bool false, .slice none 0 0, .slice none 0 0, .bool false, .slice none 0 0, .slice none 0 0] 30) = X := ⟨_, rfl⟩
  rw [hX] at HX HB
  have hs' : ¬ (65536 : Int) < (s.size : Int) := by omega
  have HEG : Hid (tgood s.data.toList → tpE s = ochk (tnumV (tword (trest s.data.toList))) (tnumV (tword (trest (trest s.data.toList))))) := tpE_good (by omega)
  have HEB : Hid (¬ tgood s.data.toList → tpE s = 230) := tpE_bad (by omega)
  have HGD : Hid (tgood s.data.toList ↔ tname (tword s.data.toList) = true ∧ tnumOk (tword (trest s.data.toList)) = true ∧ tnumOk (tword (trest (trest s.data.toList))) = true ∧ ggood (trest (trest (trest s.data.toList)))) := Iff.rfl
  have hl : s.data.toList.length = s.size := Array.length_toList
  have e1 : ∀ l, (tword l).length ≤ l.length ∧ (trest l).length ≤ l.length := fun l => zcut_len l 32
  have H1 : Hid (∀ V, Calls Tryz.prog 20 #[.string s, .string ⟨#[32]⟩] V fun e w' => ∃ fd, e = .returned (.tuple #[.string ⟨(tword s.data.toList).toArray⟩, .string ⟨(trest s.data.toList).toArray⟩, .bool fd]) ∧ Below V.heap.size V w') := fun V => Calls.mono (zcut_any s 32 V hm) (by rintro e w' ⟨h1, h2⟩; exact ⟨_, h1, h2⟩)
  have HCU : ∀ l : List UInt8, l.length ≤ 65536 → ∀ V, Calls Tryz.prog 20 #[.string ⟨l.toArray⟩, .string ⟨#[32]⟩] V fun e w' => ∃ fd, e = .returned (.tuple #[.string ⟨(tword l).toArray⟩, .string ⟨(trest l).toArray⟩, .bool fd]) ∧ Below V.heap.size V w' := fun l hl V => by
    have hz : (⟨l.toArray⟩ : ByteArray).size ≤ 281474976710656 := by show l.toArray.size ≤ _; simp; omega
    have h := zcut_any ⟨l.toArray⟩ 32 V hz
    have e : (⟨l.toArray⟩ : ByteArray).data.toList = l := by simp
    rw [e] at h
    exact Calls.mono h (by rintro e w' ⟨h1, h2⟩; exact ⟨_, h1, h2⟩)
  generalize s.data.toList = l0 at *
  have z1 := e1 l0
  have z2 := e1 (trest l0)
  have z3 := e1 (trest (trest l0))
  have H2 := hid (HCU (trest l0) (by omega))
  have H3 := hid (HCU (trest (trest l0)) (by omega))
  have HRR : Hid (∀ V, Below w.heap.size w V → Calls Tryz.prog 21 #[.string ⟨(tword (trest l0)).toArray⟩, .string ⟨(tword (trest (trest l0))).toArray⟩] V fun e w' => e = .returned (.tuple #[.agg #[.int .i32 (tnumV (tword (trest l0))), .int .i32 (tnumV (tword (trest (trest l0))))], .bool (tnumOk (tword (trest l0)) && tnumOk (tword (trest (trest l0))))]) ∧ Below V.heap.size V w') := fun V hv => by
    have h := treadRotor_any ⟨(tword (trest l0)).toArray⟩ ⟨(tword (trest (trest l0))).toArray⟩ V (by show (tword (trest l0)).toArray.size ≤ _; simp; omega) (by show (tword (trest (trest l0))).toArray.size ≤ _; simp; omega) (htab.later hv) (herr.later hv)
    have q1 : (⟨(tword (trest l0)).toArray⟩ : ByteArray).data.toList = tword (trest l0) := by simp
    have q2 : (⟨(tword (trest (trest l0))).toArray⟩ : ByteArray).data.toList = tword (trest (trest l0)) := by simp
    rw [q1, q2] at h
    exact h
  have hsz3 : (⟨(trest (trest (trest l0))).toArray⟩ : ByteArray).size ≤ 65536 := by show (trest (trest (trest l0))).toArray.size ≤ _; simp; omega
  have q3 : (⟨(trest (trest (trest l0))).toArray⟩ : ByteArray).data.toList = trest (trest (trest l0)) := by simp
  have HGP : Hid (∀ V, Calls Tryz.prog 22 #[.string ⟨(trest (trest (trest l0))).toArray⟩] V (GToldC V (gpE ⟨(trest (trest (trest l0))).toArray⟩) (gplong (trest (trest (trest l0)))) (rpq (gp1 (trest (trest (trest l0))))) (rpq (gp2 (trest (trest (trest l0))))))) := fun V => by
    have h := gParse_any ⟨(trest (trest (trest l0))).toArray⟩ V (by omega)
    rw [q3] at h
    exact h
  have HGO : Hid (∀ {n m : Bool} {xs ys us vs : List Int} {code : Int}, GTells (gpE ⟨(trest (trest (trest l0))).toArray⟩) (gplong (trest (trest (trest l0)))) (rpq (gp1 (trest (trest (trest l0))))) (rpq (gp2 (trest (trest (trest l0))))) n xs ys m us vs code → (code = 140 ∧ ¬ ggood (trest (trest (trest l0)))) ∨ (ggood (trest (trest (trest l0))) ∧ gplong (trest (trest (trest l0))) ∧ code = 3) ∨ (ggood (trest (trest (trest l0))) ∧ ¬ gplong (trest (trest (trest l0))) ∧ code = 0 ∧ GTells 0 (gplong (trest (trest (trest l0)))) (rpq (gp1 (trest (trest (trest l0))))) (rpq (gp2 (trest (trest (trest l0))))) n xs ys m us vs 0)) := fun h => by
    have := gpar_or hsz3 h
    rw [q3] at this
    exact this
  have HNM : Hid (∀ V, Calls Tryz.prog 23 #[.string ⟨(tword l0).toArray⟩] V fun e w' => e = .returned (.bool (tname (tword l0))) ∧ V = w') := fun V => by
    have h := tName_any ⟨(tword l0).toArray⟩ V (by show (tword l0).toArray.size ≤ _; simp; omega)
    have q1 : (⟨(tword l0).toArray⟩ : ByteArray).data.toList = tword l0 := by simp
    rw [q1] at h
    exact h
  have HCL : Hid (∀ V, Calls Tryz.prog 25 #[.string ⟨(tword l0).toArray⟩] V fun e w' => e = .returned (.string ⟨(tword l0).toArray⟩) ∧ Below V.heap.size V w') := fun V => tclone_any _ V (by show (tword l0).toArray.size ≤ _; simp; omega)
  have HWD : Hid ((⟨(tword l0).toArray⟩ : ByteArray).data.toList = tword l0) := by show _ = _; simp
  have i1 := tnumV_in (tword (trest l0))
  have i2 := tnumV_in (tword (trest (trest l0)))
  have HOC : Hid (∀ V, Calls Tryz.prog 24 #[.agg #[.int .i32 (tnumV (tword (trest l0))), .int .i32 (tnumV (tword (trest (trest l0))))]] V fun e w' => e = .returned (.int .i64 (ochk (tnumV (tword (trest l0))) (tnumV (tword (trest (trest l0)))))) ∧ Below V.heap.size V w') := fun V => ocheck_any _ _ V ⟨by omega, by omega⟩
  generalize tpE s = E at *
  generalize tgood l0 = TG at *
  generalize gplong (trest (trest (trest l0))) = GL at *
  generalize rpq (gp1 (trest (trest (trest l0)))) = q1 at *
  generalize rpq (gp2 (trest (trest (trest l0)))) = q2 at *
  generalize gpE ⟨(trest (trest (trest l0))).toArray⟩ = GE at *
  generalize ggood (trest (trest (trest l0))) = GG at *
  generalize (⟨(trest (trest (trest l0))).toArray⟩ : ByteArray) = B3 at *
  generalize ochk (tnumV (tword (trest l0))) (tnumV (tword (trest (trest l0)))) = OC at *
  generalize tnumV (tword (trest l0)) = F at *
  generalize tnumV (tword (trest (trest l0))) = R at *
  generalize tnumOk (tword (trest l0)) = N1 at *
  generalize tnumOk (tword (trest (trest l0))) = N2 at *
  generalize tname (tword l0) = NM at *
  generalize (⟨(tword (trest l0)).toArray⟩ : ByteArray) = C1 at *
  generalize (⟨(tword (trest (trest l0))).toArray⟩ : ByteArray) = C2 at *
  generalize (⟨(trest (trest l0)).toArray⟩ : ByteArray) = B2 at *
  generalize (⟨(trest l0).toArray⟩ : ByteArray) = B1 at *
  generalize (tword l0).toArray = A1 at *
  generalize tword l0 = l1 at *
  clear z1 z2 z3 e1 HCU htab herr hs q3 hsz3 hl
  go_enter Tryz.func5, Tryz.ntmps5
  go_wp2_with fail
  refine Calls.mono (H1.out _) ?_
  rintro e w1 ⟨d1, rfl, hb1⟩
  have HW1 := hid (bt HB.out hb1)
  have HR1 := hid (HX.out.later hb1 HX.out.lt)
  clear hb1 H1
  go_wp2_with fail
  refine Calls.mono (H2.out _) ?_
  rintro e w2 ⟨d2, rfl, hb2⟩
  have HW2 := hid (bt HW1.out hb2)
  have HR2 := hid (HR1.out.later hb2 HR1.out.lt)
  clear hb2 H2
  go_wp2_with fail
  refine Calls.mono (H3.out _) ?_
  rintro e w3 ⟨d3, rfl, hb3⟩
  have HW3 := hid (bt HW2.out hb3)
  have HR3 := hid (HR2.out.later hb3 HR2.out.lt)
  clear hb3 H3
  go_wp2_with fail
  refine Calls.mono (HRR.out _ HW3.out) ?_
  rintro e w4 ⟨rfl, hb4⟩
  have HN := hid (Box.made w4 23 #[.int .i32 F, .int .i32 R])
  have HNB := hid (alloc_later w4 (.cells #[.int .i32 F, .int .i32 R] 23))
  obtain ⟨Y4, hY4⟩ : ∃ Y4, w4.alloc (.cells #[.int .i32 F, .int .i32 R] 23) = Y4 := ⟨_, rfl⟩
  rw [hY4] at HN HNB
  have HW4 := hid (bt HW3.out (bt hb4 HNB.out))
  have HR4 := hid (HR3.out.later (bt hb4 HNB.out) HR3.out.lt)
  have h4Y : w4.heap.size < Y4.heap.size := HN.out.lt
  have hlt4 : w.heap.size < w4.heap.size := Nat.lt_of_lt_of_le HR3.out.lt hb4.size
  clear hb4 HRR
  go_wp2_with fail
  refine Calls.mono (HGP.out _) ?_
  rintro e w5 ⟨n, a, ca, xs, b, cb, ys, m, c, cc, us, d, cd, vs, code, rfl, hoo, ht, hb5, W1, hc1, hc2⟩
  have HM := hid (Box.made w5 28 #[.bool n, .slice a xs.length ca, .slice b ys.length cb, .bool m, .slice c us.length cc, .slice d vs.length cd])
  have HMB := hid (alloc_later w5 (.cells #[.bool n, .slice a xs.length ca, .slice b ys.length cb, .bool m, .slice c us.length cc, .slice d vs.length cd] 28))
  obtain ⟨Y5, hY5⟩ : ∃ Y5, w5.alloc (.cells #[.bool n, .slice a xs.length ca, .slice b ys.length cb, .bool m, .slice c us.length cc, .slice d vs.length cd] 28) = Y5 := ⟨_, rfl⟩
  rw [hY5] at HM HMB
  have hb5' : Below Y4.heap.size Y4 Y5 := bt hb5 HMB.out
  have hlt5 : w.heap.size < w5.heap.size := Nat.lt_of_lt_of_le HR4.out.lt hb5.size
  have HW5 := hid (bt HW4.out hb5')
  have HR5 := hid (HR4.out.later hb5' HR4.out.lt)
  have HN5 := hid (HN.out.later hb5' HN.out.lt)
  have HOO := hid (And.intro (owns_later hoo.1 HMB.out) (And.intro (owns_later hoo.2.1 HMB.out) (And.intro (owns_later hoo.2.2.1 HMB.out) (owns_later hoo.2.2.2 HMB.out))))
  have HCC : Hid (∃ W1, Cut Y4 (.slice a xs.length ca) (.slice b ys.length cb) W1 ∧ Cut W1 (.slice c us.length cc) (.slice d vs.length cd) Y5) := ⟨W1, hc1, hc2.up (Nat.le_refl _) HMB.out.size⟩
  have HTO := hid (HGO.out ht)
  clear hoo hc1 hc2 ht hb5 hb5' HGP HGO
  have m0 : Y5.cell? ⟨w.heap.size, 0, none⟩ = some (.string ⟨#[]⟩) := HR5.out.cell 0
  have m1 : Y5.cell? ⟨w.heap.size, 1, none⟩ = some (.int .i32 0) := HR5.out.cell 1
  have m2 : Y5.cell? ⟨w.heap.size, 2, none⟩ = some (.int .i32 0) := HR5.out.cell 2
  have m3 : Y5.cell? ⟨w.heap.size, 3, none⟩ = some (.bool false) := HR5.out.cell 3
  have m4 : Y5.cell? ⟨w.heap.size, 4, none⟩ = some (.slice none 0 0) := HR5.out.cell 4
  have m5 : Y5.cell? ⟨w.heap.size, 5, none⟩ = some (.slice none 0 0) := HR5.out.cell 5
  have m6 : Y5.cell? ⟨w.heap.size, 6, none⟩ = some (.bool false) := HR5.out.cell 6
  have m7 : Y5.cell? ⟨w.heap.size, 7, none⟩ = some (.slice none 0 0) := HR5.out.cell 7
  have m8 : Y5.cell? ⟨w.heap.size, 8, none⟩ = some (.slice none 0 0) := HR5.out.cell 8
  have f0 := HR5.out.free 0
  have f1 := HR5.out.free 1
  have f2 := HR5.out.free 2
  have f3 := HR5.out.free 3
  have f4 := HR5.out.free 4
  have f5 := HR5.out.free 5
  have f6 := HR5.out.free 6
  have f7 := HR5.out.free 7
  have f8 := HR5.out.free 8
  cases NM with
  | false =>
    have HE := hid (HEB.out (fun h => by have := (HGD.out.1 h).1; cases this))
    clear HTO
    go_wp2_with fail
    refine Calls.mono (HNM.out _) ?_
    rintro e w6 ⟨rfl, rfl⟩
    go_wp2_with fail
    have B1 := box_put9 HR5.out (.string ⟨#[]⟩) (.int .i32 0) (.int .i32 0) (.bool false) (.slice none 0 0) (.slice none 0 0) (.bool false) (.slice none 0 0) (.slice none 0 0)
    have G1 := below_put9 HW5.out w.heap.size (Nat.le_refl _) (.string ⟨#[]⟩) (.int .i32 0) (.int .i32 0) (.bool false) (.slice none 0 0) (.slice none 0 0) (.bool false) (.slice none 0 0) (.slice none 0 0)
    clear m0 m1 m2 m3 m4 m5 m6 m7 m8 f0 f1 f2 f3 f4 f5 f6 f7 f8
    exact bodyPost_ret (tres_run (by rfl) B1 _ rfl) rfl (ttoldc_zero (E := E) (.inl ⟨by rw [HE.out]; decide, HE.out.symm⟩) G1)
  | true =>
    by_cases hN : (N1 && N2) = false
    · have HE := hid (HEB.out (fun h => by have h1 := (HGD.out.1 h).2.1; have h2 := (HGD.out.1 h).2.2.1; rw [h1, h2] at hN; cases hN))
      rw [hN]
      clear HTO
      go_wp2_with fail
      refine Calls.mono (HNM.out _) ?_
      rintro e w6 ⟨rfl, rfl⟩
      go_wp2_with fail
      have B1 := box_put9 HR5.out (.string ⟨#[]⟩) (.int .i32 0) (.int .i32 0) (.bool false) (.slice none 0 0) (.slice none 0 0) (.bool false) (.slice none 0 0) (.slice none 0 0)
      have G1 := below_put9 HW5.out w.heap.size (Nat.le_refl _) (.string ⟨#[]⟩) (.int .i32 0) (.int .i32 0) (.bool false) (.slice none 0 0) (.slice none 0 0) (.bool false) (.slice none 0 0) (.slice none 0 0)
      clear m0 m1 m2 m3 m4 m5 m6 m7 m8 f0 f1 f2 f3 f4 f5 f6 f7 f8
      exact bodyPost_ret (tres_run (by rfl) B1 _ rfl) rfl (ttoldc_zero (E := E) (.inl ⟨by rw [HE.out]; decide, HE.out.symm⟩) G1)
    · have hN' : (N1 && N2) = true := by simpa using hN
      rw [hN']
      have HNN : Hid (N1 = true ∧ N2 = true) := by show _ ∧ _; simpa using hN'
      clear hN hN'
      rcases HTO.out with ⟨rfl, hg⟩ | ⟨hg, hL, rfl⟩ | ⟨hg, hL, rfl, ht⟩
      · have HE := hid (HEB.out (fun h => hg (HGD.out.1 h).2.2.2))
        clear HTO hg
        go_wp2_with fail
        refine Calls.mono (HNM.out _) ?_
        rintro e w6 ⟨rfl, rfl⟩
        go_wp2_with fail
        have B1 := box_put9 HR5.out (.string ⟨#[]⟩) (.int .i32 0) (.int .i32 0) (.bool false) (.slice none 0 0) (.slice none 0 0) (.bool false) (.slice none 0 0) (.slice none 0 0)
        have G1 := below_put9 HW5.out w.heap.size (Nat.le_refl _) (.string ⟨#[]⟩) (.int .i32 0) (.int .i32 0) (.bool false) (.slice none 0 0) (.slice none 0 0) (.bool false) (.slice none 0 0) (.slice none 0 0)
        clear m0 m1 m2 m3 m4 m5 m6 m7 m8 f0 f1 f2 f3 f4 f5 f6 f7 f8
        exact bodyPost_ret (tres_run (by rfl) B1 _ rfl) rfl (ttoldc_zero (E := E) (.inl ⟨by rw [HE.out]; decide, HE.out.symm⟩) G1)
      · have HE := hid (HEG.out (HGD.out.2 ⟨rfl, HNN.out.1, HNN.out.2, hg⟩))
        have HL := hid hL
        clear HTO hg hL
        go_wp2_with fail
        refine Calls.mono (HNM.out _) ?_
        rintro e w6 ⟨rfl, rfl⟩
        have r0 : Y5.cell? ⟨w4.heap.size, 0, none⟩ = some (.int .i32 F) := HN5.out.cell 0
        have r1 : Y5.cell? ⟨w4.heap.size, 1, none⟩ = some (.int .i32 R) := HN5.out.cell 1
        go_wp2_with fail
        refine Calls.mono (HOC.out _) ?_
        rintro e w6 ⟨rfl, hb6⟩
        have HW6 := hid (bt HW5.out hb6)
        have HR6 := hid (HR5.out.later hb6 HR5.out.lt)
        clear hb6 r0 r1 HOC m0 m1 m2 m3 m4 m5 m6 m7 m8 f0 f1 f2 f3 f4 f5 f6 f7 f8
        have m0 : w6.cell? ⟨w.heap.size, 0, none⟩ = some (.string ⟨#[]⟩) := HR6.out.cell 0
        have m1 : w6.cell? ⟨w.heap.size, 1, none⟩ = some (.int .i32 0) := HR6.out.cell 1
        have m2 : w6.cell? ⟨w.heap.size, 2, none⟩ = some (.int .i32 0) := HR6.out.cell 2
        have m3 : w6.cell? ⟨w.heap.size, 3, none⟩ = some (.bool false) := HR6.out.cell 3
        have m4 : w6.cell? ⟨w.heap.size, 4, none⟩ = some (.slice none 0 0) := HR6.out.cell 4
        have m5 : w6.cell? ⟨w.heap.size, 5, none⟩ = some (.slice none 0 0) := HR6.out.cell 5
        have m6 : w6.cell? ⟨w.heap.size, 6, none⟩ = some (.bool false) := HR6.out.cell 6
        have m7 : w6.cell? ⟨w.heap.size, 7, none⟩ = some (.slice none 0 0) := HR6.out.cell 7
        have m8 : w6.cell? ⟨w.heap.size, 8, none⟩ = some (.slice none 0 0) := HR6.out.cell 8
        have f0 := HR6.out.free 0
        have f1 := HR6.out.free 1
        have f2 := HR6.out.free 2
        have f3 := HR6.out.free 3
        have f4 := HR6.out.free 4
        have f5 := HR6.out.free 5
        have f6 := HR6.out.free 6
        have f7 := HR6.out.free 7
        have f8 := HR6.out.free 8
        by_cases hO : OC = 0
        · subst hO
          go_wp2_with fail
          have B1 := box_put9 HR6.out (.string ⟨#[]⟩) (.int .i32 0) (.int .i32 0) (.bool false) (.slice none 0 0) (.slice none 0 0) (.bool false) (.slice none 0 0) (.slice none 0 0)
          have G1 := below_put9 HW6.out w.heap.size (Nat.le_refl _) (.string ⟨#[]⟩) (.int .i32 0) (.int .i32 0) (.bool false) (.slice none 0 0) (.slice none 0 0) (.bool false) (.slice none 0 0) (.slice none 0 0)
          clear m0 m1 m2 m3 m4 m5 m6 m7 m8 f0 f1 f2 f3 f4 f5 f6 f7 f8
          exact bodyPost_ret (tres_run (by rfl) B1 _ rfl) rfl (ttoldc_zero (E := E) (.inr ⟨HE.out, HL.out, rfl⟩) G1)
        · have hO' : (OC == 0) = false := by simp [hO]
          have hO2 : (OC != 0) = true := by simp [hO]
          go_wp2_with fail
          have B1 := box_put9 HR6.out (.string ⟨#[]⟩) (.int .i32 0) (.int .i32 0) (.bool false) (.slice none 0 0) (.slice none 0 0) (.bool false) (.slice none 0 0) (.slice none 0 0)
          have G1 := below_put9 HW6.out w.heap.size (Nat.le_refl _) (.string ⟨#[]⟩) (.int .i32 0) (.int .i32 0) (.bool false) (.slice none 0 0) (.slice none 0 0) (.bool false) (.slice none 0 0) (.slice none 0 0)
          clear m0 m1 m2 m3 m4 m5 m6 m7 m8 f0 f1 f2 f3 f4 f5 f6 f7 f8
          exact bodyPost_ret (tres_run (by rfl) B1 _ rfl) rfl (ttoldc_zero (E := E) (.inl ⟨by rw [HE.out]; exact hO, HE.out.symm⟩) G1)
      · have HE := hid (HEG.out (HGD.out.2 ⟨rfl, HNN.out.1, HNN.out.2, hg⟩))
        have HT := hid ht
        have HL := hid hL
        clear HTO hg hL ht
        go_wp2_with fail
        refine Calls.mono (HNM.out _) ?_
        rintro e w6 ⟨rfl, rfl⟩
        have r0 : Y5.cell? ⟨w4.heap.size, 0, none⟩ = some (.int .i32 F) := HN5.out.cell 0
        have r1 : Y5.cell? ⟨w4.heap.size, 1, none⟩ = some (.int .i32 R) := HN5.out.cell 1
        go_wp2_with fail
        refine Calls.mono (HOC.out _) ?_
        rintro e w6 ⟨rfl, hb6⟩
        have HW6 := hid (bt HW5.out hb6)
        have HR6 := hid (HR5.out.later hb6 HR5.out.lt)
        have HN6 := hid (HN5.out.later hb6 HN5.out.lt)
        have HM6 := hid (HM.out.later hb6 HM.out.lt)
        have HO6 := hid (And.intro (owns_later HOO.out.1 hb6) (And.intro (owns_later HOO.out.2.1 hb6) (And.intro (owns_later HOO.out.2.2.1 hb6) (owns_later HOO.out.2.2.2 hb6))))
        have HC6 : Hid (∃ W1, Cut Y4 (.slice a xs.length ca) (.slice b ys.length cb) W1 ∧ Cut W1 (.slice c us.length cc) (.slice d vs.length cd) w6) := by
          obtain ⟨W1, h1, h2⟩ := HCC.out
          exact ⟨W1, h1, h2.up (Nat.le_refl _) hb6.size⟩
        clear hb6 r0 r1 HOC m0 m1 m2 m3 m4 m5 m6 m7 m8 f0 f1 f2 f3 f4 f5 f6 f7 f8
        by_cases hO : OC = 0
        · subst hO
          have HK : Hid (∀ V, Box V w4.heap.size 23 #[.int .i32 F, .int .i32 R] → Box V w5.heap.size 28 #[.bool n, .slice a xs.length ca, .slice b ys.length cb, .bool m, .slice c us.length cc, .slice d vs.length cd] → V.cell? ⟨w4.heap.size, 0, none⟩ = some (.int .i32 F) ∧ V.cell? ⟨w4.heap.size, 1, none⟩ = some (.int .i32 R) ∧ V.cell? ⟨w5.heap.size, 0, none⟩ = some (.bool n) ∧ V.cell? ⟨w5.heap.size, 1, none⟩ = some (.slice a xs.length ca) ∧ V.cell? ⟨w5.heap.size, 2, none⟩ = some (.slice b ys.length cb) ∧ V.cell? ⟨w5.heap.size, 3, none⟩ = some (.bool m) ∧ V.cell? ⟨w5.heap.size, 4, none⟩ = some (.slice c us.length cc) ∧ V.cell? ⟨w5.heap.size, 5, none⟩ = some (.slice d vs.length cd)) := fun V h1 h2 => ⟨h1.cell 0, h1.cell 1, h2.cell 0, h2.cell 1, h2.cell 2, h2.cell 3, h2.cell 4, h2.cell 5⟩
          have hs0 := HK.out w6.drew HN6.out HM6.out
          have hd0 := hid (Below.refl w6.heap.size w6).drew
          have HC7 : Hid (∀ V, Below w6.heap.size w6 V → Calls Tryz.prog 25 #[.string ⟨A1⟩] V fun e w' => e = .returned (.string ⟨A1⟩) ∧ Below w6.heap.size w6 w') := fun V hv => Calls.mono (HCL.out V) (by rintro e w' ⟨h1, h2⟩; exact ⟨h1, bt hv h2⟩)
          go_wp2_with fail
          go_region_held3 (fun V : World => V.cell? ⟨w4.heap.size, 0, none⟩ = some (.int .i32 F) ∧ V.cell? ⟨w4.heap.size, 1, none⟩ = some (.int .i32 R) ∧ V.cell? ⟨w5.heap.size, 0, none⟩ = some (.bool n) ∧ V.cell? ⟨w5.heap.size, 1, none⟩ = some (.slice a xs.length ca) ∧ V.cell? ⟨w5.heap.size, 2, none⟩ = some (.slice b ys.length cb) ∧ V.cell? ⟨w5.heap.size, 3, none⟩ = some (.bool m) ∧ V.cell? ⟨w5.heap.size, 4, none⟩ = some (.slice c us.length cc) ∧ V.cell? ⟨w5.heap.size, 5, none⟩ = some (.slice d vs.length cd)) (first | exact hs9 | exact hs1 | exact hs0)
            ((go_at_call 25; (with_reducible refine Calls.mono (HC7.out _ hd0.out) ?_); rintro e w7 ⟨rfl, hb7⟩; have hs1 := HK.out _ (HN6.out.later hb7 HN6.out.lt) (HM6.out.later hb7 HM6.out.lt); have HQ := hid (HR6.out.later hb7 HR6.out.lt); obtain ⟨A0, A1, A2, A3, A4, A5, A6, A7, A8, hA0, hA1, hA2, hA3, hA4, hA5, hA6, hA7, hA8, ⟨q0_, q1_, q2_, q3_, q4_, q5_, q6_, q7_, q8_⟩, p0_, p1_, p2_, p3_, p4_, p5_, p6_, p7_, p8_⟩ := tchain9 HQ.out (.string ⟨A1⟩) (.int .i32 F) (.int .i32 R) (.bool n) (.slice a xs.length ca) (.slice b ys.length cb) (.bool m) (.slice c us.length cc) (.slice d vs.length cd); have hs9 := HK.out A8 (tchain_far (HN6.out.later hb7 HN6.out.lt) (Nat.ne_of_gt hlt4) hA0 hA1 hA2 hA3 hA4 hA5 hA6 hA7 hA8) (tchain_far (HM6.out.later hb7 HM6.out.lt) (Nat.ne_of_gt hlt5) hA0 hA1 hA2 hA3 hA4 hA5 hA6 hA7 hA8)))
          all_goals
            have HW7 := hid (bt HW6.out hb7)
            have HO7 := hid (And.intro (owns_later HO6.out.1 hb7) (And.intro (owns_later HO6.out.2.1 hb7) (And.intro (owns_later HO6.out.2.2.1 hb7) (owns_later HO6.out.2.2.2 hb7))))
            have HC7' : Hid (∃ W1, Cut Y4 (.slice a xs.length ca) (.slice b ys.length cb) W1 ∧ Cut W1 (.slice c us.length cc) (.slice d vs.length cd) w7) := by
              obtain ⟨W1, h1, h2⟩ := HC6.out
              exact ⟨W1, h1, h2.up (Nat.le_refl _) hb7.size⟩
            clear hs0 hs1 hs9 hb7 HC7 HCL HK q0_ p0_ q1_ p1_ q2_ p2_ q3_ p3_ q4_ p4_ q5_ p5_ q6_ p6_ q7_ p7_ q8_ p8_
            subst hA0 hA1 hA2 hA3 hA4 hA5 hA6 hA7 hA8
            go_wp2_with fail
            have B1 := box_put9 HQ.out (.string ⟨A1⟩) (.int .i32 F) (.int .i32 R) (.bool n) (.slice a xs.length ca) (.slice b ys.length cb) (.bool m) (.slice c us.length cc) (.slice d vs.length cd)
            have G1 := below_put9 HW7.out w.heap.size (Nat.le_refl _) (.string ⟨A1⟩) (.int .i32 F) (.int .i32 R) (.bool n) (.slice a xs.length ca) (.slice b ys.length cb) (.bool m) (.slice c us.length cc) (.slice d vs.length cd)
            have hszY : w.heap.size ≤ Y4.heap.size := by omega
            have hput : ∀ {base k : Nat} {v : Value} {l : List Value}, w7.ownsRow base 115 1 v k l → (∀ g, v.ownBlock = some g → Y4.heap.size ≤ g) → (((((((((w7.setCell ⟨w.heap.size, 0, none⟩ (.string ⟨A1⟩)).setCell ⟨w.heap.size, 1, none⟩ (.int .i32 F)).setCell ⟨w.heap.size, 2, none⟩ (.int .i32 R)).setCell ⟨w.heap.size, 3, none⟩ (.bool n)).setCell ⟨w.heap.size, 4, none⟩ (.slice a xs.length ca)).setCell ⟨w.heap.size, 5, none⟩ (.slice b ys.length cb)).setCell ⟨w.heap.size, 6, none⟩ (.bool m)).setCell ⟨w.heap.size, 7, none⟩ (.slice c us.length cc)).setCell ⟨w.heap.size, 8, none⟩ (.slice d vs.length cd)).ownsRow base 115 1 v k l := fun h hb => own_put9 h _ (fun g hg => by have := hb g hg; omega) _ _ _ _ _ _ _ _ _
            refine bodyPost_ret (tres_run (by rfl) B1 _ rfl) rfl ?_
            obtain ⟨W1, hc1, hc2⟩ := HC7'.out
            refine ⟨⟨A1⟩, F, R, n, a, ca, xs, b, cb, ys, m, c, cc, us, d, cd, vs, 0, rfl, ⟨owns_base (hput HO7.out.1 (fun g hg => (HO7.out.1.lt g hg).1)) hszY, owns_base (hput HO7.out.2.1 (fun g hg => (HO7.out.2.1.lt g hg).1)) hszY, owns_base (hput HO7.out.2.2.1 (fun g hg => (HO7.out.2.2.1.lt g hg).1)) hszY, owns_base (hput HO7.out.2.2.2 (fun g hg => (HO7.out.2.2.2.lt g hg).1)) hszY⟩, ⟨by rw [HE.out]; exact HT.out, fun h => absurd rfl h, fun _ => ⟨HWD.out, rfl, rfl⟩⟩, G1, W1, hc1.up hszY (Nat.le_refl _), hc2.up (Nat.le_refl _) (by simp [World.setCell])⟩
        · have hO' : (OC == 0) = false := by simp [hO]
          have hO2 : (OC != 0) = true := by simp [hO]
          have m0 : w6.cell? ⟨w.heap.size, 0, none⟩ = some (.string ⟨#[]⟩) := HR6.out.cell 0
          have m1 : w6.cell? ⟨w.heap.size, 1, none⟩ = some (.int .i32 0) := HR6.out.cell 1
          have m2 : w6.cell? ⟨w.heap.size, 2, none⟩ = some (.int .i32 0) := HR6.out.cell 2
          have m3 : w6.cell? ⟨w.heap.size, 3, none⟩ = some (.bool false) := HR6.out.cell 3
          have m4 : w6.cell? ⟨w.heap.size, 4, none⟩ = some (.slice none 0 0) := HR6.out.cell 4
          have m5 : w6.cell? ⟨w.heap.size, 5, none⟩ = some (.slice none 0 0) := HR6.out.cell 5
          have m6 : w6.cell? ⟨w.heap.size, 6, none⟩ = some (.bool false) := HR6.out.cell 6
          have m7 : w6.cell? ⟨w.heap.size, 7, none⟩ = some (.slice none 0 0) := HR6.out.cell 7
          have m8 : w6.cell? ⟨w.heap.size, 8, none⟩ = some (.slice none 0 0) := HR6.out.cell 8
          have f0 := HR6.out.free 0
          have f1 := HR6.out.free 1
          have f2 := HR6.out.free 2
          have f3 := HR6.out.free 3
          have f4 := HR6.out.free 4
          have f5 := HR6.out.free 5
          have f6 := HR6.out.free 6
          have f7 := HR6.out.free 7
          have f8 := HR6.out.free 8
          go_wp2_with fail
          have B1 := box_put9 HR6.out (.string ⟨#[]⟩) (.int .i32 0) (.int .i32 0) (.bool false) (.slice none 0 0) (.slice none 0 0) (.bool false) (.slice none 0 0) (.slice none 0 0)
          have G1 := below_put9 HW6.out w.heap.size (Nat.le_refl _) (.string ⟨#[]⟩) (.int .i32 0) (.int .i32 0) (.bool false) (.slice none 0 0) (.slice none 0 0) (.bool false) (.slice none 0 0) (.slice none 0 0)
          clear m0 m1 m2 m3 m4 m5 m6 m7 m8 f0 f1 f2 f3 f4 f5 f6 f7 f8
          exact bodyPost_ret (tres_run (by rfl) B1 _ rfl) rfl (ttoldc_zero (E := E) (.inl ⟨by rw [HE.out]; exact hO, HE.out.symm⟩) G1)
end Go.Proofs.YtiaebiaeolaocaaGreatDoor

/- Layer 13: the laws' example and awake: what the document's examples say. -/
namespace Go.Proofs.YtiaebiaeolaocaaGreatDoor
open Go.RowKit Go.Lib
set_option linter.unusedVariables false
set_option linter.unusedSimpArgs false

/-- A fraction that is known, beside a code. -/
def ZKt (w : World) (n : Bool) (x y : Int) (e : Ending) (w' : World) : Prop := ∃ a ca b cb, e = .returned (.tuple #[.agg #[.bool n, .slice a 1 ca, .slice b 1 cb], .int .i64 0]) ∧ Hid (w'.ownsRow w.heap.size 115 1 (.slice a 1 ca) 1 [.int .u32 x] ∧ w'.ownsRow w.heap.size 115 1 (.slice b 1 cb) 1 [.int .u32 y]) ∧ Hid (Below w.heap.size w w')
theorem zsmall_kn (x y : Int) (w : World) (x0 : -9223372036854775808 ≤ x) (x1 : x ≤ 9223372036854775807) (y0 : -9223372036854775808 ≤ y) (y1 : y ≤ 9223372036854775807) (hy : y ≠ 0) (n : Bool) (p q : Int) (wp : Wd [p]) (wq : Wd [q]) (hk : rchk n [p] [q] = 0) (hq : rq n [p] [q] = Rat.divInt x y) : Calls Tryz.prog 16 #[.int .i64 x, .int .i64 y] w (ZKt w n p q) := by
  have h := rsmall_any x y w x0 x1 y0 y1
  rw [if_neg hy] at h
  refine Calls.mono h ?_
  rintro e w' ⟨n', v, xs', u, ys', c1, rfl, o1, o2, t1, hb, _⟩
  obtain ⟨rfl, rfl, rfl, rfl⟩ := t1.lit rfl wp wq hk hq
  obtain ⟨a, ca, rfl⟩ := own_slice' o1
  obtain ⟨b, cb, rfl⟩ := own_slice' o2
  exact ⟨a, ca, b, cb, rfl, ⟨o1, o2⟩, hb⟩
theorem zw (x : Int) (h0 : 0 ≤ x) (h1 : x ≤ 4294967295) : Wd [x] := Wd.one ⟨h0, h1⟩
theorem zk32 : rchk false [3] [2] = 0 := rchk_good (by simp) (by simp) rfl rfl (by simp) (.inl rfl) (by decide)
theorem zk11 : rchk true [1] [1] = 0 := rchk_good (by simp) (by simp) rfl rfl (by simp) (.inr (by simp)) (by decide)
theorem zg : gchk false [3] [2] true [1] [1] = 0 := by unfold gchk; rw [zk32, fstE_zero, zk11]
theorem zo : ochk 8 1 = 0 := by
  rcases ochk_or 8 1 with h | h
  · exact h.1
  · exact absurd (by unfold rOK; decide) h.2
theorem zname : tname [77, 50] = true := by decide +kernel
theorem ztchk : tchk [77, 50] 8 1 0 = 0 := by rw [tchk_rest _ _ _ zname, zo, fstE_zero]
/-- What tells the example, alone or beside a code. -/
def TEx (w : World) (e : Ending) (w' : World) : Prop := ∃ a ca b cb c cc d cd, e = .returned (.agg #[.string ⟨#[77, 50]⟩, .int .i32 8, .int .i32 1, .bool false, .slice a 1 ca, .slice b 1 cb, .bool true, .slice c 1 cc, .slice d 1 cd]) ∧ Hid (w'.ownsRow w.heap.size 115 1 (.slice a 1 ca) 1 [.int .u32 3] ∧ w'.ownsRow w.heap.size 115 1 (.slice b 1 cb) 1 [.int .u32 2] ∧ w'.ownsRow w.heap.size 115 1 (.slice c 1 cc) 1 [.int .u32 1] ∧ w'.ownsRow w.heap.size 115 1 (.slice d 1 cd) 1 [.int .u32 1]) ∧ Hid (Below w.heap.size w w')
def TEt (w : World) (e : Ending) (w' : World) : Prop := ∃ a ca b cb c cc d cd, e = .returned (.tuple #[.agg #[.string ⟨#[77, 50]⟩, .int .i32 8, .int .i32 1, .bool false, .slice a 1 ca, .slice b 1 cb, .bool true, .slice c 1 cc, .slice d 1 cd], .int .i64 0]) ∧ Hid (w'.ownsRow w.heap.size 115 1 (.slice a 1 ca) 1 [.int .u32 3] ∧ w'.ownsRow w.heap.size 115 1 (.slice b 1 cb) 1 [.int .u32 2] ∧ w'.ownsRow w.heap.size 115 1 (.slice c 1 cc) 1 [.int .u32 1] ∧ w'.ownsRow w.heap.size 115 1 (.slice d 1 cd) 1 [.int .u32 1]) ∧ Hid (Below w.heap.size w w')
set_option maxHeartbeats 1600000 in
set_option maxRecDepth 100000 in
theorem texample_any (w : World) : Calls Tryz.prog 19 #[] w (TEx w) := by
  have HX := hid (Box.made w 30 #[.string ⟨#[]⟩, .int .i32 0, .int .i32 0, .bool false, .slice none 0 0, .slice none 0 0, .bool false, .slice none 0 0, .slice none 0 0])
  have HB := hid (alloc_later w (.cells #[.string ⟨#[]⟩, .int .i32 0, .int .i32 0, .bool false, .slice none 0 0, .slice none 0 0, .bool false, .slice none 0 0, .slice none 0 0] 30))
  obtain ⟨X, hX⟩ : ∃ X, w.alloc (.cells #[.string ⟨#[]⟩, .int .i32 0, .int .i32 0, .bool false, .slice none 0 0, .slice none 0 0, .bool false, .slice none 0 0, .slice none 0 0] 30) = X := ⟨_, rfl⟩
  rw [hX] at HX HB
  have H1 : Hid (∀ V, Calls Tryz.prog 16 #[.int .i64 3, .int .i64 2] V (ZKt V false 3 2)) := fun V => zsmall_kn 3 2 V (by decide) (by decide) (by decide) (by decide) (by decide) false 3 2 (zw 3 (by decide) (by decide)) (zw 2 (by decide) (by decide)) zk32 (by decide +kernel)
  have H2 : Hid (∀ V, Calls Tryz.prog 16 #[.int .i64 (-1), .int .i64 1] V (ZKt V true 1 1)) := fun V => zsmall_kn (-1) 1 V (by decide) (by decide) (by decide) (by decide) (by decide) true 1 1 (zw 1 (by decide) (by decide)) (zw 1 (by decide) (by decide)) zk11 (by decide +kernel)
  go_enter Tryz.func19, Tryz.ntmps19
  go_wp2_with fail
  refine Calls.mono (H1.out _) ?_
  rintro e w1 ⟨a, ca, b, cb, rfl, hs1, hb1⟩
  have HN := hid (Box.made w1 26 #[.bool false, .slice a 1 ca, .slice b 1 cb])
  have HNB := hid (alloc_later w1 (.cells #[.bool false, .slice a 1 ca, .slice b 1 cb] 26))
  obtain ⟨Y, hY⟩ : ∃ Y, w1.alloc (.cells #[.bool false, .slice a 1 ca, .slice b 1 cb] 26) = Y := ⟨_, rfl⟩
  rw [hY] at HN HNB
  go_wp2_with fail
  refine Calls.mono (H2.out _) ?_
  rintro e w2 ⟨c, cc, d, cd, rfl, hs2, hb2⟩
  have HM := hid (Box.made w2 26 #[.bool true, .slice c 1 cc, .slice d 1 cd])
  have HMB := hid (alloc_later w2 (.cells #[.bool true, .slice c 1 cc, .slice d 1 cd] 26))
  obtain ⟨Q, hQ⟩ : ∃ Q, w2.alloc (.cells #[.bool true, .slice c 1 cc, .slice d 1 cd] 26) = Q := ⟨_, rfl⟩
  rw [hQ] at HM HMB
  have HYQ := hid (bt hb2.out HMB.out)
  have HXQ := hid (bt HB.out (bt hb1.out (bt HNB.out HYQ.out)))
  have HR := hid (HX.out.later (bt hb1.out (bt HNB.out HYQ.out)) HX.out.lt)
  have HN2 := hid (HN.out.later HYQ.out HN.out.lt)
  have HSS : Hid (Q.ownsRow X.heap.size 115 1 (.slice a 1 ca) 1 [.int .u32 3] ∧ Q.ownsRow X.heap.size 115 1 (.slice b 1 cb) 1 [.int .u32 2] ∧ Q.ownsRow Y.heap.size 115 1 (.slice c 1 cc) 1 [.int .u32 1] ∧ Q.ownsRow Y.heap.size 115 1 (.slice d 1 cd) 1 [.int .u32 1]) := ⟨owns_later hs1.out.1 (bt HNB.out HYQ.out), owns_later hs1.out.2 (bt HNB.out HYQ.out), owns_later hs2.out.1 HMB.out, owns_later hs2.out.2 HMB.out⟩
  have hX1 : X.heap.size ≤ Y.heap.size := (bt hb1.out HNB.out).size
  have hwX : w.heap.size < X.heap.size := HX.out.lt
  have hlt : w.heap.size < Q.heap.size := HR.out.lt
  clear hs1 hb1 hs2 hb2 H1 H2
  have ka0 : Q.cell? ⟨w1.heap.size, 0, none⟩ = some (.bool false) := HN2.out.cell 0
  have ka1 : Q.cell? ⟨w1.heap.size, 1, none⟩ = some (.slice a 1 ca) := HN2.out.cell 1
  have ka2 : Q.cell? ⟨w1.heap.size, 2, none⟩ = some (.slice b 1 cb) := HN2.out.cell 2
  have kb0 : Q.cell? ⟨w2.heap.size, 0, none⟩ = some (.bool true) := HM.out.cell 0
  have kb1 : Q.cell? ⟨w2.heap.size, 1, none⟩ = some (.slice c 1 cc) := HM.out.cell 1
  have kb2 : Q.cell? ⟨w2.heap.size, 2, none⟩ = some (.slice d 1 cd) := HM.out.cell 2
  have m0 : Q.cell? ⟨w.heap.size, 0, none⟩ = some (.string ⟨#[]⟩) := HR.out.cell 0
  have m1 : Q.cell? ⟨w.heap.size, 1, none⟩ = some (.int .i32 0) := HR.out.cell 1
  have m2 : Q.cell? ⟨w.heap.size, 2, none⟩ = some (.int .i32 0) := HR.out.cell 2
  have m3 : Q.cell? ⟨w.heap.size, 3, none⟩ = some (.bool false) := HR.out.cell 3
  have m4 : Q.cell? ⟨w.heap.size, 4, none⟩ = some (.slice none 0 0) := HR.out.cell 4
  have m5 : Q.cell? ⟨w.heap.size, 5, none⟩ = some (.slice none 0 0) := HR.out.cell 5
  have m6 : Q.cell? ⟨w.heap.size, 6, none⟩ = some (.bool false) := HR.out.cell 6
  have m7 : Q.cell? ⟨w.heap.size, 7, none⟩ = some (.slice none 0 0) := HR.out.cell 7
  have m8 : Q.cell? ⟨w.heap.size, 8, none⟩ = some (.slice none 0 0) := HR.out.cell 8
  have f0 := HR.out.free 0
  have f1 := HR.out.free 1
  have f2 := HR.out.free 2
  have f3 := HR.out.free 3
  have f4 := HR.out.free 4
  have f5 := HR.out.free 5
  have f6 := HR.out.free 6
  have f7 := HR.out.free 7
  have f8 := HR.out.free 8
  go_wp2_with fail
  have B1 := box_put9 HR.out (.string ⟨#[77, 50]⟩) (.int .i32 8) (.int .i32 1) (.bool false) (.slice a 1 ca) (.slice b 1 cb) (.bool true) (.slice c 1 cc) (.slice d 1 cd)
  have G1 := below_put9 HXQ.out w.heap.size (Nat.le_refl _) (.string ⟨#[77, 50]⟩) (.int .i32 8) (.int .i32 1) (.bool false) (.slice a 1 ca) (.slice b 1 cb) (.bool true) (.slice c 1 cc) (.slice d 1 cd)
  clear m0 f0 m1 f1 m2 f2 m3 f3 m4 f4 m5 f5 m6 f6 m7 f7 m8 f8
  have hput : ∀ {base k : Nat} {v : Value} {l : List Value}, Q.ownsRow base 115 1 v k l → w.heap.size < base → (((((((((Q.setCell ⟨w.heap.size, 0, none⟩ (.string ⟨#[77, 50]⟩)).setCell ⟨w.heap.size, 1, none⟩ (.int .i32 8)).setCell ⟨w.heap.size, 2, none⟩ (.int .i32 1)).setCell ⟨w.heap.size, 3, none⟩ (.bool false)).setCell ⟨w.heap.size, 4, none⟩ (.slice a 1 ca)).setCell ⟨w.heap.size, 5, none⟩ (.slice b 1 cb)).setCell ⟨w.heap.size, 6, none⟩ (.bool true)).setCell ⟨w.heap.size, 7, none⟩ (.slice c 1 cc)).setCell ⟨w.heap.size, 8, none⟩ (.slice d 1 cd)).ownsRow w.heap.size 115 1 v k l := fun h hb => owns_base (own_put9 h _ (fun g hg => by have := (h.lt g hg).1; omega) _ _ _ _ _ _ _ _ _) (by omega)
  refine bodyPost_ret (results_cell_row (by rfl) _ _ w.heap.size 30 _ (0, 0) _ (by rfl) B1 Tryz.underlying30 rfl (by kernel_rfl)) rfl ?_
  exact ⟨a, ca, b, cb, c, cc, d, cd, rfl, ⟨hput HSS.out.1 (by omega), hput HSS.out.2.1 (by omega), hput HSS.out.2.2.1 (by omega), hput HSS.out.2.2.2 (by omega)⟩, G1⟩
end Go.Proofs.YtiaebiaeolaocaaGreatDoor

/- Layer 13: the laws' awake: what the document's examples say. -/
namespace Go.Proofs.YtiaebiaeolaocaaGreatDoor
open Go.RowKit Go.Lib
set_option linter.unusedVariables false
set_option linter.unusedSimpArgs false

theorem zform {n : Bool} {xs ys : List Int} (h : rchk n xs ys = 0) : rform n xs ys := by
  unfold rchk at h
  by_cases hl : 2048 < max xs.length ys.length
  · rw [if_pos hl] at h; exact absurd h (by decide)
  · rw [if_neg hl] at h
    by_cases c : rform n xs ys
    · exact c
    · rw [if_neg c] at h; exact absurd h (by decide)
theorem znotlong {n : Bool} {xs ys : List Int} (wx : Wd xs) (wy : Wd ys) (h : rchk n xs ys = 0) : ¬ rlong (rq n xs ys) := fun hl => absurd ((RTells.self wx wy h).long rfl hl).2.2.2 (by decide)
theorem zbytes {S : ByteArray} {l : List UInt8} (e : S.data.toList = l) : S = ⟨l.toArray⟩ := by
  cases S with | mk d => simp only at e ⊢; rw [← Array.toArray_toList (xs := d), e]
theorem z32 : in32 8 1 := ⟨by decide, by decide⟩
theorem aw_tprint (a : Option Addr) (ca : Nat) (b : Option Addr) (cb : Nat) (c : Option Addr) (cc : Nat) (d : Option Addr) (cd : Nat) (w : World) (sx : Sl w (.slice a 1 ca) [3]) (sy : Sl w (.slice b 1 cb) [2]) (su : Sl w (.slice c 1 cc) [1]) (sv : Sl w (.slice d 1 cd) [1]) (htab : Tab w) : Calls Tryz.prog 6 #[.agg #[.string ⟨#[77, 50]⟩, .int .i32 8, .int .i32 1, .bool false, .slice a 1 ca, .slice b 1 cb, .bool true, .slice c 1 cc, .slice d 1 cd]] w fun x w' => x = .returned (.tuple #[.string ⟨#[77, 50, 32, 56, 32, 49, 32, 51, 47, 50, 32, 45, 49]⟩, .int .i64 0]) ∧ Below w.heap.size w w' := by
  refine Calls.mono (tPrint_any ⟨#[77, 50]⟩ 8 1 false a ca [3] b cb [2] true c cc [1] d cd [1] w (by decide) z32 sx sy su sv htab) ?_
  rintro x w' ⟨S, rfl, hS, _, hb⟩
  have ht : gtext false [3] [2] true [1] [1] = [51, 47, 50, 32, 45, 49] := by decide +kernel
  have hg : gpErr false [3] [2] true [1] [1] = 0 := by unfold gpErr; rw [zg, fstE_zero, ht]; rfl
  have hx : ttext [77, 50] 8 1 [51, 47, 50, 32, 45, 49] = [77, 50, 32, 56, 32, 49, 32, 51, 47, 50, 32, 45, 49] := by decide +kernel
  have e0 : tpErr (tchk (⟨#[77, 50]⟩ : ByteArray).data.toList 8 1 (gchk false [3] [2] true [1] [1])) (⟨#[77, 50]⟩ : ByteArray).data.toList 8 1 (gpErr false [3] [2] true [1] [1]) (gtext false [3] [2] true [1] [1]) = 0 := by
    refine tpErr_ok (by rw [zg]; exact ztchk) hg ?_
    rw [ht]
    show ¬ 65536 < (ttext [77, 50] 8 1 [51, 47, 50, 32, 45, 49]).length
    rw [hx]; decide
  have e1 := hS e0
  rw [ht] at e1
  have e2 : S.data.toList = [77, 50, 32, 56, 32, 49, 32, 51, 47, 50, 32, 45, 49] := e1.trans hx
  rw [e0, zbytes e2]
  exact ⟨rfl, hb⟩
theorem zl0 : tword [77, 50, 32, 56, 32, 49, 32, 51, 47, 50, 32, 45, 49] = [77, 50] := by decide +kernel
theorem zl1 : tword (trest [77, 50, 32, 56, 32, 49, 32, 51, 47, 50, 32, 45, 49]) = [56] := by decide +kernel
theorem zl2 : tword (trest (trest [77, 50, 32, 56, 32, 49, 32, 51, 47, 50, 32, 45, 49])) = [49] := by decide +kernel
theorem zl3 : trest (trest (trest [77, 50, 32, 56, 32, 49, 32, 51, 47, 50, 32, 45, 49])) = [51, 47, 50, 32, 45, 49] := by decide +kernel
theorem zn1 : tnumOk [56] = true ∧ tnumV [56] = 8 := by decide +kernel
theorem zn2 : tnumOk [49] = true ∧ tnumV [49] = 1 := by decide +kernel
theorem zp1 : gp1 [51, 47, 50, 32, 45, 49] = rtext false [3] [2] := by decide +kernel
theorem zp2 : gp2 [51, 47, 50, 32, 45, 49] = rtext true [1] [1] := by decide +kernel
theorem zq1 : rgood (gp1 [51, 47, 50, 32, 45, 49]) ∧ rpq (gp1 [51, 47, 50, 32, 45, 49]) = rq false [3] [2] := by
  rw [zp1]
  exact ⟨rgood_text (zw 3 (by decide) (by decide)) (zw 2 (by decide) (by decide)) (zform zk32), rpq_text false (zw 3 (by decide) (by decide)) (zw 2 (by decide) (by decide))⟩
theorem zq2 : rgood (gp2 [51, 47, 50, 32, 45, 49]) ∧ rpq (gp2 [51, 47, 50, 32, 45, 49]) = rq true [1] [1] := by
  rw [zp2]
  exact ⟨rgood_text (zw 1 (by decide) (by decide)) (zw 1 (by decide) (by decide)) (zform zk11), rpq_text true (zw 1 (by decide) (by decide)) (zw 1 (by decide) (by decide))⟩
theorem aw_tparse (w : World) (htab : Tab w) (herr : ErrT w) : Calls Tryz.prog 5 #[.string ⟨#[77, 50, 32, 56, 32, 49, 32, 51, 47, 50, 32, 45, 49]⟩] w (TEt w) := by
  refine Calls.mono (tParse_any ⟨#[77, 50, 32, 56, 32, 49, 32, 51, 47, 50, 32, 45, 49]⟩ w (by decide) htab herr) ?_
  have e0 : (⟨#[77, 50, 32, 56, 32, 49, 32, 51, 47, 50, 32, 45, 49]⟩ : ByteArray).data.toList = [77, 50, 32, 56, 32, 49, 32, 51, 47, 50, 32, 45, 49] := rfl
  have hgd : tgood [77, 50, 32, 56, 32, 49, 32, 51, 47, 50, 32, 45, 49] := by
    unfold tgood
    rw [zl0, zl1, zl2, zl3]
    exact ⟨zname, zn1.1, zn2.1, zq1.1, zq2.1⟩
  have hE : tpE ⟨#[77, 50, 32, 56, 32, 49, 32, 51, 47, 50, 32, 45, 49]⟩ = 0 := by
    rw [tpE_good (by decide) (by rw [e0]; exact hgd), e0, zl1, zl2, zn1.2, zn2.2]
    exact zo
  rw [e0, hE, zl0, zl1, zl2, zl3, zn1.2, zn2.2, zq1.2, zq2.2]
  have hL : ¬ gplong [51, 47, 50, 32, 45, 49] := by
    unfold gplong
    rw [zq1.2, zq2.2]
    rintro (h | h)
    · exact znotlong (zw 3 (by decide) (by decide)) (zw 2 (by decide) (by decide)) zk32 h
    · exact znotlong (zw 1 (by decide) (by decide)) (zw 1 (by decide) (by decide)) zk11 h
  rintro e w' ⟨S, F, R, n, a, ca, xs, b, cb, ys, m, c, cc, us, d, cd, vs, code, rfl, ⟨o1, o2, o3, o4⟩, t, hb, _⟩
  obtain ⟨rfl, ⟨k1, g1⟩, k2, g2⟩ := t.num.good rfl hL
  obtain ⟨e1, rfl, rfl⟩ := t.good rfl
  obtain ⟨rfl, rfl, rfl⟩ := rq_inj t.num.wd.1 t.num.wd.2.1 (zw 3 (by decide) (by decide)) (zw 2 (by decide) (by decide)) k1 zk32 g1
  obtain ⟨rfl, rfl, rfl⟩ := rq_inj t.num.wd.2.2.1 t.num.wd.2.2.2 (zw 1 (by decide) (by decide)) (zw 1 (by decide) (by decide)) k2 zk11 g2
  rw [zbytes e1]
  exact ⟨a, ca, b, cb, c, cc, d, cd, rfl, ⟨o1, o2, o3, o4⟩, hb⟩
set_option maxHeartbeats 3200000 in
set_option maxRecDepth 100000 in
theorem tawake_any (w : World) (htab : Tab w) (herr : ErrT w) : Calls Tryz.prog 4 #[] w fun e w' => e = .returned (.bool true) ∧ Below w.heap.size w w' := by
  have H1 := hid (texample_any w)
  have HPR : Hid (∀ V (a : Option Addr) (ca : Nat) (b : Option Addr) (cb : Nat) (c : Option Addr) (cc : Nat) (d : Option Addr) (cd : Nat), Below w.heap.size w V → (Sl V (.slice a 1 ca) [3] ∧ Sl V (.slice b 1 cb) [2] ∧ Sl V (.slice c 1 cc) [1] ∧ Sl V (.slice d 1 cd) [1]) → Calls Tryz.prog 6 #[.agg #[.string ⟨#[77, 50]⟩, .int .i32 8, .int .i32 1, .bool false, .slice a 1 ca, .slice b 1 cb, .bool true, .slice c 1 cc, .slice d 1 cd]] V fun x w' => x = .returned (.tuple #[.string ⟨#[77, 50, 32, 56, 32, 49, 32, 51, 47, 50, 32, 45, 49]⟩, .int .i64 0]) ∧ Below V.heap.size V w') := fun V a ca b cb c cc d cd hv h => aw_tprint a ca b cb c cc d cd V h.1 h.2.1 h.2.2.1 h.2.2.2 (htab.later hv)
  have HPA : Hid (∀ V, Below w.heap.size w V → Calls Tryz.prog 5 #[.string ⟨#[77, 50, 32, 56, 32, 49, 32, 51, 47, 50, 32, 45, 49]⟩] V (TEt V)) := fun V hv => aw_tparse V (htab.later hv) (herr.later hv)
  clear htab herr
  go_enter Tryz.func4, Tryz.ntmps4
  go_wp2_with fail
  refine Calls.mono H1.out ?_
  rintro e w1 ⟨a, ca, b, cb, c, cc, d, cd, rfl, hs1, hb1⟩
  have HS1 : Hid (Sl w1 (.slice a 1 ca) [3] ∧ Sl w1 (.slice b 1 cb) [2] ∧ Sl w1 (.slice c 1 cc) [1] ∧ Sl w1 (.slice d 1 cd) [1]) := ⟨Sl.own hs1.out.1 (zw 3 (by decide) (by decide)), Sl.own hs1.out.2.1 (zw 2 (by decide) (by decide)), Sl.own hs1.out.2.2.1 (zw 1 (by decide) (by decide)), Sl.own hs1.out.2.2.2 (zw 1 (by decide) (by decide))⟩
  clear hs1 H1
  go_wp2_with fail
  refine Calls.mono (HPR.out w1 a ca b cb c cc d cd hb1.out HS1.out) ?_
  rintro e w2 ⟨rfl, hb2⟩
  have HB2 := hid (bt hb1.out hb2)
  clear hb1 hb2 HS1 HPR
  go_wp2_with fail
  refine Calls.mono (HPA.out w2 HB2.out) ?_
  rintro e w3 ⟨a0, ca0, b0, cb0, c0, cc0, d0, cd0, rfl, hs3, hb3⟩
  have HN := hid (Box.made w3 30 #[.string ⟨#[77, 50]⟩, .int .i32 8, .int .i32 1, .bool false, .slice a0 1 ca0, .slice b0 1 cb0, .bool true, .slice c0 1 cc0, .slice d0 1 cd0])
  have HNB := hid (alloc_later w3 (.cells #[.string ⟨#[77, 50]⟩, .int .i32 8, .int .i32 1, .bool false, .slice a0 1 ca0, .slice b0 1 cb0, .bool true, .slice c0 1 cc0, .slice d0 1 cd0] 30))
  obtain ⟨Y, hY⟩ : ∃ Y, w3.alloc (.cells #[.string ⟨#[77, 50]⟩, .int .i32 8, .int .i32 1, .bool false, .slice a0 1 ca0, .slice b0 1 cb0, .bool true, .slice c0 1 cc0, .slice d0 1 cd0] 30) = Y := ⟨_, rfl⟩
  rw [hY] at HN HNB
  have HBY := hid (bt HB2.out (bt hb3.out HNB.out))
  have HS3 : Hid (Sl Y (.slice a0 1 ca0) [3] ∧ Sl Y (.slice b0 1 cb0) [2] ∧ Sl Y (.slice c0 1 cc0) [1] ∧ Sl Y (.slice d0 1 cd0) [1]) := ⟨(Sl.own hs3.out.1 (zw 3 (by decide) (by decide))).later HNB.out, (Sl.own hs3.out.2.1 (zw 2 (by decide) (by decide))).later HNB.out, (Sl.own hs3.out.2.2.1 (zw 1 (by decide) (by decide))).later HNB.out, (Sl.own hs3.out.2.2.2 (zw 1 (by decide) (by decide))).later HNB.out⟩
  clear hs3 hb3 HPA HB2
  have HK : Hid (∀ V, Below Y.heap.size Y V → V.cell? ⟨w3.heap.size, 0, none⟩ = some (.string ⟨#[77, 50]⟩) ∧ V.cell? ⟨w3.heap.size, 1, none⟩ = some (.int .i32 8) ∧ V.cell? ⟨w3.heap.size, 2, none⟩ = some (.int .i32 1) ∧ V.cell? ⟨w3.heap.size, 3, none⟩ = some (.bool false) ∧ V.cell? ⟨w3.heap.size, 4, none⟩ = some (.slice a0 1 ca0) ∧ V.cell? ⟨w3.heap.size, 5, none⟩ = some (.slice b0 1 cb0) ∧ V.cell? ⟨w3.heap.size, 6, none⟩ = some (.bool true) ∧ V.cell? ⟨w3.heap.size, 7, none⟩ = some (.slice c0 1 cc0) ∧ V.cell? ⟨w3.heap.size, 8, none⟩ = some (.slice d0 1 cd0)) := fun V hv => by
    have h := HN.out.later hv HN.out.lt
    exact ⟨h.cell 0, h.cell 1, h.cell 2, h.cell 3, h.cell 4, h.cell 5, h.cell 6, h.cell 7, h.cell 8⟩
  have HEX : Hid (∀ V, Below Y.heap.size Y V → Calls Tryz.prog 19 #[] V fun e w' => ∃ a ca b cb c cc d cd, e = .returned (.agg #[.string ⟨#[77, 50]⟩, .int .i32 8, .int .i32 1, .bool false, .slice a 1 ca, .slice b 1 cb, .bool true, .slice c 1 cc, .slice d 1 cd]) ∧ Hid (Sl w' (.slice a 1 ca) [3] ∧ Sl w' (.slice b 1 cb) [2] ∧ Sl w' (.slice c 1 cc) [1] ∧ Sl w' (.slice d 1 cd) [1]) ∧ (w'.cell? ⟨w3.heap.size, 0, none⟩ = some (.string ⟨#[77, 50]⟩) ∧ w'.cell? ⟨w3.heap.size, 1, none⟩ = some (.int .i32 8) ∧ w'.cell? ⟨w3.heap.size, 2, none⟩ = some (.int .i32 1) ∧ w'.cell? ⟨w3.heap.size, 3, none⟩ = some (.bool false) ∧ w'.cell? ⟨w3.heap.size, 4, none⟩ = some (.slice a0 1 ca0) ∧ w'.cell? ⟨w3.heap.size, 5, none⟩ = some (.slice b0 1 cb0) ∧ w'.cell? ⟨w3.heap.size, 6, none⟩ = some (.bool true) ∧ w'.cell? ⟨w3.heap.size, 7, none⟩ = some (.slice c0 1 cc0) ∧ w'.cell? ⟨w3.heap.size, 8, none⟩ = some (.slice d0 1 cd0)) ∧ Below Y.heap.size Y w') := fun V hv => by
    refine Calls.mono (texample_any V) ?_
    rintro e w' ⟨a, ca, b, cb, c, cc, d, cd, rfl, hs1, hb1⟩
    exact ⟨a, ca, b, cb, c, cc, d, cd, rfl, ⟨Sl.own hs1.out.1 (zw 3 (by decide) (by decide)), Sl.own hs1.out.2.1 (zw 2 (by decide) (by decide)), Sl.own hs1.out.2.2.1 (zw 1 (by decide) (by decide)), Sl.own hs1.out.2.2.2 (zw 1 (by decide) (by decide))⟩, HK.out _ (bt hv hb1.out), bt hv hb1.out⟩
  have HSA : Hid (∀ V (a : Option Addr) (ca : Nat) (b : Option Addr) (cb : Nat) (c : Option Addr) (cc : Nat) (d : Option Addr) (cd : Nat), Below Y.heap.size Y V → Hid (Sl V (.slice a 1 ca) [3] ∧ Sl V (.slice b 1 cb) [2] ∧ Sl V (.slice c 1 cc) [1] ∧ Sl V (.slice d 1 cd) [1]) → Calls Tryz.prog 9 #[.agg #[.string ⟨#[77, 50]⟩, .int .i32 8, .int .i32 1, .bool false, .slice a0 1 ca0, .slice b0 1 cb0, .bool true, .slice c0 1 cc0, .slice d0 1 cd0], .agg #[.string ⟨#[77, 50]⟩, .int .i32 8, .int .i32 1, .bool false, .slice a 1 ca, .slice b 1 cb, .bool true, .slice c 1 cc, .slice d 1 cd]] V fun e w' => e = .returned (.bool true) ∧ (w'.cell? ⟨w3.heap.size, 0, none⟩ = some (.string ⟨#[77, 50]⟩) ∧ w'.cell? ⟨w3.heap.size, 1, none⟩ = some (.int .i32 8) ∧ w'.cell? ⟨w3.heap.size, 2, none⟩ = some (.int .i32 1) ∧ w'.cell? ⟨w3.heap.size, 3, none⟩ = some (.bool false) ∧ w'.cell? ⟨w3.heap.size, 4, none⟩ = some (.slice a0 1 ca0) ∧ w'.cell? ⟨w3.heap.size, 5, none⟩ = some (.slice b0 1 cb0) ∧ w'.cell? ⟨w3.heap.size, 6, none⟩ = some (.bool true) ∧ w'.cell? ⟨w3.heap.size, 7, none⟩ = some (.slice c0 1 cc0) ∧ w'.cell? ⟨w3.heap.size, 8, none⟩ = some (.slice d0 1 cd0)) ∧ Below Y.heap.size Y w') := fun V a ca b cb c cc d cd hv hs => by
    refine Calls.mono (tSame_any ⟨#[77, 50]⟩ 8 1 false a0 ca0 [3] b0 cb0 [2] true c0 cc0 [1] d0 cd0 [1] ⟨#[77, 50]⟩ 8 1 false a ca [3] b cb [2] true c cc [1] d cd [1] V (HS3.out.1.later hv) (HS3.out.2.1.later hv) (HS3.out.2.2.1.later hv) (HS3.out.2.2.2.later hv) hs.out.1 hs.out.2.1 hs.out.2.2.1 hs.out.2.2.2 (by decide) (by decide) (by decide) (by decide) (by decide) (by decide) (by decide) (by decide)) ?_
    rintro e w' ⟨rfl, hb⟩
    exact ⟨by simp, HK.out _ (bt hv hb), bt hv hb⟩
  have HCH : Hid (∀ V (a : Option Addr) (ca : Nat) (b : Option Addr) (cb : Nat) (c : Option Addr) (cc : Nat) (d : Option Addr) (cd : Nat), Below Y.heap.size Y V → Hid (Sl V (.slice a 1 ca) [3] ∧ Sl V (.slice b 1 cb) [2] ∧ Sl V (.slice c 1 cc) [1] ∧ Sl V (.slice d 1 cd) [1]) → Calls Tryz.prog 7 #[.agg #[.string ⟨#[77, 50]⟩, .int .i32 8, .int .i32 1, .bool false, .slice a 1 ca, .slice b 1 cb, .bool true, .slice c 1 cc, .slice d 1 cd]] V fun e w' => e = .returned (.int .i64 0) ∧ (w'.cell? ⟨w3.heap.size, 0, none⟩ = some (.string ⟨#[77, 50]⟩) ∧ w'.cell? ⟨w3.heap.size, 1, none⟩ = some (.int .i32 8) ∧ w'.cell? ⟨w3.heap.size, 2, none⟩ = some (.int .i32 1) ∧ w'.cell? ⟨w3.heap.size, 3, none⟩ = some (.bool false) ∧ w'.cell? ⟨w3.heap.size, 4, none⟩ = some (.slice a0 1 ca0) ∧ w'.cell? ⟨w3.heap.size, 5, none⟩ = some (.slice b0 1 cb0) ∧ w'.cell? ⟨w3.heap.size, 6, none⟩ = some (.bool true) ∧ w'.cell? ⟨w3.heap.size, 7, none⟩ = some (.slice c0 1 cc0) ∧ w'.cell? ⟨w3.heap.size, 8, none⟩ = some (.slice d0 1 cd0)) ∧ Below Y.heap.size Y w') := fun V a ca b cb c cc d cd hv hs => by
    refine Calls.mono (tCheck_any ⟨#[77, 50]⟩ 8 1 false a ca [3] b cb [2] true c cc [1] d cd [1] V (by decide) z32 hs.out.1 hs.out.2.1 hs.out.2.2.1 hs.out.2.2.2) ?_
    rintro e w' ⟨rfl, hb⟩
    exact ⟨by rw [zg]; exact congrArg (fun z => Ending.returned (.int .i64 z)) ztchk, HK.out _ (bt hv hb), bt hv hb⟩
  have hs0 := HK.out _ (Below.refl _ Y).drew
  have hd0 := hid (Below.refl Y.heap.size Y).drew
  clear HK HS3 HN HNB
  go_wp2_with fail
  go_region_held3 (fun V : World => V.cell? ⟨w3.heap.size, 0, none⟩ = some (.string ⟨#[77, 50]⟩) ∧ V.cell? ⟨w3.heap.size, 1, none⟩ = some (.int .i32 8) ∧ V.cell? ⟨w3.heap.size, 2, none⟩ = some (.int .i32 1) ∧ V.cell? ⟨w3.heap.size, 3, none⟩ = some (.bool false) ∧ V.cell? ⟨w3.heap.size, 4, none⟩ = some (.slice a0 1 ca0) ∧ V.cell? ⟨w3.heap.size, 5, none⟩ = some (.slice b0 1 cb0) ∧ V.cell? ⟨w3.heap.size, 6, none⟩ = some (.bool true) ∧ V.cell? ⟨w3.heap.size, 7, none⟩ = some (.slice c0 1 cc0) ∧ V.cell? ⟨w3.heap.size, 8, none⟩ = some (.slice d0 1 cd0)) (first | exact hs4 | exact hs3 | exact hs2 | exact hs1 | exact hs0)
    (first
      | (go_at_call 7; (with_reducible refine Calls.mono (HCH.out _ a2 ca2 b2 cb2 c2 cc2 d2 cd2 hb7 hq2) ?_); rintro e w8 ⟨rfl, hs4, hb8⟩)
      | (go_at_call 19; (with_reducible refine Calls.mono (HEX.out _ hb6) ?_); rintro e w7 ⟨a2, ca2, b2, cb2, c2, cc2, d2, cd2, rfl, hq2, hs3, hb7⟩)
      | (go_at_call 9; (with_reducible refine Calls.mono (HSA.out _ a1 ca1 b1 cb1 c1 cc1 d1 cd1 hb5 hq1) ?_); rintro e w6 ⟨rfl, hs2, hb6⟩)
      | (go_at_call 19; (with_reducible refine Calls.mono (HEX.out _ hd0.out) ?_); rintro e w5 ⟨a1, ca1, b1, cb1, c1, cc1, d1, cd1, rfl, hq1, hs1, hb5⟩))
  all_goals
    have HB9 := hid (bt HBY.out hb8)
    clear hs0 hs1 hs2 hs3 hs4 hb5 hb6 hb7 hb8 HCH HEX HSA hd0 hq1 hq2
    go_wp2_with fail
    go_ret
    exact ⟨rfl, HB9.out⟩
end Go.Proofs.YtiaebiaeolaocaaGreatDoor

/- Complex fractions: gauss.Conj: of any, good or refused; all four rows apart. -/
namespace Go.Proofs.YtiaebiaeolaocaaGreatDoor
open Go.RowKit
set_option linter.unusedVariables false

set_option maxHeartbeats 3200000 in
set_option maxRecDepth 100000 in
theorem gConj_full (n : Bool) (a : Option Addr) (ca : Nat) (xs : List Int) (b : Option Addr) (cb : Nat) (ys : List Int) (m : Bool) (c : Option Addr) (cc : Nat) (us : List Int) (d : Option Addr) (cd : Nat) (vs : List Int) (w : World) (sx : Sl w (.slice a xs.length ca) xs) (sy : Sl w (.slice b ys.length cb) ys) (su : Sl w (.slice c us.length cc) us) (sv : Sl w (.slice d vs.length cd) vs) :
    Calls Tryz.prog 12 #[.agg #[.bool n, .slice a xs.length ca, .slice b ys.length cb, .bool m, .slice c us.length cc, .slice d vs.length cd]] w (GToldC w (gchk n xs ys m us vs) (rlong (rq n xs ys) ∨ rlong (-(rq m us vs))) (rq n xs ys) (-(rq m us vs))) := by
  have HX := hid (boxes2r w 28 #[.bool n, .slice a xs.length ca, .slice b ys.length cb, .bool m, .slice c us.length cc, .slice d vs.length cd] #[.bool false, .slice none 0 0, .slice none 0 0, .bool false, .slice none 0 0, .slice none 0 0])
  obtain ⟨X, hX⟩ : ∃ X, (w.alloc (.cells #[.bool n, .slice a xs.length ca, .slice b ys.length cb, .bool m, .slice c us.length cc, .slice d vs.length cd] 28)).alloc (.cells #[.bool false, .slice none 0 0, .slice none 0 0, .bool false, .slice none 0 0, .slice none 0 0] 28) = X := ⟨_, rfl⟩
  rw [hX] at HX
  have HY := hid (Box.made X 28 #[.bool n, .slice a xs.length ca, .slice b ys.length cb, .bool m, .slice c us.length cc, .slice d vs.length cd])
  have HYB := hid (alloc_later X (.cells #[.bool n, .slice a xs.length ca, .slice b ys.length cb, .bool m, .slice c us.length cc, .slice d vs.length cd] 28))
  obtain ⟨Y, hY⟩ : ∃ Y, X.alloc (.cells #[.bool n, .slice a xs.length ca, .slice b ys.length cb, .bool m, .slice c us.length cc, .slice d vs.length cd] 28) = Y := ⟨_, rfl⟩
  rw [hY] at HY HYB
  have HWY := hid (bt HX.out.2.2 HYB.out)
  have HL := hid (glookAt1_any X.heap.size n a ca xs b cb ys m c cc us d cd vs Y HY.out (sx.later HWY.out) (sy.later HWY.out) (su.later HWY.out) (sv.later HWY.out))
  have H1 : Hid (∀ V p, Below w.heap.size w V → Box V p 91 #[.int .i64 (gchk n xs ys m us vs)] → Calls Tryz.prog 32 #[.pointer (some ⟨p, 0, none⟩), .agg #[.bool n, .slice a xs.length ca, .slice b ys.length cb]] V (GTell V p (gchk n xs ys m us vs) (rq n xs ys))) := fun V p hv hb => gcopied_any p (gchk n xs ys m us vs) n a ca xs b cb ys V hb (sx.later hv) (sy.later hv) (fun h => (gchk_ok h).1)
  have H2 : Hid (∀ V p E, Below w.heap.size w V → Box V p 91 #[.int .i64 E] → Calls Tryz.prog 33 #[.pointer (some ⟨p, 0, none⟩), .agg #[.bool m, .slice c us.length cc, .slice d vs.length cd]] V (GTell V p (fstE E (rchk m us vs)) (-(rq m us vs)))) := fun V p E hv hb => gopposite_any p E m c cc us d cd vs V hb (su.later hv) (sv.later hv)
  have HZ1 : Hid (gchk n xs ys m us vs = 0 → rchk n xs ys = 0 ∧ rchk m us vs = 0) := fun h => by
    exact gchk_ok h
  generalize gchk n xs ys m us vs = E0 at *
  generalize rchk m us vs = e2 at *
  generalize rq n xs ys = q1 at *
  generalize -(rq m us vs) = q2 at *
  clear sx sy su sv
  have ka0 : X.cell? ⟨w.heap.size, 0, none⟩ = some (.bool n) := HX.out.1.cell 0
  have ka1 : X.cell? ⟨w.heap.size, 1, none⟩ = some (.slice a xs.length ca) := HX.out.1.cell 1
  have ka2 : X.cell? ⟨w.heap.size, 2, none⟩ = some (.slice b ys.length cb) := HX.out.1.cell 2
  have ka3 : X.cell? ⟨w.heap.size, 3, none⟩ = some (.bool m) := HX.out.1.cell 3
  have ka4 : X.cell? ⟨w.heap.size, 4, none⟩ = some (.slice c us.length cc) := HX.out.1.cell 4
  have ka5 : X.cell? ⟨w.heap.size, 5, none⟩ = some (.slice d vs.length cd) := HX.out.1.cell 5
  go_enter Tryz.func12, Tryz.ntmps12
  go_wp2_with fail
  refine Calls.mono HL.out ?_
  rintro x w1 ⟨p, rfl, hpl, hpb, hb1⟩
  have HW1 := hid (bt HWY.out hb1)
  have HA1 := hid (HX.out.1.later (bt HYB.out hb1) HX.out.1.lt)
  have HR1 := hid (HX.out.2.1.later (bt HYB.out hb1) HX.out.2.1.lt)
  have HP1 := hid hpb
  have hpX : X.heap.size < p := Nat.lt_of_lt_of_le HY.out.lt hpl
  have hrX : w.heap.size + 1 < X.heap.size := HX.out.2.1.lt
  clear hpb hb1 hpl HL ka0 ka1 ka2 ka3 ka4 ka5
  have ka0 : w1.cell? ⟨w.heap.size, 0, none⟩ = some (.bool n) := HA1.out.cell 0
  have ka1 : w1.cell? ⟨w.heap.size, 1, none⟩ = some (.slice a xs.length ca) := HA1.out.cell 1
  have ka2 : w1.cell? ⟨w.heap.size, 2, none⟩ = some (.slice b ys.length cb) := HA1.out.cell 2
  go_wp2_with fail
  refine Calls.mono (H1.out _ p HW1.out HP1.out) ?_
  rintro x w2 ⟨k1, v1, zs1, u1, ts1, code1, rfl, ov1, ou1, ht1, hp2, hg2, hcut1⟩
  obtain ⟨av1, cv1, rfl⟩ := own_slice' ov1
  obtain ⟨au1, cu1, rfl⟩ := own_slice' ou1
  have hw12 : w1.heap.size ≤ w2.heap.size := hg2.size
  have hp1l : p < w1.heap.size := HP1.out.lt
  have HW2 : Hid (Below w.heap.size w w2) := HW1.out.grown hg2 HW1.out.size (fun q hq => by have e := Option.some.inj hq; omega)
  have HA2 := hid (HA1.out.kept' hg2 (by intro e; have := Option.some.inj e; omega))
  have HR2 := hid (HR1.out.kept' hg2 (by intro e; have := Option.some.inj e; omega))
  have HP2 := hid hp2
  have HV1 := hid ov1
  have HU1 := hid ou1
  have HT1 := hid ht1
  have HC1 := hid hcut1
  have HN := hid (Box.made w2 26 #[.bool k1, .slice av1 zs1.length cv1, .slice au1 ts1.length cu1])
  have HNB := hid (alloc_later w2 (.cells #[.bool k1, .slice av1 zs1.length cv1, .slice au1 ts1.length cu1] 26))
  obtain ⟨Z, hZ⟩ : ∃ Z, w2.alloc (.cells #[.bool k1, .slice av1 zs1.length cv1, .slice au1 ts1.length cu1] 26) = Z := ⟨_, rfl⟩
  rw [hZ] at HN HNB
  have HAZ := hid (HA2.out.later HNB.out HA2.out.lt)
  clear ov1 ou1 ht1 hp2 hg2 hcut1 HW1 HA1 HR1 HP1 H1 ka0 ka1 ka2
  have ka0 : Z.cell? ⟨w.heap.size, 3, none⟩ = some (.bool m) := HAZ.out.cell 3
  have ka1 : Z.cell? ⟨w.heap.size, 4, none⟩ = some (.slice c us.length cc) := HAZ.out.cell 4
  have ka2 : Z.cell? ⟨w.heap.size, 5, none⟩ = some (.slice d vs.length cd) := HAZ.out.cell 5
  go_wp2_with fail
  refine Calls.mono (H2.out _ p code1 (bt HW2.out HNB.out) (HP2.out.later HNB.out HP2.out.lt)) ?_
  rintro x w3 ⟨k2, v2, zs2, u2, ts2, code2, rfl, ov2, ou2, ht2, hp3, hg3, hcut2⟩
  obtain ⟨av2, cv2, rfl⟩ := own_slice' ov2
  obtain ⟨au2, cu2, rfl⟩ := own_slice' ou2
  have hZ3 : Z.heap.size ≤ w3.heap.size := hg3.size
  have hw2Z : w2.heap.size < Z.heap.size := HN.out.lt
  have HW3 : Hid (Below w.heap.size w w3) := (bt HW2.out HNB.out).grown hg3 (bt HW2.out HNB.out).size (fun q hq => by have e := Option.some.inj hq; omega)
  have HR3 := hid ((HR2.out.later HNB.out HR2.out.lt).kept' hg3 (by intro e; have := Option.some.inj e; omega))
  have HN3 := hid (HN.out.kept' hg3 (by intro e; have := Option.some.inj e; omega))
  have HP3 := hid hp3
  have hk : ∀ (v : Value) (q : Nat), (∀ g, v.ownBlock = some g → q ≤ g) → p < q → v.ownBlock = none ∨ v.ownBlock ≠ some p := fun v q h1 h2 => by
    cases e : v.ownBlock with
    | none => exact .inl rfl
    | some g => right; intro h; have e2 := Option.some.inj h; have := h1 g e; omega
  have HV3 := hid (World.ownsRow.kept (owns_later HV1.out HNB.out) hg3 (hk _ w1.heap.size (fun g hg => (HV1.out.lt g hg).1) hp1l))
  have HU3 := hid (World.ownsRow.kept (owns_later HU1.out HNB.out) hg3 (hk _ w1.heap.size (fun g hg => (HU1.out.lt g hg).1) hp1l))
  have HV4 := hid ov2
  have HU4 := hid ou2
  have HT2 := hid ht2
  have HC2 := hid hcut2
  clear hk
  have HM := hid (Box.made w3 26 #[.bool k2, .slice av2 zs2.length cv2, .slice au2 ts2.length cu2])
  have HMB := hid (alloc_later w3 (.cells #[.bool k2, .slice av2 zs2.length cv2, .slice au2 ts2.length cu2] 26))
  obtain ⟨Q, hQ⟩ : ∃ Q, w3.alloc (.cells #[.bool k2, .slice av2 zs2.length cv2, .slice au2 ts2.length cu2] 26) = Q := ⟨_, rfl⟩
  rw [hQ] at HM HMB
  have HNQ := hid (HN3.out.later HMB.out HN3.out.lt)
  have HTO := hid (gtold_any p code2 k1 av1 zs1.length cv1 au1 ts1.length cu1 k2 av2 zs2.length cv2 au2 ts2.length cu2 Q (HP3.out.later HMB.out HP3.out.lt))
  clear ov2 ou2 ht2 hp3 hg3 hcut2 H2 ka0 ka1 ka2
  have ka0 : Q.cell? ⟨w2.heap.size, 0, none⟩ = some (.bool k1) := HNQ.out.cell 0
  have ka1 : Q.cell? ⟨w2.heap.size, 1, none⟩ = some (.slice av1 zs1.length cv1) := HNQ.out.cell 1
  have ka2 : Q.cell? ⟨w2.heap.size, 2, none⟩ = some (.slice au1 ts1.length cu1) := HNQ.out.cell 2
  have kb0 : Q.cell? ⟨w3.heap.size, 0, none⟩ = some (.bool k2) := HM.out.cell 0
  have kb1 : Q.cell? ⟨w3.heap.size, 1, none⟩ = some (.slice av2 zs2.length cv2) := HM.out.cell 1
  have kb2 : Q.cell? ⟨w3.heap.size, 2, none⟩ = some (.slice au2 ts2.length cu2) := HM.out.cell 2
  go_wp2_with fail
  refine Calls.mono HTO.out ?_
  rintro x w4 ⟨rfl, hb4⟩
  have HW4x := hid hb4
  have HR4 := hid (HR3.out.later (bt HMB.out hb4) HR3.out.lt)
  have HW4 := hid (bt HW3.out (bt HMB.out hb4))
  have HOO := hid (And.intro (owns_later HV3.out (bt HMB.out hb4)) (And.intro (owns_later HU3.out (bt HMB.out hb4)) (And.intro (owns_later HV4.out (bt HMB.out hb4)) (owns_later HU4.out (bt HMB.out hb4)))))
  have hlo : w.heap.size ≤ w1.heap.size := by omega
  have hlZ : w.heap.size ≤ Z.heap.size := by omega
  clear hb4 ka0 ka1 ka2 kb0 kb1 kb2
  have m0 : w4.cell? ⟨w.heap.size + 1, 0, none⟩ = some (.bool false) := HR4.out.cell 0
  have m1 : w4.cell? ⟨w.heap.size + 1, 1, none⟩ = some (.slice none 0 0) := HR4.out.cell 1
  have m2' : w4.cell? ⟨w.heap.size + 1, 2, none⟩ = some (.slice none 0 0) := HR4.out.cell 2
  have m3 : w4.cell? ⟨w.heap.size + 1, 3, none⟩ = some (.bool false) := HR4.out.cell 3
  have m4 : w4.cell? ⟨w.heap.size + 1, 4, none⟩ = some (.slice none 0 0) := HR4.out.cell 4
  have m5 : w4.cell? ⟨w.heap.size + 1, 5, none⟩ = some (.slice none 0 0) := HR4.out.cell 5
  have f0 := HR4.out.free 0
  have f1 := HR4.out.free 1
  have f2 := HR4.out.free 2
  have f3 := HR4.out.free 3
  have f4 := HR4.out.free 4
  have f5 := HR4.out.free 5
  have hf0 : fstE E0 0 = E0 := by unfold fstE; by_cases h : E0 = 0 <;> simp [h]
  have HTW := hid (gtwo (e1 := 0) (by rw [hf0]; exact HT1.out) HT2.out (fun _ => rfl) (fun h => (HZ1.out h).2))
  have hsQ := (bt HMB.out HW4x.out).size
  clear hf0
  by_cases hc2 : code2 = 0
  · rw [if_pos hc2]
    have HFIN := hid (HTW.out.1 hc2)
    clear HTW hc2
    go_wp2_with fail
    have B1 := box_put6 HR4.out (.bool k1) (.slice av1 zs1.length cv1) (.slice au1 ts1.length cu1) (.bool k2) (.slice av2 zs2.length cv2) (.slice au2 ts2.length cu2)
    have G1 := below_put6 HW4.out (w.heap.size + 1) (by omega) (.bool k1) (.slice av1 zs1.length cv1) (.slice au1 ts1.length cu1) (.bool k2) (.slice av2 zs2.length cv2) (.slice au2 ts2.length cu2)
    have hXX := HX.out.2.2.size
    have hput : ∀ {base k : Nat} {v : Value} {l : List Value}, w4.ownsRow base 115 1 v k l → (∀ g, v.ownBlock = some g → X.heap.size ≤ g) → ((((((w4.setCell ⟨w.heap.size + 1, 0, none⟩ (.bool k1)).setCell ⟨w.heap.size + 1, 1, none⟩ (.slice av1 zs1.length cv1)).setCell ⟨w.heap.size + 1, 2, none⟩ (.slice au1 ts1.length cu1)).setCell ⟨w.heap.size + 1, 3, none⟩ (.bool k2)).setCell ⟨w.heap.size + 1, 4, none⟩ (.slice av2 zs2.length cv2)).setCell ⟨w.heap.size + 1, 5, none⟩ (.slice au2 ts2.length cu2)).ownsRow base 115 1 v k l := fun h hb => own_put6 h _ (fun g hg => by have := hb g hg; omega) _ _ _ _ _ _
    clear m0 m1 m2' m3 m4 m5 f0 f1 f2 f3 f4 f5
    refine bodyPost_ret (gres_run (by rfl) B1 _ rfl) rfl ?_
    exact ⟨k1, av1, cv1, zs1, au1, cu1, ts1, k2, av2, cv2, zs2, au2, cu2, ts2, code2, rfl, ⟨owns_base (hput HOO.out.1 (fun g hg => by have := (HOO.out.1.lt g hg).1; omega)) hlo, owns_base (hput HOO.out.2.1 (fun g hg => by have := (HOO.out.2.1.lt g hg).1; omega)) hlo, owns_base (hput HOO.out.2.2.1 (fun g hg => by have := (HOO.out.2.2.1.lt g hg).1; omega)) hlZ, owns_base (hput HOO.out.2.2.2 (fun g hg => by have := (HOO.out.2.2.2.lt g hg).1; omega)) hlZ⟩, HFIN.out, G1, w2, HC1.out.up hlo (Nat.le_refl _), HC2.out.up HNB.out.size (by simp [World.setCell]; omega)⟩
  · rw [if_neg hc2]
    have HFIN := hid (HTW.out.2 hc2)
    clear HTW hc2
    go_wp2_with fail
    have B1 := box_put6 HR4.out (.bool false) (.slice none 0 0) (.slice none 0 0) (.bool false) (.slice none 0 0) (.slice none 0 0)
    have G1 := below_put6 HW4.out (w.heap.size + 1) (by omega) (.bool false) (.slice none 0 0) (.slice none 0 0) (.bool false) (.slice none 0 0) (.slice none 0 0)
    clear m0 m1 m2' m3 m4 m5 f0 f1 f2 f3 f4 f5
    refine bodyPost_ret (gres_run (by rfl) B1 _ rfl) rfl ?_
    exact ⟨false, none, 0, [], none, 0, [], false, none, 0, [], none, 0, [], code2, rfl, ⟨World.ownsRow_nil _ _ _ _, World.ownsRow_nil _ _ _ _, World.ownsRow_nil _ _ _ _, World.ownsRow_nil _ _ _ _⟩, HFIN.out, G1, _, cut_nil _ _ G1.size, cut_nil _ _ (Nat.le_refl _)⟩

end Go.Proofs.YtiaebiaeolaocaaGreatDoor

/- package tide: Conj, of any, good or refused; all four rows apart. -/
namespace Go.Proofs.YtiaebiaeolaocaaGreatDoor
open Go.RowKit
set_option linter.unusedVariables false
set_option linter.unusedSimpArgs false

set_option maxHeartbeats 3200000 in
set_option maxRecDepth 100000 in
theorem tConj_full (s : ByteArray) (f r : Int) (n : Bool) (a : Option Addr) (ca : Nat) (xs : List Int) (b : Option Addr) (cb : Nat) (ys : List Int) (m : Bool) (c : Option Addr) (cc : Nat) (us : List Int) (d : Option Addr) (cd : Nat) (vs : List Int) (w : World) (hz : s.size ≤ 9223372036854775807) (hr : in32 f r) (sx : Sl w (.slice a xs.length ca) xs) (sy : Sl w (.slice b ys.length cb) ys) (su : Sl w (.slice c us.length cc) us) (sv : Sl w (.slice d vs.length cd) vs) :
    Calls Tryz.prog 10 #[.agg #[.string s, .int .i32 f, .int .i32 r, .bool n, .slice a xs.length ca, .slice b ys.length cb, .bool m, .slice c us.length cc, .slice d vs.length cd]] w (TToldC w (tchk s.data.toList f r (gchk n xs ys m us vs)) (rlong (rq n xs ys) ∨ rlong (-(rq m us vs))) s.data.toList f (-r) (rq n xs ys) (-(rq m us vs))) := by
  have HX := hid (boxes2r w 30 #[.string s, .int .i32 f, .int .i32 r, .bool n, .slice a xs.length ca, .slice b ys.length cb, .bool m, .slice c us.length cc, .slice d vs.length cd] #[.string ⟨#[]⟩, .int .i32 0, .int .i32 0, .bool false, .slice none 0 0, .slice none 0 0, .bool false, .slice none 0 0, .slice none 0 0])
  obtain ⟨X, hX⟩ : ∃ X, (w.alloc (.cells #[.string s, .int .i32 f, .int .i32 r, .bool n, .slice a xs.length ca, .slice b ys.length cb, .bool m, .slice c us.length cc, .slice d vs.length cd] 30)).alloc (.cells #[.string ⟨#[]⟩, .int .i32 0, .int .i32 0, .bool false, .slice none 0 0, .slice none 0 0, .bool false, .slice none 0 0, .slice none 0 0] 30) = X := ⟨_, rfl⟩
  rw [hX] at HX
  have HC := hid (tCheck_any s f r n a ca xs b cb ys m c cc us d cd vs X hz hr (sx.later HX.out.2.2) (sy.later HX.out.2.2) (su.later HX.out.2.2) (sv.later HX.out.2.2))
  have HRC : Hid (ochk f r = 0 → ∀ V, Calls Tryz.prog 11 #[.agg #[.int .i32 f, .int .i32 r]] V fun e w' => e = .returned (.tuple #[.agg #[.int .i32 f, .int .i32 (-r)], .int .i64 0]) ∧ Below V.heap.size V w') := fun h V => by
    have hk := rconj_any f r V hr
    have e : rConj f r = (f, -r, 0) := by
      rcases ochk_or f r with g | g
      · exact if_pos g.2
      · rw [h] at g; exact absurd g.1 (by decide)
    rw [e] at hk
    exact hk
  have HGC : Hid (∀ V, Below w.heap.size w V → Calls Tryz.prog 12 #[.agg #[.bool n, .slice a xs.length ca, .slice b ys.length cb, .bool m, .slice c us.length cc, .slice d vs.length cd]] V (GToldC V (gchk n xs ys m us vs) (rlong (rq n xs ys) ∨ rlong (-(rq m us vs))) (rq n xs ys) (-(rq m us vs)))) := fun V hv => gConj_full n a ca xs b cb ys m c cc us d cd vs V (sx.later hv) (sy.later hv) (su.later hv) (sv.later hv)
  have HTK : Hid (tchk s.data.toList f r (gchk n xs ys m us vs) = 0 → ochk f r = 0 ∧ gchk n xs ys m us vs = 0) := fun h => (tchk_ok h).2
  generalize gchk n xs ys m us vs = GE at *
  generalize tchk s.data.toList f r GE = TE at *
  generalize (rlong (rq n xs ys) ∨ rlong (-(rq m us vs))) = L at *
  generalize rq n xs ys = q1 at *
  generalize -(rq m us vs) = q2 at *
  clear sx sy su sv hr
  have hwX : w.heap.size + 1 < X.heap.size := HX.out.2.1.lt
  have k0 : X.cell? ⟨w.heap.size, 0, none⟩ = some (.string s) := HX.out.1.cell 0
  have k1 : X.cell? ⟨w.heap.size, 1, none⟩ = some (.int .i32 f) := HX.out.1.cell 1
  have k2 : X.cell? ⟨w.heap.size, 2, none⟩ = some (.int .i32 r) := HX.out.1.cell 2
  have k3 : X.cell? ⟨w.heap.size, 3, none⟩ = some (.bool n) := HX.out.1.cell 3
  have k4 : X.cell? ⟨w.heap.size, 4, none⟩ = some (.slice a xs.length ca) := HX.out.1.cell 4
  have k5 : X.cell? ⟨w.heap.size, 5, none⟩ = some (.slice b ys.length cb) := HX.out.1.cell 5
  have k6 : X.cell? ⟨w.heap.size, 6, none⟩ = some (.bool m) := HX.out.1.cell 6
  have k7 : X.cell? ⟨w.heap.size, 7, none⟩ = some (.slice c us.length cc) := HX.out.1.cell 7
  have k8 : X.cell? ⟨w.heap.size, 8, none⟩ = some (.slice d vs.length cd) := HX.out.1.cell 8
  go_enter Tryz.func10, Tryz.ntmps10
  go_wp2_with fail
  refine Calls.mono HC.out ?_
  rintro x w1 ⟨rfl, hb1⟩
  have HW1 := hid (bt HX.out.2.2 hb1)
  have HA1 := hid (HX.out.1.later hb1 HX.out.1.lt)
  have HR1 := hid (HX.out.2.1.later hb1 HX.out.2.1.lt)
  have hs1 : X.heap.size ≤ w1.heap.size := hb1.size
  clear hb1 HC k0 k1 k2 k3 k4 k5 k6 k7 k8
  by_cases hTE : TE = 0
  · obtain ⟨hO, hG⟩ := HTK.out hTE
    subst hTE
    subst hG
    have HRC' := hid (HRC.out hO)
    clear HTK HRC hO
    have k1 : w1.cell? ⟨w.heap.size, 1, none⟩ = some (.int .i32 f) := HA1.out.cell 1
    have k2 : w1.cell? ⟨w.heap.size, 2, none⟩ = some (.int .i32 r) := HA1.out.cell 2
    go_wp2_with fail
    refine Calls.mono (HRC'.out _) ?_
    rintro x w2 ⟨rfl, hb2⟩
    have HN := hid (Box.made w2 23 #[.int .i32 f, .int .i32 (-r)])
    have HNB := hid (alloc_later w2 (.cells #[.int .i32 f, .int .i32 (-r)] 23))
    obtain ⟨Y, hY⟩ : ∃ Y, w2.alloc (.cells #[.int .i32 f, .int .i32 (-r)] 23) = Y := ⟨_, rfl⟩
    rw [hY] at HN HNB
    have HWY := hid (bt HW1.out (bt hb2 HNB.out))
    have HAY := hid (HA1.out.later (bt hb2 HNB.out) HA1.out.lt)
    have HRY := hid (HR1.out.later (bt hb2 HNB.out) HR1.out.lt)
    have hs2 : w1.heap.size ≤ Y.heap.size := (bt hb2 HNB.out).size
    clear hb2 HRC' k1 k2
    have k3 : Y.cell? ⟨w.heap.size, 3, none⟩ = some (.bool n) := HAY.out.cell 3
    have k4 : Y.cell? ⟨w.heap.size, 4, none⟩ = some (.slice a xs.length ca) := HAY.out.cell 4
    have k5 : Y.cell? ⟨w.heap.size, 5, none⟩ = some (.slice b ys.length cb) := HAY.out.cell 5
    have k6 : Y.cell? ⟨w.heap.size, 6, none⟩ = some (.bool m) := HAY.out.cell 6
    have k7 : Y.cell? ⟨w.heap.size, 7, none⟩ = some (.slice c us.length cc) := HAY.out.cell 7
    have k8 : Y.cell? ⟨w.heap.size, 8, none⟩ = some (.slice d vs.length cd) := HAY.out.cell 8
    go_wp2_with fail
    refine Calls.mono (HGC.out _ HWY.out) ?_
    rintro x w3 ⟨k1, a1, ca1, xs1, b1, cb1, ys1, m1, c1, cc1, us1, d1, cd1, vs1, code, rfl, hoo, ht, hb3, W1, hc1, hc2⟩
    have HM := hid (Box.made w3 28 #[.bool k1, .slice a1 xs1.length ca1, .slice b1 ys1.length cb1, .bool m1, .slice c1 us1.length cc1, .slice d1 vs1.length cd1])
    have HMB := hid (alloc_later w3 (.cells #[.bool k1, .slice a1 xs1.length ca1, .slice b1 ys1.length cb1, .bool m1, .slice c1 us1.length cc1, .slice d1 vs1.length cd1] 28))
    obtain ⟨Q, hQ⟩ : ∃ Q, w3.alloc (.cells #[.bool k1, .slice a1 xs1.length ca1, .slice b1 ys1.length cb1, .bool m1, .slice c1 us1.length cc1, .slice d1 vs1.length cd1] 28) = Q := ⟨_, rfl⟩
    rw [hQ] at HM HMB
    have HYQ := hid (bt hb3 HMB.out)
    have HWQ := hid (bt HWY.out HYQ.out)
    have HAQ := hid (HAY.out.later HYQ.out HAY.out.lt)
    have HRQ := hid (HRY.out.later HYQ.out HRY.out.lt)
    have HNQ := hid (HN.out.later HYQ.out HN.out.lt)
    have HOQ := hid (And.intro (owns_later hoo.1 HMB.out) (And.intro (owns_later hoo.2.1 HMB.out) (And.intro (owns_later hoo.2.2.1 HMB.out) (owns_later hoo.2.2.2 HMB.out))))
    have HCQ : Hid (∃ W1, Cut Y (.slice a1 xs1.length ca1) (.slice b1 ys1.length cb1) W1 ∧ Cut W1 (.slice c1 us1.length cc1) (.slice d1 vs1.length cd1) Q) := ⟨W1, hc1, hc2.up (Nat.le_refl _) HMB.out.size⟩
    have hbs : w.heap.size + 1 < Y.heap.size := by omega
    have HTT := hid ht
    clear hoo ht hb3 hc1 hc2 HGC k3 k4 k5 k6 k7 k8
    have m0_ : Q.cell? ⟨w.heap.size + 1, 0, none⟩ = some (.string ⟨#[]⟩) := HRQ.out.cell 0
    have m1_ : Q.cell? ⟨w.heap.size + 1, 1, none⟩ = some (.int .i32 0) := HRQ.out.cell 1
    have m2_ : Q.cell? ⟨w.heap.size + 1, 2, none⟩ = some (.int .i32 0) := HRQ.out.cell 2
    have m3_ : Q.cell? ⟨w.heap.size + 1, 3, none⟩ = some (.bool false) := HRQ.out.cell 3
    have m4_ : Q.cell? ⟨w.heap.size + 1, 4, none⟩ = some (.slice none 0 0) := HRQ.out.cell 4
    have m5_ : Q.cell? ⟨w.heap.size + 1, 5, none⟩ = some (.slice none 0 0) := HRQ.out.cell 5
    have m6_ : Q.cell? ⟨w.heap.size + 1, 6, none⟩ = some (.bool false) := HRQ.out.cell 6
    have m7_ : Q.cell? ⟨w.heap.size + 1, 7, none⟩ = some (.slice none 0 0) := HRQ.out.cell 7
    have m8_ : Q.cell? ⟨w.heap.size + 1, 8, none⟩ = some (.slice none 0 0) := HRQ.out.cell 8
    have f0_ := HRQ.out.free 0
    have f1_ := HRQ.out.free 1
    have f2_ := HRQ.out.free 2
    have f3_ := HRQ.out.free 3
    have f4_ := HRQ.out.free 4
    have f5_ := HRQ.out.free 5
    have f6_ := HRQ.out.free 6
    have f7_ := HRQ.out.free 7
    have f8_ := HRQ.out.free 8
    by_cases hL : L
    · have hcode := (HTT.out.long rfl hL).2
      subst hcode
      have HL := hid hL
      clear hL
      go_wp2_with fail
      have B1 := box_put9 HRQ.out (.string ⟨#[]⟩) (.int .i32 0) (.int .i32 0) (.bool false) (.slice none 0 0) (.slice none 0 0) (.bool false) (.slice none 0 0) (.slice none 0 0)
      have G1 := below_put9 HWQ.out (w.heap.size + 1) (by omega) (.string ⟨#[]⟩) (.int .i32 0) (.int .i32 0) (.bool false) (.slice none 0 0) (.slice none 0 0) (.bool false) (.slice none 0 0) (.slice none 0 0)
      clear m0_ f0_ m1_ f1_ m2_ f2_ m3_ f3_ m4_ f4_ m5_ f5_ m6_ f6_ m7_ f7_ m8_ f8_
      exact bodyPost_ret (tres_run (by rfl) B1 _ rfl) rfl (ttoldc_zero (.inr ⟨rfl, HL.out, rfl⟩) G1)
    · have hcode := (HTT.out.good rfl hL).1
      subst hcode
      have HT := hid HTT.out
      clear hL HTT
      have k0 : Q.cell? ⟨w.heap.size, 0, none⟩ = some (.string s) := HAQ.out.cell 0
      have r0 : Q.cell? ⟨w2.heap.size, 0, none⟩ = some (.int .i32 f) := HNQ.out.cell 0
      have r1 : Q.cell? ⟨w2.heap.size, 1, none⟩ = some (.int .i32 (-r)) := HNQ.out.cell 1
      have g0 : Q.cell? ⟨w3.heap.size, 0, none⟩ = some (.bool k1) := HM.out.cell 0
      have g1 : Q.cell? ⟨w3.heap.size, 1, none⟩ = some (.slice a1 xs1.length ca1) := HM.out.cell 1
      have g2 : Q.cell? ⟨w3.heap.size, 2, none⟩ = some (.slice b1 ys1.length cb1) := HM.out.cell 2
      have g3 : Q.cell? ⟨w3.heap.size, 3, none⟩ = some (.bool m1) := HM.out.cell 3
      have g4 : Q.cell? ⟨w3.heap.size, 4, none⟩ = some (.slice c1 us1.length cc1) := HM.out.cell 4
      have g5 : Q.cell? ⟨w3.heap.size, 5, none⟩ = some (.slice d1 vs1.length cd1) := HM.out.cell 5
      go_wp2_with fail
      have B1 := box_put9 HRQ.out (.string s) (.int .i32 f) (.int .i32 (-r)) (.bool k1) (.slice a1 xs1.length ca1) (.slice b1 ys1.length cb1) (.bool m1) (.slice c1 us1.length cc1) (.slice d1 vs1.length cd1)
      have G1 := below_put9 HWQ.out (w.heap.size + 1) (by omega) (.string s) (.int .i32 f) (.int .i32 (-r)) (.bool k1) (.slice a1 xs1.length ca1) (.slice b1 ys1.length cb1) (.bool m1) (.slice c1 us1.length cc1) (.slice d1 vs1.length cd1)
      have hput : ∀ {base k : Nat} {v : Value} {l : List Value}, Q.ownsRow base 115 1 v k l → w.heap.size + 1 < base → (((((((((Q.setCell ⟨w.heap.size + 1, 0, none⟩ (.string s)).setCell ⟨w.heap.size + 1, 1, none⟩ (.int .i32 f)).setCell ⟨w.heap.size + 1, 2, none⟩ (.int .i32 (-r))).setCell ⟨w.heap.size + 1, 3, none⟩ (.bool k1)).setCell ⟨w.heap.size + 1, 4, none⟩ (.slice a1 xs1.length ca1)).setCell ⟨w.heap.size + 1, 5, none⟩ (.slice b1 ys1.length cb1)).setCell ⟨w.heap.size + 1, 6, none⟩ (.bool m1)).setCell ⟨w.heap.size + 1, 7, none⟩ (.slice c1 us1.length cc1)).setCell ⟨w.heap.size + 1, 8, none⟩ (.slice d1 vs1.length cd1)).ownsRow w.heap.size 115 1 v k l := fun h hb => owns_base (own_put9 h _ (fun g hg => by have := (h.lt g hg).1; omega) _ _ _ _ _ _ _ _ _) (by omega)
      clear m0_ f0_ m1_ f1_ m2_ f2_ m3_ f3_ m4_ f4_ m5_ f5_ m6_ f6_ m7_ f7_ m8_ f8_
      refine bodyPost_ret (tres_run (by rfl) B1 _ rfl) rfl ?_
      obtain ⟨W1, hc1, hc2⟩ := HCQ.out
      refine ⟨s, f, (-r), k1, a1, ca1, xs1, b1, cb1, ys1, m1, c1, cc1, us1, d1, cd1, vs1, 0, rfl, ⟨hput HOQ.out.1 hbs, hput HOQ.out.2.1 hbs, hput HOQ.out.2.2.1 hbs, hput HOQ.out.2.2.2 hbs⟩, ⟨HT.out, fun h => absurd rfl h, fun _ => ⟨rfl, rfl, rfl⟩⟩, G1, W1, hc1.up (by omega) (Nat.le_refl _), hc2.up (Nat.le_refl _) (by simp [World.setCell])⟩
  · have hE' : (TE == 0) = false := by simp [hTE]
    have hE2 : (TE != 0) = true := by simp [hTE]
    have m0_ : w1.cell? ⟨w.heap.size + 1, 0, none⟩ = some (.string ⟨#[]⟩) := HR1.out.cell 0
    have m1_ : w1.cell? ⟨w.heap.size + 1, 1, none⟩ = some (.int .i32 0) := HR1.out.cell 1
    have m2_ : w1.cell? ⟨w.heap.size + 1, 2, none⟩ = some (.int .i32 0) := HR1.out.cell 2
    have m3_ : w1.cell? ⟨w.heap.size + 1, 3, none⟩ = some (.bool false) := HR1.out.cell 3
    have m4_ : w1.cell? ⟨w.heap.size + 1, 4, none⟩ = some (.slice none 0 0) := HR1.out.cell 4
    have m5_ : w1.cell? ⟨w.heap.size + 1, 5, none⟩ = some (.slice none 0 0) := HR1.out.cell 5
    have m6_ : w1.cell? ⟨w.heap.size + 1, 6, none⟩ = some (.bool false) := HR1.out.cell 6
    have m7_ : w1.cell? ⟨w.heap.size + 1, 7, none⟩ = some (.slice none 0 0) := HR1.out.cell 7
    have m8_ : w1.cell? ⟨w.heap.size + 1, 8, none⟩ = some (.slice none 0 0) := HR1.out.cell 8
    have f0_ := HR1.out.free 0
    have f1_ := HR1.out.free 1
    have f2_ := HR1.out.free 2
    have f3_ := HR1.out.free 3
    have f4_ := HR1.out.free 4
    have f5_ := HR1.out.free 5
    have f6_ := HR1.out.free 6
    have f7_ := HR1.out.free 7
    have f8_ := HR1.out.free 8
    go_wp2_with fail
    have B1 := box_put9 HR1.out (.string ⟨#[]⟩) (.int .i32 0) (.int .i32 0) (.bool false) (.slice none 0 0) (.slice none 0 0) (.bool false) (.slice none 0 0) (.slice none 0 0)
    have G1 := below_put9 HW1.out (w.heap.size + 1) (by omega) (.string ⟨#[]⟩) (.int .i32 0) (.int .i32 0) (.bool false) (.slice none 0 0) (.slice none 0 0) (.bool false) (.slice none 0 0) (.slice none 0 0)
    clear m0_ f0_ m1_ f1_ m2_ f2_ m3_ f3_ m4_ f4_ m5_ f5_ m6_ f6_ m7_ f7_ m8_ f8_
    exact bodyPost_ret (tres_run (by rfl) B1 _ rfl) rfl (ttoldc_zero (.inl ⟨hTE, rfl⟩) G1)
end Go.Proofs.YtiaebiaeolaocaaGreatDoor

/- Complex fractions: gauss.Scale: of any fraction and any one, good or refused; all four rows apart. -/
namespace Go.Proofs.YtiaebiaeolaocaaGreatDoor
open Go.RowKit
set_option linter.unusedVariables false

theorem boxes3s (w : World) (t t' : Nat) (u v z : Array Value) : Box (((w.alloc (.cells u t)).alloc (.cells v t')).alloc (.cells z t')) w.heap.size t u ∧ Box (((w.alloc (.cells u t)).alloc (.cells v t')).alloc (.cells z t')) (w.heap.size + 1) t' v ∧ Box (((w.alloc (.cells u t)).alloc (.cells v t')).alloc (.cells z t')) (w.heap.size + 1 + 1) t' z ∧ Below w.heap.size w (((w.alloc (.cells u t)).alloc (.cells v t')).alloc (.cells z t')) := by
  have e1 : (w.alloc (.cells u t)).heap.size = w.heap.size + 1 := World.size_alloc _ _
  have e2 : ((w.alloc (.cells u t)).alloc (.cells v t')).heap.size = w.heap.size + 1 + 1 := by rw [World.size_alloc, World.size_alloc]
  have a := Box.made w t u
  have b := Box.made (w.alloc (.cells u t)) t' v
  have c := Box.made ((w.alloc (.cells u t)).alloc (.cells v t')) t' z
  have a2 := a.later (alloc_later (w.alloc (.cells u t)) (.cells v t')) a.lt
  exact ⟨a2.later (alloc_later _ _) a2.lt, e1 ▸ (b.later (alloc_later _ _) b.lt), e2 ▸ c, bt (alloc_later _ _) (bt (alloc_later _ _) (alloc_later _ _))⟩
set_option maxHeartbeats 3200000 in
set_option maxRecDepth 100000 in
theorem gScale_full (h : Bool) (e : Option Addr) (ce : Nat) (rs : List Int) (f : Option Addr) (cf : Nat) (ts : List Int) (n : Bool) (a : Option Addr) (ca : Nat) (xs : List Int) (b : Option Addr) (cb : Nat) (ys : List Int) (m : Bool) (c : Option Addr) (cc : Nat) (us : List Int) (d : Option Addr) (cd : Nat) (vs : List Int) (w : World) (sr : Sl w (.slice e rs.length ce) rs) (st : Sl w (.slice f ts.length cf) ts) (sx : Sl w (.slice a xs.length ca) xs) (sy : Sl w (.slice b ys.length cb) ys) (su : Sl w (.slice c us.length cc) us) (sv : Sl w (.slice d vs.length cd) vs) :
    Calls Tryz.prog 42 #[.agg #[.bool h, .slice e rs.length ce, .slice f ts.length cf], .agg #[.bool n, .slice a xs.length ca, .slice b ys.length cb, .bool m, .slice c us.length cc, .slice d vs.length cd]] w (GToldC w (fstE (rchk h rs ts) (gchk n xs ys m us vs)) (rlong (rq h rs ts * rq n xs ys) ∨ rlong (rq h rs ts * rq m us vs)) (rq h rs ts * rq n xs ys) (rq h rs ts * rq m us vs)) := by
  have HX := hid (boxes3s w 26 28 #[.bool h, .slice e rs.length ce, .slice f ts.length cf] #[.bool n, .slice a xs.length ca, .slice b ys.length cb, .bool m, .slice c us.length cc, .slice d vs.length cd] #[.bool false, .slice none 0 0, .slice none 0 0, .bool false, .slice none 0 0, .slice none 0 0])
  obtain ⟨X, hX⟩ : ∃ X, ((w.alloc (.cells #[.bool h, .slice e rs.length ce, .slice f ts.length cf] 26)).alloc (.cells #[.bool n, .slice a xs.length ca, .slice b ys.length cb, .bool m, .slice c us.length cc, .slice d vs.length cd] 28)).alloc (.cells #[.bool false, .slice none 0 0, .slice none 0 0, .bool false, .slice none 0 0, .slice none 0 0] 28) = X := ⟨_, rfl⟩
  rw [hX] at HX
  have HCK := hid (rcheck_any h _ rs _ ts X (sr.later HX.out.2.2.2) (st.later HX.out.2.2.2))
  have HLK : Hid (∀ V p E, Below w.heap.size w V → Box V p 91 #[.int .i64 E] → Calls Tryz.prog 55 #[.pointer (some ⟨p, 0, none⟩), .agg #[.bool n, .slice a xs.length ca, .slice b ys.length cb, .bool m, .slice c us.length cc, .slice d vs.length cd]] V fun e w' => e = .returned (.tuple #[]) ∧ Box w' p 91 #[.int .i64 (fstE E (gchk n xs ys m us vs))] ∧ V.grownBy w' (some p)) := fun V p E hv hb => glook_any p E n a ca xs b cb ys m c cc us d cd vs V hb (sx.later hv) (sy.later hv) (su.later hv) (sv.later hv)
  have H1 : Hid (∀ V p E, Below w.heap.size w V → Box V p 91 #[.int .i64 E] → Calls Tryz.prog 67 #[.pointer (some ⟨p, 0, none⟩), .agg #[.bool h, .slice e rs.length ce, .slice f ts.length cf], .agg #[.bool n, .slice a xs.length ca, .slice b ys.length cb]] V (GTell V p (fstE E (rboth h rs ts n xs ys)) (rq h rs ts * rq n xs ys))) := fun V p E hv hb => gproduct_any p E h e ce rs f cf ts n a ca xs b cb ys V hb (sr.later hv) (st.later hv) (sx.later hv) (sy.later hv)
  have H2 : Hid (∀ V p E, Below w.heap.size w V → Box V p 91 #[.int .i64 E] → Calls Tryz.prog 67 #[.pointer (some ⟨p, 0, none⟩), .agg #[.bool h, .slice e rs.length ce, .slice f ts.length cf], .agg #[.bool m, .slice c us.length cc, .slice d vs.length cd]] V (GTell V p (fstE E (rboth h rs ts m us vs)) (rq h rs ts * rq m us vs))) := fun V p E hv hb => gproduct_any p E h e ce rs f cf ts m c cc us d cd vs V hb (sr.later hv) (st.later hv) (su.later hv) (sv.later hv)
  have HZ1 : Hid (fstE (rchk h rs ts) (gchk n xs ys m us vs) = 0 → rboth h rs ts n xs ys = 0 ∧ rboth h rs ts m us vs = 0) := fun hh => by
    obtain ⟨k1, k2⟩ := fstE_ok hh
    obtain ⟨k3, k4⟩ := gchk_ok k2
    exact ⟨rboth0 k1 k3, rboth0 k1 k4⟩
  generalize gchk n xs ys m us vs = eg at *
  generalize rchk h rs ts = er at *
  generalize rboth h rs ts n xs ys = e1 at *
  generalize rboth h rs ts m us vs = e2 at *
  generalize rq h rs ts * rq n xs ys = q1 at *
  generalize rq h rs ts * rq m us vs = q2 at *
  clear sr st sx sy su sv
  have kr0 : X.cell? ⟨w.heap.size, 0, none⟩ = some (.bool h) := HX.out.1.cell 0
  have kr1 : X.cell? ⟨w.heap.size, 1, none⟩ = some (.slice e rs.length ce) := HX.out.1.cell 1
  have kr2 : X.cell? ⟨w.heap.size, 2, none⟩ = some (.slice f ts.length cf) := HX.out.1.cell 2
  go_enter Tryz.func42, Tryz.ntmps42
  go_wp2_with fail
  refine Calls.mono HCK.out ?_
  rintro x w0 ⟨rfl, hb0⟩
  have HSB := hid (Box.made w0 91 #[.int .i64 er])
  have HSA := hid (alloc_later w0 (.cells #[.int .i64 er] 91))
  obtain ⟨Y, hY⟩ : ∃ Y, w0.alloc (.cells #[.int .i64 er] 91) = Y := ⟨_, rfl⟩
  rw [hY] at HSB HSA
  have HXY := hid (bt hb0 HSA.out)
  have hX0 : X.heap.size ≤ w0.heap.size := hb0.size
  have HWY := hid (bt HX.out.2.2.2 HXY.out)
  have HAY := hid (HX.out.2.1.later HXY.out HX.out.2.1.lt)
  clear hb0 HCK kr0 kr1 kr2
  have ka0 : Y.cell? ⟨w.heap.size + 1, 0, none⟩ = some (.bool n) := HAY.out.cell 0
  have ka1 : Y.cell? ⟨w.heap.size + 1, 1, none⟩ = some (.slice a xs.length ca) := HAY.out.cell 1
  have ka2 : Y.cell? ⟨w.heap.size + 1, 2, none⟩ = some (.slice b ys.length cb) := HAY.out.cell 2
  have ka3 : Y.cell? ⟨w.heap.size + 1, 3, none⟩ = some (.bool m) := HAY.out.cell 3
  have ka4 : Y.cell? ⟨w.heap.size + 1, 4, none⟩ = some (.slice c us.length cc) := HAY.out.cell 4
  have ka5 : Y.cell? ⟨w.heap.size + 1, 5, none⟩ = some (.slice d vs.length cd) := HAY.out.cell 5
  go_wp2_with fail
  refine Calls.mono (HLK.out Y w0.heap.size er HWY.out HSB.out) ?_
  rintro x w1 ⟨rfl, hpb, hg1⟩
  have hpX : X.heap.size ≤ w0.heap.size := hX0
  obtain ⟨p, hp⟩ : ∃ p, w0.heap.size = p := ⟨_, rfl⟩
  have HPE := hid hp
  have hrX : w.heap.size + 1 + 1 < X.heap.size := HX.out.2.2.1.lt
  have hYs : Y.heap.size ≤ w1.heap.size := hg1.size
  have HW1 : Hid (Below w.heap.size w w1) := HWY.out.grown hg1 HWY.out.size (fun q hq => by have e := Option.some.inj hq; omega)
  have HA1 := hid (HAY.out.kept' hg1 (by intro e; have := Option.some.inj e; omega))
  have HRR1 := hid ((HX.out.1.later HXY.out HX.out.1.lt).kept' hg1 (by intro e; have := Option.some.inj e; omega))
  have HR1 := hid ((HX.out.2.2.1.later HXY.out HX.out.2.2.1.lt).kept' hg1 (by intro e; have := Option.some.inj e; omega))
  have HP1 := hid hpb
  generalize fstE er eg = E0 at *
  clear hpb hg1 HLK ka0 ka1 ka2 ka3 ka4 ka5 HAY HXY HWY HSB HSA hp HPE
  have hpw1 : w0.heap.size < w1.heap.size := HP1.out.lt
  have ka0 : w1.cell? ⟨w.heap.size + 1, 0, none⟩ = some (.bool n) := HA1.out.cell 0
  have ka1 : w1.cell? ⟨w.heap.size + 1, 1, none⟩ = some (.slice a xs.length ca) := HA1.out.cell 1
  have ka2 : w1.cell? ⟨w.heap.size + 1, 2, none⟩ = some (.slice b ys.length cb) := HA1.out.cell 2
  have kr0 : w1.cell? ⟨w.heap.size, 0, none⟩ = some (.bool h) := HRR1.out.cell 0
  have kr1 : w1.cell? ⟨w.heap.size, 1, none⟩ = some (.slice e rs.length ce) := HRR1.out.cell 1
  have kr2 : w1.cell? ⟨w.heap.size, 2, none⟩ = some (.slice f ts.length cf) := HRR1.out.cell 2
  go_wp2_with fail
  refine Calls.mono (H1.out _ w0.heap.size E0 HW1.out HP1.out) ?_
  rintro x w2 ⟨k1, v1, zs1, u1, ts1, code1, rfl, ov1, ou1, ht1, hp2, hg2, hcut1⟩
  obtain ⟨av1, cv1, rfl⟩ := own_slice' ov1
  obtain ⟨au1, cu1, rfl⟩ := own_slice' ou1
  have hw12 : w1.heap.size ≤ w2.heap.size := hg2.size
  have HW2 : Hid (Below w.heap.size w w2) := HW1.out.grown hg2 HW1.out.size (fun q hq => by have e := Option.some.inj hq; omega)
  have HA2 := hid (HA1.out.kept' hg2 (by intro e; have := Option.some.inj e; omega))
  have HRR2 := hid (HRR1.out.kept' hg2 (by intro e; have := Option.some.inj e; omega))
  have HR2 := hid (HR1.out.kept' hg2 (by intro e; have := Option.some.inj e; omega))
  have HP2 := hid hp2
  have HV1 := hid ov1
  have HU1 := hid ou1
  have HT1 := hid ht1
  have HC1 := hid hcut1
  have HN := hid (Box.made w2 26 #[.bool k1, .slice av1 zs1.length cv1, .slice au1 ts1.length cu1])
  have HNB := hid (alloc_later w2 (.cells #[.bool k1, .slice av1 zs1.length cv1, .slice au1 ts1.length cu1] 26))
  obtain ⟨Z, hZ⟩ : ∃ Z, w2.alloc (.cells #[.bool k1, .slice av1 zs1.length cv1, .slice au1 ts1.length cu1] 26) = Z := ⟨_, rfl⟩
  rw [hZ] at HN HNB
  have HAZ := hid (HA2.out.later HNB.out HA2.out.lt)
  have HRZ := hid (HRR2.out.later HNB.out HRR2.out.lt)
  clear ov1 ou1 ht1 hp2 hg2 hcut1 HW1 HA1 HR1 HP1 H1 ka0 ka1 ka2 kr0 kr1 kr2
  have ka3 : Z.cell? ⟨w.heap.size + 1, 3, none⟩ = some (.bool m) := HAZ.out.cell 3
  have ka4 : Z.cell? ⟨w.heap.size + 1, 4, none⟩ = some (.slice c us.length cc) := HAZ.out.cell 4
  have ka5 : Z.cell? ⟨w.heap.size + 1, 5, none⟩ = some (.slice d vs.length cd) := HAZ.out.cell 5
  have kr0 : Z.cell? ⟨w.heap.size, 0, none⟩ = some (.bool h) := HRZ.out.cell 0
  have kr1 : Z.cell? ⟨w.heap.size, 1, none⟩ = some (.slice e rs.length ce) := HRZ.out.cell 1
  have kr2 : Z.cell? ⟨w.heap.size, 2, none⟩ = some (.slice f ts.length cf) := HRZ.out.cell 2
  go_wp2_with fail
  refine Calls.mono (H2.out _ w0.heap.size code1 (bt HW2.out HNB.out) (HP2.out.later HNB.out HP2.out.lt)) ?_
  rintro x w3 ⟨k2, v2, zs2, u2, ts2, code2, rfl, ov2, ou2, ht2, hp3, hg3, hcut2⟩
  obtain ⟨av2, cv2, rfl⟩ := own_slice' ov2
  obtain ⟨au2, cu2, rfl⟩ := own_slice' ou2
  have hZ3 : Z.heap.size ≤ w3.heap.size := hg3.size
  have hw2Z : w2.heap.size < Z.heap.size := HN.out.lt
  have HW3 : Hid (Below w.heap.size w w3) := (bt HW2.out HNB.out).grown hg3 (bt HW2.out HNB.out).size (fun q hq => by have e := Option.some.inj hq; omega)
  have HR3 := hid ((HR2.out.later HNB.out HR2.out.lt).kept' hg3 (by intro e; have := Option.some.inj e; omega))
  have HN3 := hid (HN.out.kept' hg3 (by intro e; have := Option.some.inj e; omega))
  have HP3 := hid hp3
  have hk : ∀ (v : Value) (q : Nat), (∀ g, v.ownBlock = some g → q ≤ g) → w0.heap.size < q → v.ownBlock = none ∨ v.ownBlock ≠ some w0.heap.size := fun v q h1 h2 => by
    cases e : v.ownBlock with
    | none => exact .inl rfl
    | some g => right; intro h; have e2 := Option.some.inj h; have := h1 g e; omega
  have HV3 := hid (World.ownsRow.kept (owns_later HV1.out HNB.out) hg3 (hk _ w1.heap.size (fun g hg => (HV1.out.lt g hg).1) hpw1))
  have HU3 := hid (World.ownsRow.kept (owns_later HU1.out HNB.out) hg3 (hk _ w1.heap.size (fun g hg => (HU1.out.lt g hg).1) hpw1))
  have HV4 := hid ov2
  have HU4 := hid ou2
  have HT2 := hid ht2
  have HC2 := hid hcut2
  clear hk
  have HM := hid (Box.made w3 26 #[.bool k2, .slice av2 zs2.length cv2, .slice au2 ts2.length cu2])
  have HMB := hid (alloc_later w3 (.cells #[.bool k2, .slice av2 zs2.length cv2, .slice au2 ts2.length cu2] 26))
  obtain ⟨Q, hQ⟩ : ∃ Q, w3.alloc (.cells #[.bool k2, .slice av2 zs2.length cv2, .slice au2 ts2.length cu2] 26) = Q := ⟨_, rfl⟩
  rw [hQ] at HM HMB
  have HNQ := hid (HN3.out.later HMB.out HN3.out.lt)
  have HTO := hid (gtold_any w0.heap.size code2 k1 av1 zs1.length cv1 au1 ts1.length cu1 k2 av2 zs2.length cv2 au2 ts2.length cu2 Q (HP3.out.later HMB.out HP3.out.lt))
  clear ov2 ou2 ht2 hp3 hg3 hcut2 H2 ka3 ka4 ka5 kr0 kr1 kr2
  have ka0 : Q.cell? ⟨w2.heap.size, 0, none⟩ = some (.bool k1) := HNQ.out.cell 0
  have ka1 : Q.cell? ⟨w2.heap.size, 1, none⟩ = some (.slice av1 zs1.length cv1) := HNQ.out.cell 1
  have ka2 : Q.cell? ⟨w2.heap.size, 2, none⟩ = some (.slice au1 ts1.length cu1) := HNQ.out.cell 2
  have kb0 : Q.cell? ⟨w3.heap.size, 0, none⟩ = some (.bool k2) := HM.out.cell 0
  have kb1 : Q.cell? ⟨w3.heap.size, 1, none⟩ = some (.slice av2 zs2.length cv2) := HM.out.cell 1
  have kb2 : Q.cell? ⟨w3.heap.size, 2, none⟩ = some (.slice au2 ts2.length cu2) := HM.out.cell 2
  go_wp2_with fail
  refine Calls.mono HTO.out ?_
  rintro x w4 ⟨rfl, hb4⟩
  have HW4x := hid hb4
  have HR4 := hid (HR3.out.later (bt HMB.out hb4) HR3.out.lt)
  have HW4 := hid (bt HW3.out (bt HMB.out hb4))
  have HOO := hid (And.intro (owns_later HV3.out (bt HMB.out hb4)) (And.intro (owns_later HU3.out (bt HMB.out hb4)) (And.intro (owns_later HV4.out (bt HMB.out hb4)) (owns_later HU4.out (bt HMB.out hb4)))))
  have hlo : w.heap.size ≤ w1.heap.size := by omega
  have hlZ : w.heap.size ≤ Z.heap.size := by omega
  clear hb4 ka0 ka1 ka2 kb0 kb1 kb2
  have m0 : w4.cell? ⟨w.heap.size + 1 + 1, 0, none⟩ = some (.bool false) := HR4.out.cell 0
  have m1 : w4.cell? ⟨w.heap.size + 1 + 1, 1, none⟩ = some (.slice none 0 0) := HR4.out.cell 1
  have m2' : w4.cell? ⟨w.heap.size + 1 + 1, 2, none⟩ = some (.slice none 0 0) := HR4.out.cell 2
  have m3 : w4.cell? ⟨w.heap.size + 1 + 1, 3, none⟩ = some (.bool false) := HR4.out.cell 3
  have m4 : w4.cell? ⟨w.heap.size + 1 + 1, 4, none⟩ = some (.slice none 0 0) := HR4.out.cell 4
  have m5 : w4.cell? ⟨w.heap.size + 1 + 1, 5, none⟩ = some (.slice none 0 0) := HR4.out.cell 5
  have f0 := HR4.out.free 0
  have f1 := HR4.out.free 1
  have f2 := HR4.out.free 2
  have f3 := HR4.out.free 3
  have f4 := HR4.out.free 4
  have f5 := HR4.out.free 5
  have HTW := hid (gtwo HT1.out HT2.out (fun h => (HZ1.out h).1) (fun h => (HZ1.out h).2))
  have hsQ := (bt HMB.out HW4x.out).size
  by_cases hc2 : code2 = 0
  · rw [if_pos hc2]
    have HFIN := hid (HTW.out.1 hc2)
    clear HTW hc2
    go_wp2_with fail
    have B1 := box_put6 HR4.out (.bool k1) (.slice av1 zs1.length cv1) (.slice au1 ts1.length cu1) (.bool k2) (.slice av2 zs2.length cv2) (.slice au2 ts2.length cu2)
    have G1 := below_put6 HW4.out (w.heap.size + 1 + 1) (by omega) (.bool k1) (.slice av1 zs1.length cv1) (.slice au1 ts1.length cu1) (.bool k2) (.slice av2 zs2.length cv2) (.slice au2 ts2.length cu2)
    have hXX := HX.out.2.2.2.size
    have hput : ∀ {base k : Nat} {v : Value} {l : List Value}, w4.ownsRow base 115 1 v k l → (∀ g, v.ownBlock = some g → X.heap.size ≤ g) → ((((((w4.setCell ⟨w.heap.size + 1 + 1, 0, none⟩ (.bool k1)).setCell ⟨w.heap.size + 1 + 1, 1, none⟩ (.slice av1 zs1.length cv1)).setCell ⟨w.heap.size + 1 + 1, 2, none⟩ (.slice au1 ts1.length cu1)).setCell ⟨w.heap.size + 1 + 1, 3, none⟩ (.bool k2)).setCell ⟨w.heap.size + 1 + 1, 4, none⟩ (.slice av2 zs2.length cv2)).setCell ⟨w.heap.size + 1 + 1, 5, none⟩ (.slice au2 ts2.length cu2)).ownsRow base 115 1 v k l := fun h hb => own_put6 h _ (fun g hg => by have := hb g hg; omega) _ _ _ _ _ _
    clear m0 m1 m2' m3 m4 m5 f0 f1 f2 f3 f4 f5
    refine bodyPost_ret (gres_run (by rfl) B1 _ rfl) rfl ?_
    exact ⟨k1, av1, cv1, zs1, au1, cu1, ts1, k2, av2, cv2, zs2, au2, cu2, ts2, code2, rfl, ⟨owns_base (hput HOO.out.1 (fun g hg => by have := (HOO.out.1.lt g hg).1; omega)) hlo, owns_base (hput HOO.out.2.1 (fun g hg => by have := (HOO.out.2.1.lt g hg).1; omega)) hlo, owns_base (hput HOO.out.2.2.1 (fun g hg => by have := (HOO.out.2.2.1.lt g hg).1; omega)) hlZ, owns_base (hput HOO.out.2.2.2 (fun g hg => by have := (HOO.out.2.2.2.lt g hg).1; omega)) hlZ⟩, HFIN.out, G1, w2, HC1.out.up hlo (Nat.le_refl _), HC2.out.up HNB.out.size (by simp [World.setCell]; omega)⟩
  · rw [if_neg hc2]
    have HFIN := hid (HTW.out.2 hc2)
    clear HTW hc2
    go_wp2_with fail
    have B1 := box_put6 HR4.out (.bool false) (.slice none 0 0) (.slice none 0 0) (.bool false) (.slice none 0 0) (.slice none 0 0)
    have G1 := below_put6 HW4.out (w.heap.size + 1 + 1) (by omega) (.bool false) (.slice none 0 0) (.slice none 0 0) (.bool false) (.slice none 0 0) (.slice none 0 0)
    clear m0 m1 m2' m3 m4 m5 f0 f1 f2 f3 f4 f5
    refine bodyPost_ret (gres_run (by rfl) B1 _ rfl) rfl ?_
    exact ⟨false, none, 0, [], none, 0, [], false, none, 0, [], none, 0, [], code2, rfl, ⟨World.ownsRow_nil _ _ _ _, World.ownsRow_nil _ _ _ _, World.ownsRow_nil _ _ _ _, World.ownsRow_nil _ _ _ _⟩, HFIN.out, G1, _, cut_nil _ _ G1.size, cut_nil _ _ (Nat.le_refl _)⟩

end Go.Proofs.YtiaebiaeolaocaaGreatDoor

/- package tide: Scale, of any fraction and any constituent, good or refused; all four rows apart. -/
namespace Go.Proofs.YtiaebiaeolaocaaGreatDoor
open Go.RowKit
set_option linter.unusedVariables false
set_option linter.unusedSimpArgs false

set_option maxHeartbeats 3200000 in
set_option maxRecDepth 100000 in
theorem tScale_full (h : Bool) (e : Option Addr) (ce : Nat) (rs : List Int) (p : Option Addr) (cp : Nat) (ts : List Int) (s : ByteArray) (f r : Int) (n : Bool) (a : Option Addr) (ca : Nat) (xs : List Int) (b : Option Addr) (cb : Nat) (ys : List Int) (m : Bool) (c : Option Addr) (cc : Nat) (us : List Int) (d : Option Addr) (cd : Nat) (vs : List Int) (w : World) (hz : s.size ≤ 9223372036854775807) (hr : in32 f r) (sr : Sl w (.slice e rs.length ce) rs) (st : Sl w (.slice p ts.length cp) ts) (sx : Sl w (.slice a xs.length ca) xs) (sy : Sl w (.slice b ys.length cb) ys) (su : Sl w (.slice c us.length cc) us) (sv : Sl w (.slice d vs.length cd) vs) :
    Calls Tryz.prog 18 #[.agg #[.bool h, .slice e rs.length ce, .slice p ts.length cp], .agg #[.string s, .int .i32 f, .int .i32 r, .bool n, .slice a xs.length ca, .slice b ys.length cb, .bool m, .slice c us.length cc, .slice d vs.length cd]] w (TToldC w (fstE (rchk h rs ts) (tchk s.data.toList f r (gchk n xs ys m us vs))) (rlong (rq h rs ts * rq n xs ys) ∨ rlong (rq h rs ts * rq m us vs)) s.data.toList f r (rq h rs ts * rq n xs ys) (rq h rs ts * rq m us vs)) := by
  have HX := hid (boxes3s w 26 30 #[.bool h, .slice e rs.length ce, .slice p ts.length cp] #[.string s, .int .i32 f, .int .i32 r, .bool n, .slice a xs.length ca, .slice b ys.length cb, .bool m, .slice c us.length cc, .slice d vs.length cd] #[.string ⟨#[]⟩, .int .i32 0, .int .i32 0, .bool false, .slice none 0 0, .slice none 0 0, .bool false, .slice none 0 0, .slice none 0 0])
  obtain ⟨X, hX⟩ : ∃ X, ((w.alloc (.cells #[.bool h, .slice e rs.length ce, .slice p ts.length cp] 26)).alloc (.cells #[.string s, .int .i32 f, .int .i32 r, .bool n, .slice a xs.length ca, .slice b ys.length cb, .bool m, .slice c us.length cc, .slice d vs.length cd] 30)).alloc (.cells #[.string ⟨#[]⟩, .int .i32 0, .int .i32 0, .bool false, .slice none 0 0, .slice none 0 0, .bool false, .slice none 0 0, .slice none 0 0] 30) = X := ⟨_, rfl⟩
  rw [hX] at HX
  have HCR := hid (rcheck_any h _ rs _ ts X (sr.later HX.out.2.2.2) (st.later HX.out.2.2.2))
  have HC : Hid (∀ V, Below w.heap.size w V → Calls Tryz.prog 7 #[.agg #[.string s, .int .i32 f, .int .i32 r, .bool n, .slice a xs.length ca, .slice b ys.length cb, .bool m, .slice c us.length cc, .slice d vs.length cd]] V fun e w' => e = .returned (.int .i64 (tchk s.data.toList f r (gchk n xs ys m us vs))) ∧ Below V.heap.size V w') := fun V hv => tCheck_any s f r n a ca xs b cb ys m c cc us d cd vs V hz hr (sx.later hv) (sy.later hv) (su.later hv) (sv.later hv)
  have HGC : Hid (∀ V, Below w.heap.size w V → Calls Tryz.prog 42 #[.agg #[.bool h, .slice e rs.length ce, .slice p ts.length cp], .agg #[.bool n, .slice a xs.length ca, .slice b ys.length cb, .bool m, .slice c us.length cc, .slice d vs.length cd]] V (GToldC V (fstE (rchk h rs ts) (gchk n xs ys m us vs)) (rlong (rq h rs ts * rq n xs ys) ∨ rlong (rq h rs ts * rq m us vs)) (rq h rs ts * rq n xs ys) (rq h rs ts * rq m us vs))) := fun V hv => gScale_full h e ce rs p cp ts n a ca xs b cb ys m c cc us d cd vs V (sr.later hv) (st.later hv) (sx.later hv) (sy.later hv) (su.later hv) (sv.later hv)
  have HTK : Hid (tchk s.data.toList f r (gchk n xs ys m us vs) = 0 → gchk n xs ys m us vs = 0) := fun h => (tchk_ok h).2.2
  generalize gchk n xs ys m us vs = GE at *
  generalize tchk s.data.toList f r GE = TE at *
  generalize (rlong (rq h rs ts * rq n xs ys) ∨ rlong (rq h rs ts * rq m us vs)) = L at *
  generalize rchk h rs ts = RE at *
  have HF0 : Hid (RE = 0 → fstE RE TE = TE) := fun h => by rw [h, fstE_zero]
  have HF1 : Hid (RE ≠ 0 → fstE RE TE = RE) := fun h => fstE_err _ h
  generalize fstE RE TE = FE at *
  generalize rq h rs ts * rq n xs ys = q1 at *
  generalize rq h rs ts * rq m us vs = q2 at *
  clear sr st sx sy su sv hr
  have hwX : w.heap.size + 1 + 1 < X.heap.size := HX.out.2.2.1.lt
  have j0 : X.cell? ⟨w.heap.size, 0, none⟩ = some (.bool h) := HX.out.1.cell 0
  have j1 : X.cell? ⟨w.heap.size, 1, none⟩ = some (.slice e rs.length ce) := HX.out.1.cell 1
  have j2 : X.cell? ⟨w.heap.size, 2, none⟩ = some (.slice p ts.length cp) := HX.out.1.cell 2
  go_enter Tryz.func18, Tryz.ntmps18
  go_wp2_with fail
  refine Calls.mono HCR.out ?_
  rintro x w0 ⟨rfl, hb0⟩
  have HW0 := hid (bt HX.out.2.2.2 hb0)
  have HFX0 := hid (HX.out.1.later hb0 HX.out.1.lt)
  have HA0 := hid (HX.out.2.1.later hb0 HX.out.2.1.lt)
  have HR0 := hid (HX.out.2.2.1.later hb0 HX.out.2.2.1.lt)
  have hs0 : X.heap.size ≤ w0.heap.size := hb0.size
  clear hb0 HCR j0 j1 j2
  by_cases hRE : RE = 0
  · have HFE := hid (HF0.out hRE)
    subst hRE
    clear HF0 HF1
    rw [fstE_zero] at HGC
    have k0 : w0.cell? ⟨w.heap.size + 1, 0, none⟩ = some (.string s) := HA0.out.cell 0
    have k1 : w0.cell? ⟨w.heap.size + 1, 1, none⟩ = some (.int .i32 f) := HA0.out.cell 1
    have k2 : w0.cell? ⟨w.heap.size + 1, 2, none⟩ = some (.int .i32 r) := HA0.out.cell 2
    have k3 : w0.cell? ⟨w.heap.size + 1, 3, none⟩ = some (.bool n) := HA0.out.cell 3
    have k4 : w0.cell? ⟨w.heap.size + 1, 4, none⟩ = some (.slice a xs.length ca) := HA0.out.cell 4
    have k5 : w0.cell? ⟨w.heap.size + 1, 5, none⟩ = some (.slice b ys.length cb) := HA0.out.cell 5
    have k6 : w0.cell? ⟨w.heap.size + 1, 6, none⟩ = some (.bool m) := HA0.out.cell 6
    have k7 : w0.cell? ⟨w.heap.size + 1, 7, none⟩ = some (.slice c us.length cc) := HA0.out.cell 7
    have k8 : w0.cell? ⟨w.heap.size + 1, 8, none⟩ = some (.slice d vs.length cd) := HA0.out.cell 8
    go_wp2_with fail
    refine Calls.mono (HC.out _ HW0.out) ?_
    rintro x w1 ⟨rfl, hb1⟩
    have HW1 := hid (bt HW0.out hb1)
    have HFX1 := hid (HFX0.out.later hb1 HFX0.out.lt)
    have HA1 := hid (HA0.out.later hb1 HA0.out.lt)
    have HR1 := hid (HR0.out.later hb1 HR0.out.lt)
    have hs1 : X.heap.size ≤ w1.heap.size := Nat.le_trans hs0 hb1.size
    clear hb1 HC k0 k1 k2 k3 k4 k5 k6 k7 k8
    by_cases hTE : TE = 0
    · have hG := HTK.out hTE
      subst hTE
      subst hG
      clear HTK
      have k3 : w1.cell? ⟨w.heap.size + 1, 3, none⟩ = some (.bool n) := HA1.out.cell 3
      have k4 : w1.cell? ⟨w.heap.size + 1, 4, none⟩ = some (.slice a xs.length ca) := HA1.out.cell 4
      have k5 : w1.cell? ⟨w.heap.size + 1, 5, none⟩ = some (.slice b ys.length cb) := HA1.out.cell 5
      have k6 : w1.cell? ⟨w.heap.size + 1, 6, none⟩ = some (.bool m) := HA1.out.cell 6
      have k7 : w1.cell? ⟨w.heap.size + 1, 7, none⟩ = some (.slice c us.length cc) := HA1.out.cell 7
      have k8 : w1.cell? ⟨w.heap.size + 1, 8, none⟩ = some (.slice d vs.length cd) := HA1.out.cell 8
      have j0 : w1.cell? ⟨w.heap.size, 0, none⟩ = some (.bool h) := HFX1.out.cell 0
      have j1 : w1.cell? ⟨w.heap.size, 1, none⟩ = some (.slice e rs.length ce) := HFX1.out.cell 1
      have j2 : w1.cell? ⟨w.heap.size, 2, none⟩ = some (.slice p ts.length cp) := HFX1.out.cell 2
      go_wp2_with fail
      refine Calls.mono (HGC.out _ HW1.out) ?_
      rintro x w3 ⟨k1, a1, ca1, xs1, b1, cb1, ys1, m1, c1, cc1, us1, d1, cd1, vs1, code, rfl, hoo, ht, hb3, W1, hc1, hc2⟩
      have HM := hid (Box.made w3 28 #[.bool k1, .slice a1 xs1.length ca1, .slice b1 ys1.length cb1, .bool m1, .slice c1 us1.length cc1, .slice d1 vs1.length cd1])
      have HMB := hid (alloc_later w3 (.cells #[.bool k1, .slice a1 xs1.length ca1, .slice b1 ys1.length cb1, .bool m1, .slice c1 us1.length cc1, .slice d1 vs1.length cd1] 28))
      obtain ⟨Q, hQ⟩ : ∃ Q, w3.alloc (.cells #[.bool k1, .slice a1 xs1.length ca1, .slice b1 ys1.length cb1, .bool m1, .slice c1 us1.length cc1, .slice d1 vs1.length cd1] 28) = Q := ⟨_, rfl⟩
      rw [hQ] at HM HMB
      have HYQ := hid (bt hb3 HMB.out)
      have HWQ := hid (bt HW1.out HYQ.out)
      have HAQ := hid (HA1.out.later HYQ.out HA1.out.lt)
      have HRQ := hid (HR1.out.later HYQ.out HR1.out.lt)
      have HOQ := hid (And.intro (owns_later hoo.1 HMB.out) (And.intro (owns_later hoo.2.1 HMB.out) (And.intro (owns_later hoo.2.2.1 HMB.out) (owns_later hoo.2.2.2 HMB.out))))
      have HCQ : Hid (∃ W2, Cut w1 (.slice a1 xs1.length ca1) (.slice b1 ys1.length cb1) W2 ∧ Cut W2 (.slice c1 us1.length cc1) (.slice d1 vs1.length cd1) Q) := ⟨W1, hc1, hc2.up (Nat.le_refl _) HMB.out.size⟩
      have hbs : w.heap.size + 1 + 1 < w1.heap.size := by omega
      have HTT := hid ht
      clear hoo ht hb3 hc1 hc2 HGC k3 k4 k5 k6 k7 k8 j0 j1 j2
      have m0_ : Q.cell? ⟨w.heap.size + 1 + 1, 0, none⟩ = some (.string ⟨#[]⟩) := HRQ.out.cell 0
      have m1_ : Q.cell? ⟨w.heap.size + 1 + 1, 1, none⟩ = some (.int .i32 0) := HRQ.out.cell 1
      have m2_ : Q.cell? ⟨w.heap.size + 1 + 1, 2, none⟩ = some (.int .i32 0) := HRQ.out.cell 2
      have m3_ : Q.cell? ⟨w.heap.size + 1 + 1, 3, none⟩ = some (.bool false) := HRQ.out.cell 3
      have m4_ : Q.cell? ⟨w.heap.size + 1 + 1, 4, none⟩ = some (.slice none 0 0) := HRQ.out.cell 4
      have m5_ : Q.cell? ⟨w.heap.size + 1 + 1, 5, none⟩ = some (.slice none 0 0) := HRQ.out.cell 5
      have m6_ : Q.cell? ⟨w.heap.size + 1 + 1, 6, none⟩ = some (.bool false) := HRQ.out.cell 6
      have m7_ : Q.cell? ⟨w.heap.size + 1 + 1, 7, none⟩ = some (.slice none 0 0) := HRQ.out.cell 7
      have m8_ : Q.cell? ⟨w.heap.size + 1 + 1, 8, none⟩ = some (.slice none 0 0) := HRQ.out.cell 8
      have f0_ := HRQ.out.free 0
      have f1_ := HRQ.out.free 1
      have f2_ := HRQ.out.free 2
      have f3_ := HRQ.out.free 3
      have f4_ := HRQ.out.free 4
      have f5_ := HRQ.out.free 5
      have f6_ := HRQ.out.free 6
      have f7_ := HRQ.out.free 7
      have f8_ := HRQ.out.free 8
      by_cases hL : L
      · have hcode := (HTT.out.long rfl hL).2
        subst hcode
        have HL := hid hL
        clear hL
        go_wp2_with fail
        have B1 := box_put9 HRQ.out (.string ⟨#[]⟩) (.int .i32 0) (.int .i32 0) (.bool false) (.slice none 0 0) (.slice none 0 0) (.bool false) (.slice none 0 0) (.slice none 0 0)
        have G1 := below_put9 HWQ.out (w.heap.size + 1 + 1) (by omega) (.string ⟨#[]⟩) (.int .i32 0) (.int .i32 0) (.bool false) (.slice none 0 0) (.slice none 0 0) (.bool false) (.slice none 0 0) (.slice none 0 0)
        clear m0_ f0_ m1_ f1_ m2_ f2_ m3_ f3_ m4_ f4_ m5_ f5_ m6_ f6_ m7_ f7_ m8_ f8_
        exact bodyPost_ret (tres_run (by rfl) B1 _ rfl) rfl (ttoldc_zero (E := FE) (.inr ⟨HFE.out, HL.out, rfl⟩) G1)
      · have hcode := (HTT.out.good rfl hL).1
        subst hcode
        have HT := hid (show GTells FE L q1 q2 k1 xs1 ys1 m1 us1 vs1 0 by rw [HFE.out]; exact HTT.out)
        clear hL HTT
        have i0 : Q.cell? ⟨w.heap.size + 1, 0, none⟩ = some (.string s) := HAQ.out.cell 0
        have i1 : Q.cell? ⟨w.heap.size + 1, 1, none⟩ = some (.int .i32 f) := HAQ.out.cell 1
        have i2 : Q.cell? ⟨w.heap.size + 1, 2, none⟩ = some (.int .i32 r) := HAQ.out.cell 2
        have g0 : Q.cell? ⟨w3.heap.size, 0, none⟩ = some (.bool k1) := HM.out.cell 0
        have g1 : Q.cell? ⟨w3.heap.size, 1, none⟩ = some (.slice a1 xs1.length ca1) := HM.out.cell 1
        have g2 : Q.cell? ⟨w3.heap.size, 2, none⟩ = some (.slice b1 ys1.length cb1) := HM.out.cell 2
        have g3 : Q.cell? ⟨w3.heap.size, 3, none⟩ = some (.bool m1) := HM.out.cell 3
        have g4 : Q.cell? ⟨w3.heap.size, 4, none⟩ = some (.slice c1 us1.length cc1) := HM.out.cell 4
        have g5 : Q.cell? ⟨w3.heap.size, 5, none⟩ = some (.slice d1 vs1.length cd1) := HM.out.cell 5
        go_wp2_with fail
        have B1 := box_put9 HRQ.out (.string s) (.int .i32 f) (.int .i32 r) (.bool k1) (.slice a1 xs1.length ca1) (.slice b1 ys1.length cb1) (.bool m1) (.slice c1 us1.length cc1) (.slice d1 vs1.length cd1)
        have G1 := below_put9 HWQ.out (w.heap.size + 1 + 1) (by omega) (.string s) (.int .i32 f) (.int .i32 r) (.bool k1) (.slice a1 xs1.length ca1) (.slice b1 ys1.length cb1) (.bool m1) (.slice c1 us1.length cc1) (.slice d1 vs1.length cd1)
        have hput : ∀ {base k : Nat} {v : Value} {l : List Value}, Q.ownsRow base 115 1 v k l → w.heap.size + 1 + 1 < base → (((((((((Q.setCell ⟨w.heap.size + 1 + 1, 0, none⟩ (.string s)).setCell ⟨w.heap.size + 1 + 1, 1, none⟩ (.int .i32 f)).setCell ⟨w.heap.size + 1 + 1, 2, none⟩ (.int .i32 r)).setCell ⟨w.heap.size + 1 + 1, 3, none⟩ (.bool k1)).setCell ⟨w.heap.size + 1 + 1, 4, none⟩ (.slice a1 xs1.length ca1)).setCell ⟨w.heap.size + 1 + 1, 5, none⟩ (.slice b1 ys1.length cb1)).setCell ⟨w.heap.size + 1 + 1, 6, none⟩ (.bool m1)).setCell ⟨w.heap.size + 1 + 1, 7, none⟩ (.slice c1 us1.length cc1)).setCell ⟨w.heap.size + 1 + 1, 8, none⟩ (.slice d1 vs1.length cd1)).ownsRow w.heap.size 115 1 v k l := fun h hb => owns_base (own_put9 h _ (fun g hg => by have := (h.lt g hg).1; omega) _ _ _ _ _ _ _ _ _) (by omega)
        clear m0_ f0_ m1_ f1_ m2_ f2_ m3_ f3_ m4_ f4_ m5_ f5_ m6_ f6_ m7_ f7_ m8_ f8_
        refine bodyPost_ret (tres_run (by rfl) B1 _ rfl) rfl ?_
        obtain ⟨W1, hc1, hc2⟩ := HCQ.out
        refine ⟨s, f, r, k1, a1, ca1, xs1, b1, cb1, ys1, m1, c1, cc1, us1, d1, cd1, vs1, 0, rfl, ⟨hput HOQ.out.1 hbs, hput HOQ.out.2.1 hbs, hput HOQ.out.2.2.1 hbs, hput HOQ.out.2.2.2 hbs⟩, ⟨HT.out, fun h => absurd rfl h, fun _ => ⟨rfl, rfl, rfl⟩⟩, G1, W1, hc1.up (by omega) (Nat.le_refl _), hc2.up (Nat.le_refl _) (by simp [World.setCell])⟩
    · have hE' : (TE == 0) = false := by simp [hTE]
      have hE2 : (TE != 0) = true := by simp [hTE]
      have m0_ : w1.cell? ⟨w.heap.size + 1 + 1, 0, none⟩ = some (.string ⟨#[]⟩) := HR1.out.cell 0
      have m1_ : w1.cell? ⟨w.heap.size + 1 + 1, 1, none⟩ = some (.int .i32 0) := HR1.out.cell 1
      have m2_ : w1.cell? ⟨w.heap.size + 1 + 1, 2, none⟩ = some (.int .i32 0) := HR1.out.cell 2
      have m3_ : w1.cell? ⟨w.heap.size + 1 + 1, 3, none⟩ = some (.bool false) := HR1.out.cell 3
      have m4_ : w1.cell? ⟨w.heap.size + 1 + 1, 4, none⟩ = some (.slice none 0 0) := HR1.out.cell 4
      have m5_ : w1.cell? ⟨w.heap.size + 1 + 1, 5, none⟩ = some (.slice none 0 0) := HR1.out.cell 5
      have m6_ : w1.cell? ⟨w.heap.size + 1 + 1, 6, none⟩ = some (.bool false) := HR1.out.cell 6
      have m7_ : w1.cell? ⟨w.heap.size + 1 + 1, 7, none⟩ = some (.slice none 0 0) := HR1.out.cell 7
      have m8_ : w1.cell? ⟨w.heap.size + 1 + 1, 8, none⟩ = some (.slice none 0 0) := HR1.out.cell 8
      have f0_ := HR1.out.free 0
      have f1_ := HR1.out.free 1
      have f2_ := HR1.out.free 2
      have f3_ := HR1.out.free 3
      have f4_ := HR1.out.free 4
      have f5_ := HR1.out.free 5
      have f6_ := HR1.out.free 6
      have f7_ := HR1.out.free 7
      have f8_ := HR1.out.free 8
      go_wp2_with fail
      have B1 := box_put9 HR1.out (.string ⟨#[]⟩) (.int .i32 0) (.int .i32 0) (.bool false) (.slice none 0 0) (.slice none 0 0) (.bool false) (.slice none 0 0) (.slice none 0 0)
      have G1 := below_put9 HW1.out (w.heap.size + 1 + 1) (by omega) (.string ⟨#[]⟩) (.int .i32 0) (.int .i32 0) (.bool false) (.slice none 0 0) (.slice none 0 0) (.bool false) (.slice none 0 0) (.slice none 0 0)
      clear m0_ f0_ m1_ f1_ m2_ f2_ m3_ f3_ m4_ f4_ m5_ f5_ m6_ f6_ m7_ f7_ m8_ f8_
      exact bodyPost_ret (tres_run (by rfl) B1 _ rfl) rfl (ttoldc_zero (E := FE) (.inl ⟨by rw [HFE.out]; exact hTE, HFE.out.symm⟩) G1)
  · have hE' : (RE == 0) = false := by simp [hRE]
    have hE2 : (RE != 0) = true := by simp [hRE]
    have HFE := hid (HF1.out hRE)
    have m0_ : w0.cell? ⟨w.heap.size + 1 + 1, 0, none⟩ = some (.string ⟨#[]⟩) := HR0.out.cell 0
    have m1_ : w0.cell? ⟨w.heap.size + 1 + 1, 1, none⟩ = some (.int .i32 0) := HR0.out.cell 1
    have m2_ : w0.cell? ⟨w.heap.size + 1 + 1, 2, none⟩ = some (.int .i32 0) := HR0.out.cell 2
    have m3_ : w0.cell? ⟨w.heap.size + 1 + 1, 3, none⟩ = some (.bool false) := HR0.out.cell 3
    have m4_ : w0.cell? ⟨w.heap.size + 1 + 1, 4, none⟩ = some (.slice none 0 0) := HR0.out.cell 4
    have m5_ : w0.cell? ⟨w.heap.size + 1 + 1, 5, none⟩ = some (.slice none 0 0) := HR0.out.cell 5
    have m6_ : w0.cell? ⟨w.heap.size + 1 + 1, 6, none⟩ = some (.bool false) := HR0.out.cell 6
    have m7_ : w0.cell? ⟨w.heap.size + 1 + 1, 7, none⟩ = some (.slice none 0 0) := HR0.out.cell 7
    have m8_ : w0.cell? ⟨w.heap.size + 1 + 1, 8, none⟩ = some (.slice none 0 0) := HR0.out.cell 8
    have f0_ := HR0.out.free 0
    have f1_ := HR0.out.free 1
    have f2_ := HR0.out.free 2
    have f3_ := HR0.out.free 3
    have f4_ := HR0.out.free 4
    have f5_ := HR0.out.free 5
    have f6_ := HR0.out.free 6
    have f7_ := HR0.out.free 7
    have f8_ := HR0.out.free 8
    go_wp2_with fail
    have B1 := box_put9 HR0.out (.string ⟨#[]⟩) (.int .i32 0) (.int .i32 0) (.bool false) (.slice none 0 0) (.slice none 0 0) (.bool false) (.slice none 0 0) (.slice none 0 0)
    have G1 := below_put9 HW0.out (w.heap.size + 1 + 1) (by omega) (.string ⟨#[]⟩) (.int .i32 0) (.int .i32 0) (.bool false) (.slice none 0 0) (.slice none 0 0) (.bool false) (.slice none 0 0) (.slice none 0 0)
    clear m0_ f0_ m1_ f1_ m2_ f2_ m3_ f3_ m4_ f4_ m5_ f5_ m6_ f6_ m7_ f7_ m8_ f8_
    exact bodyPost_ret (tres_run (by rfl) B1 _ rfl) rfl (ttoldc_zero (E := FE) (.inl ⟨by rw [HFE.out]; exact hRE, HFE.out.symm⟩) G1)
end Go.Proofs.YtiaebiaeolaocaaGreatDoor

/- Constituents' texts: what is read prints as it was, what is printed is read as it was. Nothing here speaks of the program. -/
namespace Go.Proofs.YtiaebiaeolaocaaGreatDoor
open Go.RowKit Go.Lib
set_option linter.unusedVariables false
set_option linter.unusedSimpArgs false

theorem zdig_one {u : Nat} (h : u < 10) : decDigits u = [UInt8.ofNat (48 + u)] := by rw [decDigits, dif_pos h]
theorem zdig_more {u : Nat} (h : ¬ u < 10) : decDigits u = decDigits (u / 10) ++ [UInt8.ofNat (48 + u % 10)] := by rw [decDigits, dif_neg h]
theorem zdigit_nat (d : Nat) (h : d < 10) : (UInt8.ofNat (48 + d)).toNat = 48 + d := by rw [UInt8.toNat_ofNat']; omega
theorem zdec_all (n : Nat) : (∀ x ∈ decDigits n, 48 ≤ x.toNat ∧ x.toNat ≤ 57) ∧ decDigits n ≠ [] := by
  by_cases h : n < 10
  · rw [zdig_one h]
    refine ⟨fun x hx => ?_, by simp⟩
    rw [List.mem_singleton] at hx
    rw [hx, zdigit_nat n h]; omega
  · rw [zdig_more h]
    have ih := zdec_all (n / 10)
    refine ⟨fun x hx => ?_, by simp⟩
    rcases List.mem_append.1 hx with hx | hx
    · exact ih.1 x hx
    · rw [List.mem_singleton] at hx
      rw [hx, zdigit_nat (n % 10) (by omega)]; omega
termination_by n
decreasing_by omega
theorem zpum (n : Nat) (r : List UInt8) (hn : n < 9223372036854775808) : parseUint10 0 (decDigits n ++ r) = parseUint10 n r := by
  by_cases h : n < 10
  · rw [zdig_one h]
    show parseUint10 0 (UInt8.ofNat (48 + n) :: r) = _
    rw [parseUint10, zdigit_nat n h, if_pos (by omega), if_neg (by omega), if_neg (by omega)]
    congr 1; omega
  · rw [zdig_more h, List.append_assoc]
    rw [zpum (n / 10) _ (by omega)]
    show parseUint10 (n / 10) (UInt8.ofNat (48 + n % 10) :: r) = _
    rw [parseUint10, zdigit_nat (n % 10) (by omega), if_pos (by omega), if_neg (by omega), if_neg (by omega)]
    congr 1; omega
termination_by n
decreasing_by omega
theorem zmag (n : Nat) (hn : n < 9223372036854775808) : parseMag (decDigits n) = .ok n := by
  obtain ⟨ha, hne⟩ := zdec_all n
  have hp := zpum n [] (by omega)
  rw [List.append_nil] at hp
  have hp' : parseUint10 0 (decDigits n) = .ok n := hp
  unfold parseMag
  rw [if_neg (by simpa using hne)]
  exact hp'
theorem zatoi_itoa (v : Int) (h0 : -1000 ≤ v) (h1 : v ≤ 1000) : atoiAll (itoa v) = .ok v := by
  by_cases hv : v < 0
  · have e : itoa v = 45 :: decDigits v.natAbs := by unfold itoa; rw [if_pos hv]
    rw [e, atoiAll_minus, zmag _ (by omega)]
    show (if 9223372036854775808 < v.natAbs then NumEnd.range else .ok (-(v.natAbs : Int))) = .ok v
    rw [if_neg (by omega)]
    congr 1; omega
  · have e : itoa v = decDigits v.toNat := by unfold itoa; rw [if_neg hv]
    obtain ⟨ha, hne⟩ := zdec_all v.toNat
    rw [e]
    cases hl : decDigits v.toNat with
    | nil => exact absurd hl hne
    | cons c r =>
      have hc := ha c (by rw [hl]; simp)
      rw [atoiAll_plain c r (by omega) (by omega), ← hl, zmag _ (by omega)]
      show (if 9223372036854775808 ≤ v.toNat then NumEnd.range else .ok ((v.toNat : Nat) : Int)) = .ok v
      rw [if_neg (by omega)]
      congr 1; omega
theorem zdig_short {n k : Nat} (h : n < 10 ^ (k + 1)) : nDigits n ≤ k + 1 := by
  induction k generalizing n with
  | zero => rw [nDigits_small (by simpa using h)]; omega
  | succ k ih =>
    by_cases hn : n < 10
    · rw [nDigits_small hn]; omega
    · rw [nDigits_big hn]
      have : n / 10 < 10 ^ (k + 1) := by
        rw [Nat.div_lt_iff_lt_mul (by decide)]
        rw [Nat.pow_succ] at h
        exact h
      have := ih this
      omega
theorem zitoa_short (v : Int) (h0 : -1000 ≤ v) (h1 : v ≤ 1000) : (itoa v).length ≤ 5 := by
  unfold itoa
  split
  · rw [List.length_cons, decDigits_length]
    have := zdig_short (n := v.natAbs) (k := 3) (by omega)
    omega
  · rw [decDigits_length]
    have := zdig_short (n := v.toNat) (k := 3) (by omega)
    omega
theorem tnum_of (v : Int) (h0 : -1000 ≤ v) (h1 : v ≤ 1000) : tnumOk (itoa v) = true ∧ tnumV (itoa v) = v := by
  have e1 : tnumOk (itoa v) = true := by
    unfold tnumOk
    rw [decide_eq_true (zitoa_short v h0 h1), zatoi_itoa v h0 h1]
    simp
  refine ⟨e1, ?_⟩
  unfold tnumV
  rw [if_pos e1, zatoi_itoa v h0 h1]
theorem tnum_text {l : List UInt8} (h : tnumOk l = true) : itoa (tnumV l) = l := by
  have h' := h
  unfold tnumOk at h
  unfold tnumV
  rw [if_pos h']
  cases hp : atoiAll l with
  | ok v => rw [hp] at h; simp at h; exact h.2
  | «syntax» => rw [hp] at h; simp at h
  | range => rw [hp] at h; simp at h
theorem zsg_parts {n m : Bool} {x y : Int} (hx : 0 ≤ x) (hy : 0 ≤ y) (h1 : n = false ∨ 0 < x) (h2 : m = false ∨ 0 < y) (h : sg n x = sg m y) : n = m ∧ x = y := by
  cases n <;> cases m <;> simp [sg] at h h1 h2 ⊢ <;> omega
/-- What was read prints as it was. -/
theorem zread_text {l : List UInt8} (h : rgood l) {n : Bool} {xs ys : List Int} (wx : Wd xs) (wy : Wd ys) (hk : rchk n xs ys = 0) (hq : rq n xs ys = rpq l) : rtext n xs ys = l := by
  obtain ⟨lx, ly, tx, ty, y0, s0, g⟩ := rchk_ok hk
  have py := val_pos' wy ty y0
  obtain ⟨a1, a2⟩ := fr_num (x := sg n (val xs)) py (by rw [gcd_sg]; exact g)
  obtain ⟨b1, b2⟩ := fr_num (x := sg (rneg l) (rnu l)) h.2.2.1 (by rw [gcd_sg]; exact h.2.2.2.2)
  have e : Rat.divInt (sg n (val xs)) (val ys) = Rat.divInt (sg (rneg l) (rnu l)) (rde l) := hq
  rw [e] at a1 a2
  have n0 : 0 ≤ rnu l := (numTo_bounds h.1.2.2 _).1
  obtain ⟨c1, c2⟩ := zsg_parts (val_nonneg wx) n0 (s0.imp id (fun t => val_pos' wx tx t)) h.2.2.2.1 (a1.symm.trans b1)
  rw [c1]
  exact says_text h wy ty c2 (by omega)

theorem tcut_eq (l : List UInt8) : cut (32 :: l) [32] = ([], l, true) := by
  unfold cut
  rw [index_one, indexByte]
  simp
theorem tcut_ne (c : UInt8) (l : List UInt8) (h : c ≠ 32) : cut (c :: l) [32] = (c :: (cut l [32]).1, (cut l [32]).2.1, (cut l [32]).2.2) := by
  have hb : (c == 32) = false := by simpa using h
  unfold cut
  rw [index_one, index_one, indexByte, hb]
  by_cases hi : indexByte l 32 = -1
  · rw [hi]
    simp
  · have h0 : 0 ≤ indexByte l 32 := by
      have := index_ge l [32]
      rw [index_one] at this
      omega
    have h1 : (indexByte l 32 == -1) = false := by simpa using hi
    rw [h1]
    simp only [Bool.false_eq_true, if_false]
    rw [if_pos (by omega), if_pos h0]
    have e : (indexByte l 32 + 1).toNat = (indexByte l 32).toNat + 1 := by omega
    rw [e]
    simp
theorem tcut_split : ∀ (a b : List UInt8), (∀ x ∈ a, x ≠ 32) → cut (a ++ 32 :: b) [32] = (a, b, true)
  | [], b, _ => tcut_eq b
  | c :: a, b, h => by
    show cut (c :: (a ++ 32 :: b)) [32] = _
    rw [tcut_ne c _ (h c (by simp)), tcut_split a b (fun x hx => h x (by simp [hx]))]
theorem tcut_parts : ∀ l : List UInt8, ((cut l [32]).2.2 = true ∧ l = (cut l [32]).1 ++ 32 :: (cut l [32]).2.1) ∨ ((cut l [32]).2.1 = [])
  | [] => .inr (by decide)
  | c :: l => by
    by_cases h : c = 32
    · subst h; rw [tcut_eq]; exact .inl ⟨rfl, rfl⟩
    · rw [tcut_ne c l h]
      rcases tcut_parts l with ⟨h1, h2⟩ | h2
      · refine .inl ⟨h1, ?_⟩
        show c :: l = c :: ((cut l [32]).1 ++ 32 :: (cut l [32]).2.1)
        rw [← h2]
      · exact .inr h2
theorem trest_parts (l : List UInt8) : l = tword l ++ 32 :: trest l ∨ trest l = [] := by
  rcases tcut_parts l with ⟨_, h⟩ | h
  · exact .inl h
  · exact .inr h
theorem tword_nil : tword [] = [] := by decide
theorem trest_nil : trest [] = [] := by decide
theorem tnum_nil : tnumOk [] = false := by decide
theorem rgood_nil : ¬ rgood [] := fun h => by
  have h1 := h.1.1
  have e : rup [] = [] := by decide
  rw [e] at h1
  exact absurd h1 (by decide)
/-- A good text is its words with one blank between each two. -/
theorem tgood_text {l : List UInt8} (h : tgood l) : l = tword l ++ 32 :: (tword (trest l) ++ 32 :: (tword (trest (trest l)) ++ 32 :: (gp1 (trest (trest (trest l))) ++ 32 :: gp2 (trest (trest (trest l)))))) := by
  obtain ⟨h1, h2, h3, h4, h5⟩ := h
  rcases trest_parts l with e1 | e1
  · rcases trest_parts (trest l) with e2 | e2
    · rcases trest_parts (trest (trest l)) with e3 | e3
      · rcases trest_parts (trest (trest (trest l))) with e4 | e4
        · have e4' : trest (trest (trest l)) = gp1 (trest (trest (trest l))) ++ 32 :: gp2 (trest (trest (trest l))) := e4
          rw [← e4', ← e3, ← e2, ← e1]
        · have : gp2 (trest (trest (trest l))) = [] := e4
          rw [this] at h5
          exact absurd h5 rgood_nil
      · rw [e3] at h4
        have : gp1 [] = [] := tword_nil
        rw [this] at h4
        exact absurd h4 rgood_nil
    · rw [e2, tword_nil, tnum_nil] at h3
      cases h3
  · rw [e1, tword_nil, tnum_nil] at h2
    cases h2
/-- What was read prints as it was. -/
theorem tread_text {l : List UInt8} (h : tgood l) {n m : Bool} {xs ys us vs : List Int} (wx : Wd xs) (wy : Wd ys) (wu : Wd us) (wv : Wd vs) (k1 : rchk n xs ys = 0) (g1 : rq n xs ys = rpq (gp1 (trest (trest (trest l))))) (k2 : rchk m us vs = 0) (g2 : rq m us vs = rpq (gp2 (trest (trest (trest l))))) :
    ttext (tword l) (tnumV (tword (trest l))) (tnumV (tword (trest (trest l)))) (gtext n xs ys m us vs) = l := by
  unfold ttext gtext
  rw [zread_text h.2.2.2.1 wx wy k1 g1, zread_text h.2.2.2.2 wu wv k2 g2, tnum_text h.2.1, tnum_text h.2.2.1]
  exact (tgood_text h).symm
theorem tname_bytes {l : List UInt8} (h : tname l = true) : ∀ x ∈ l, x ≠ 32 := by
  unfold tname at h
  rw [Bool.and_eq_true, List.all_eq_true] at h
  intro x hx e
  have := h.2 x hx
  rw [e] at this
  exact absurd this (by decide)
theorem itoa_bytes (v : Int) : ∀ x ∈ itoa v, x ≠ 32 := by
  intro x hx e
  unfold itoa at hx
  split at hx
  · rcases List.mem_cons.1 hx with hx | hx
    · rw [e] at hx; exact absurd hx (by decide)
    · have := (zdec_all v.natAbs).1 x hx
      rw [e] at this; exact absurd this (by decide)
  · have := (zdec_all v.toNat).1 x hx
    rw [e] at this; exact absurd this (by decide)
theorem rtext_bytes (n : Bool) (xs ys : List Int) : ∀ x ∈ rtext n xs ys, x ≠ 32 := by
  have hd : ∀ k : Nat, ∀ x ∈ decDigits k, x ≠ 32 := fun k x hx e => by
    have := (zdec_all k).1 x hx
    rw [e] at this; exact absurd this (by decide)
  rw [rtext_eq]
  intro x hx
  rcases List.mem_append.1 hx with hx | hx
  · cases n with
    | false => simp at hx
    | true => simp at hx; rw [hx]; decide
  · rcases List.mem_append.1 hx with hx | hx
    · exact hd _ x hx
    · split at hx
      · simp at hx
      · rcases List.mem_cons.1 hx with hx | hx
        · rw [hx]; decide
        · exact hd _ x hx
theorem zform2 {n : Bool} {xs ys : List Int} (h : rchk n xs ys = 0) : rform n xs ys := by
  unfold rchk at h
  by_cases hl : 2048 < max xs.length ys.length
  · rw [if_pos hl] at h; exact absurd h (by decide)
  · rw [if_neg hl] at h
    by_cases c : rform n xs ys
    · exact c
    · rw [if_neg c] at h; exact absurd h (by decide)
/-- What is printed is read as it was. -/
theorem tprint_read {nm : List UInt8} {f r : Int} {n m : Bool} {xs ys us vs : List Int} (hn : tname nm = true) (hf : -1000 ≤ f ∧ f ≤ 1000) (hr : -1000 ≤ r ∧ r ≤ 1000) (wx : Wd xs) (wy : Wd ys) (wu : Wd us) (wv : Wd vs) (k1 : rchk n xs ys = 0) (k2 : rchk m us vs = 0) :
    tword (ttext nm f r (gtext n xs ys m us vs)) = nm ∧ tnumV (tword (trest (ttext nm f r (gtext n xs ys m us vs)))) = f ∧ tnumV (tword (trest (trest (ttext nm f r (gtext n xs ys m us vs))))) = r ∧ trest (trest (trest (ttext nm f r (gtext n xs ys m us vs)))) = gtext n xs ys m us vs ∧ gp1 (gtext n xs ys m us vs) = rtext n xs ys ∧ gp2 (gtext n xs ys m us vs) = rtext m us vs ∧ tgood (ttext nm f r (gtext n xs ys m us vs)) := by
  have c1 : cut (ttext nm f r (gtext n xs ys m us vs)) [32] = (nm, itoa f ++ 32 :: (itoa r ++ 32 :: gtext n xs ys m us vs), true) := tcut_split _ _ (tname_bytes hn)
  have c2 : cut (itoa f ++ 32 :: (itoa r ++ 32 :: gtext n xs ys m us vs)) [32] = (itoa f, itoa r ++ 32 :: gtext n xs ys m us vs, true) := tcut_split _ _ (itoa_bytes f)
  have c3 : cut (itoa r ++ 32 :: gtext n xs ys m us vs) [32] = (itoa r, gtext n xs ys m us vs, true) := tcut_split _ _ (itoa_bytes r)
  have c4 : cut (gtext n xs ys m us vs) [32] = (rtext n xs ys, rtext m us vs, true) := tcut_split _ _ (rtext_bytes n xs ys)
  have e1 : tword (ttext nm f r (gtext n xs ys m us vs)) = nm := by unfold tword; rw [c1]
  have e2 : trest (ttext nm f r (gtext n xs ys m us vs)) = itoa f ++ 32 :: (itoa r ++ 32 :: gtext n xs ys m us vs) := by unfold trest; rw [c1]
  have e3 : tword (itoa f ++ 32 :: (itoa r ++ 32 :: gtext n xs ys m us vs)) = itoa f := by unfold tword; rw [c2]
  have e4 : trest (itoa f ++ 32 :: (itoa r ++ 32 :: gtext n xs ys m us vs)) = itoa r ++ 32 :: gtext n xs ys m us vs := by unfold trest; rw [c2]
  have e5 : tword (itoa r ++ 32 :: gtext n xs ys m us vs) = itoa r := by unfold tword; rw [c3]
  have e6 : trest (itoa r ++ 32 :: gtext n xs ys m us vs) = gtext n xs ys m us vs := by unfold trest; rw [c3]
  have e7 : gp1 (gtext n xs ys m us vs) = rtext n xs ys := by unfold gp1; rw [c4]
  have e8 : gp2 (gtext n xs ys m us vs) = rtext m us vs := by unfold gp2; rw [c4]
  have f1 := tnum_of f hf.1 hf.2
  have f2 := tnum_of r hr.1 hr.2
  refine ⟨e1, by rw [e2, e3]; exact f1.2, by rw [e2, e4, e5]; exact f2.2, by rw [e2, e4, e6], e7, e8, ?_⟩
  unfold tgood ggood
  rw [e1, e2, e3, e4, e5, e6, e7, e8]
  exact ⟨hn, f1.1, f2.1, rgood_text wx wy (zform2 k1), rgood_text wu wv (zform2 k2)⟩
end Go.Proofs.YtiaebiaeolaocaaGreatDoor

/- Constituents that are good: what the calls tell of them, by their fractions. -/
namespace Go.Proofs.YtiaebiaeolaocaaGreatDoor
open Go.RowKit
set_option linter.unusedVariables false
set_option linter.unusedSimpArgs false

/-- Both parts may be, and are these. -/
def GQ (n : Bool) (xs ys : List Int) (m : Bool) (us vs : List Int) (q1 q2 : Rat) : Prop := (rchk n xs ys = 0 ∧ rq n xs ys = q1) ∧ rchk m us vs = 0 ∧ rq m us vs = q2
def TOk (w : World) (S : ByteArray) (F R : Int) (q1 q2 : Rat) (x : Ending) (w' : World) : Prop := ∃ n a ca xs b cb ys m c cc us d cd vs, x = .returned (.tuple #[.agg #[.string S, .int .i32 F, .int .i32 R, .bool n, .slice a (List.length xs) ca, .slice b (List.length ys) cb, .bool m, .slice c (List.length us) cc, .slice d (List.length vs) cd], .int .i64 0]) ∧ Hid (Sl w' (.slice a (List.length xs) ca) xs ∧ Sl w' (.slice b (List.length ys) cb) ys ∧ Sl w' (.slice c (List.length us) cc) us ∧ Sl w' (.slice d (List.length vs) cd) vs) ∧ Hid (GQ n xs ys m us vs q1 q2) ∧ Hid (Below w.heap.size w w')
def GOk2 (w : World) (q1 q2 : Rat) (x : Ending) (w' : World) : Prop := ∃ n a ca xs b cb ys m c cc us d cd vs, x = .returned (.tuple #[.agg #[.bool n, .slice a (List.length xs) ca, .slice b (List.length ys) cb, .bool m, .slice c (List.length us) cc, .slice d (List.length vs) cd], .int .i64 0]) ∧ Hid (Sl w' (.slice a (List.length xs) ca) xs ∧ Sl w' (.slice b (List.length ys) cb) ys ∧ Sl w' (.slice c (List.length us) cc) us ∧ Sl w' (.slice d (List.length vs) cd) vs) ∧ Hid (GQ n xs ys m us vs q1 q2) ∧ Hid (Below w.heap.size w w')
def ROk2 (w : World) (q : Rat) (x : Ending) (w' : World) : Prop := ∃ n a ca xs b cb ys, x = .returned (.tuple #[.agg #[.bool n, .slice a (List.length xs) ca, .slice b (List.length ys) cb], .int .i64 0]) ∧ Hid (Sl w' (.slice a (List.length xs) ca) xs ∧ Sl w' (.slice b (List.length ys) cb) ys) ∧ Hid (rchk n xs ys = 0 ∧ rq n xs ys = q) ∧ Hid (Below w.heap.size w w')
theorem tok_of {f : Nat} {args : Array Value} {w : World} {E : Int} {L : Prop} {l : List UInt8} {F R : Int} {q1 q2 : Rat} (H : Calls Tryz.prog f args w (TToldC w E L l F R q1 q2)) (hE : E = 0) (hL : ¬ L) (S : ByteArray) (hS : S.data.toList = l) : Calls Tryz.prog f args w (TOk w S F R q1 q2) := by
  subst hE
  refine Calls.mono H ?_
  rintro x w' ⟨S', F', R', n, a, ca, xs, b, cb, ys, m, c, cc, us, d, cd, vs, code, rfl, ⟨o1, o2, o3, o4⟩, t, hb, _⟩
  obtain ⟨rfl, k1, k2⟩ := t.num.good rfl hL
  obtain ⟨e1, rfl, rfl⟩ := t.good rfl
  have e : S' = S := ByteArray.ext (Array.toList_inj.1 (e1.trans hS.symm))
  subst e
  exact ⟨n, a, ca, xs, b, cb, ys, m, c, cc, us, d, cd, vs, rfl, ⟨Sl.own o1 t.num.wd.1, Sl.own o2 t.num.wd.2.1, Sl.own o3 t.num.wd.2.2.1, Sl.own o4 t.num.wd.2.2.2⟩, ⟨k1, k2⟩, hb⟩
theorem gok_of {f : Nat} {args : Array Value} {w : World} {E : Int} {L : Prop} {q1 q2 : Rat} (H : Calls Tryz.prog f args w (GToldC w E L q1 q2)) (hE : E = 0) (hL : ¬ L) : Calls Tryz.prog f args w (GOk2 w q1 q2) := by
  subst hE
  refine Calls.mono H ?_
  rintro x w' ⟨n, a, ca, xs, b, cb, ys, m, c, cc, us, d, cd, vs, code, rfl, ⟨o1, o2, o3, o4⟩, t, hb, _⟩
  obtain ⟨rfl, k1, k2⟩ := t.good rfl hL
  exact ⟨n, a, ca, xs, b, cb, ys, m, c, cc, us, d, cd, vs, rfl, ⟨Sl.own o1 t.wd.1, Sl.own o2 t.wd.2.1, Sl.own o3 t.wd.2.2.1, Sl.own o4 t.wd.2.2.2⟩, ⟨k1, k2⟩, hb⟩
theorem rok_of {f : Nat} {args : Array Value} {w : World} {E : Int} {q : Rat} (H : Calls Tryz.prog f args w (RToldA w E q)) (hE : E = 0) (hL : ¬ rlong q) : Calls Tryz.prog f args w (ROk2 w q) := by
  subst hE
  refine Calls.mono H ?_
  rintro x w' ⟨n, v, xs, u, ys, code, rfl, o1, o2, t, hb, _⟩
  obtain ⟨rfl, k⟩ := t.good rfl hL
  obtain ⟨a, ca, rfl⟩ := own_slice' o1
  obtain ⟨b, cb, rfl⟩ := own_slice' o2
  exact ⟨n, a, ca, xs, b, cb, ys, rfl, ⟨Sl.own o1 t.wx, Sl.own o2 t.wy⟩, k, hb⟩
theorem GQ.chk {n m : Bool} {xs ys us vs : List Int} {q1 q2 : Rat} (h : GQ n xs ys m us vs q1 q2) : gchk n xs ys m us vs = 0 := by unfold gchk; rw [h.1.1, fstE_zero, h.2.1]
theorem GQ.same {n m n' m' : Bool} {xs ys us vs xs' ys' us' vs' : List Int} {q1 q2 : Rat} (h : GQ n xs ys m us vs q1 q2) (g : GQ n' xs' ys' m' us' vs' q1 q2) (wx : Wd xs) (wy : Wd ys) (wu : Wd us) (wv : Wd vs) (wx' : Wd xs') (wy' : Wd ys') (wu' : Wd us') (wv' : Wd vs') : (n = n' ∧ xs = xs' ∧ ys = ys') ∧ m = m' ∧ us = us' ∧ vs = vs' :=
  ⟨rq_inj wx wy wx' wy' h.1.1 g.1.1 (h.1.2.trans g.1.2.symm), rq_inj wu wv wu' wv' h.2.1 g.2.1 (h.2.2.trans g.2.2.symm)⟩
theorem GQ.len {n m : Bool} {xs ys us vs : List Int} {q1 q2 : Rat} (h : GQ n xs ys m us vs q1 q2) : xs.length ≤ 2048 ∧ ys.length ≤ 2048 ∧ us.length ≤ 2048 ∧ vs.length ≤ 2048 := ⟨(rchk_ok h.1.1).1, (rchk_ok h.1.1).2.1, (rchk_ok h.2.1).1, (rchk_ok h.2.1).2.1⟩
theorem rlong_neg {q : Rat} : rlong (-q) ↔ rlong q := by
  unfold rlong
  rw [Rat.neg_num, Int.natAbs_neg, Rat.neg_den]
theorem GQ.short {n m : Bool} {xs ys us vs : List Int} {q1 q2 : Rat} (h : GQ n xs ys m us vs q1 q2) (wx : Wd xs) (wy : Wd ys) (wu : Wd us) (wv : Wd vs) : ¬ rlong q1 ∧ ¬ rlong q2 := by
  rw [← h.1.2, ← h.2.2]
  exact ⟨znotlong wx wy h.1.1, znotlong wu wv h.2.1⟩
/-- The digits of a number of few words are few. -/
theorem zdec_few {xs : List Int} (wx : Wd xs) {k : Nat} (h : xs.length ≤ k) : (Lib.decDigits (val xs).toNat).length ≤ 10 * k + 1 := by
  rw [Lib.decDigits_length]
  have h1 := hgt_val wx h
  have h0 := val_nonneg wx
  have h2 : (2 : Nat) ^ (32 * k) ≤ 10 ^ (10 * k) := by
    have e1 : (2 : Nat) ^ (32 * k) = (2 ^ 32) ^ k := by rw [Nat.pow_mul]
    have e2 : (10 : Nat) ^ (10 * k) = (10 ^ 10) ^ k := by rw [Nat.pow_mul]
    rw [e1, e2]
    exact Nat.pow_le_pow_left (by decide) k
  have h3 : (val xs).toNat < 10 ^ (10 * k + 1) := by
    rw [Nat.pow_succ]
    have : 0 < 10 ^ (10 * k) := Nat.pow_pos (by decide)
    omega
  exact zdig_short h3
theorem zrtext_few {n : Bool} {xs ys : List Int} (wx : Wd xs) (wy : Wd ys) {k : Nat} (hx : xs.length ≤ k) (hy : ys.length ≤ k) : (rtext n xs ys).length ≤ 20 * k + 4 := by
  have h1 := zdec_few wx hx
  have h2 := zdec_few wy hy
  rw [rtext_eq]
  have h3 : (if n then [45] else [] : List UInt8).length ≤ 1 := by cases n <;> simp
  have h4 : (if ys = [1] then [] else 47 :: Lib.decDigits (val ys).toNat : List UInt8).length ≤ 10 * k + 2 := by
    by_cases hy1 : ys = [1]
    · rw [if_pos hy1]; simp
    · rw [if_neg hy1, List.length_cons]; omega
  rw [List.length_append, List.length_append]
  omega
theorem zgtext_few {n m : Bool} {xs ys us vs : List Int} (wx : Wd xs) (wy : Wd ys) (wu : Wd us) (wv : Wd vs) (hx : xs.length ≤ 20) (hy : ys.length ≤ 20) (hu : us.length ≤ 20) (hv : vs.length ≤ 20) : (gtext n xs ys m us vs).length ≤ 809 := by
  have h1 := zrtext_few (n := n) wx wy hx hy
  have h2 := zrtext_few (n := m) wu wv hu hv
  unfold gtext
  rw [List.length_append, List.length_cons]
  omega
theorem zshort_mul {n m : Bool} {xs ys us vs : List Int} (wx : Wd xs) (wy : Wd ys) (wu : Wd us) (wv : Wd vs) (h1 : rchk n xs ys = 0) (h2 : rchk m us vs = 0) (lx : xs.length ≤ 20) (ly : ys.length ≤ 20) (lu : us.length ≤ 20) (lv : vs.length ≤ 20) : ¬ rlong (rq n xs ys * rq m us vs) := by
  obtain ⟨k, hk⟩ : ∃ k : Nat, k = 20 := ⟨_, rfl⟩
  rw [← hk] at lx ly lu lv
  have h := (hgt_words wx wy h1 lx ly).mul (hgt_words wu wv h2 lu lv)
  rw [← Nat.pow_add] at h
  exact h.short (by omega)
theorem zshort_div {n m : Bool} {xs ys us vs : List Int} (wx : Wd xs) (wy : Wd ys) (wu : Wd us) (wv : Wd vs) (h1 : rchk n xs ys = 0) (h2 : rchk m us vs = 0) (lx : xs.length ≤ 20) (ly : ys.length ≤ 20) (lu : us.length ≤ 20) (lv : vs.length ≤ 20) : ¬ rlong (rq n xs ys / rq m us vs) := by
  obtain ⟨k, hk⟩ : ∃ k : Nat, k = 20 := ⟨_, rfl⟩
  rw [← hk] at lx ly lu lv
  have h := (hgt_words wx wy h1 lx ly).div (hgt_words wu wv h2 lu lv)
  rw [← Nat.pow_add] at h
  exact h.short (by omega)
/-- Print of a good constituent whose text is short. -/
theorem tprint_good (s : ByteArray) (f r : Int) (n : Bool) (a : Option Addr) (ca : Nat) (xs : List Int) (b : Option Addr) (cb : Nat) (ys : List Int) (m : Bool) (c : Option Addr) (cc : Nat) (us : List Int) (d : Option Addr) (cd : Nat) (vs : List Int) (w : World) (sx : Sl w (.slice a xs.length ca) xs) (sy : Sl w (.slice b ys.length cb) ys) (su : Sl w (.slice c us.length cc) us) (sv : Sl w (.slice d vs.length cd) vs) (hz : s.size ≤ 9223372036854775807) (hr : in32 f r) (htab : Tab w) (hk : tchk s.data.toList f r (gchk n xs ys m us vs) = 0) (hl : (gtext n xs ys m us vs).length ≤ 65536) (hl2 : (ttext s.data.toList f r (gtext n xs ys m us vs)).length ≤ 65536) :
    Calls Tryz.prog 6 #[.agg #[.string s, .int .i32 f, .int .i32 r, .bool n, .slice a (List.length xs) ca, .slice b (List.length ys) cb, .bool m, .slice c (List.length us) cc, .slice d (List.length vs) cd]] w fun x w' => x = .returned (.tuple #[.string ⟨(ttext s.data.toList f r (gtext n xs ys m us vs)).toArray⟩, .int .i64 0]) ∧ Below w.heap.size w w' := by
  refine Calls.mono (tPrint_any s f r n a ca xs b cb ys m c cc us d cd vs w hz hr sx sy su sv htab) ?_
  rintro x w' ⟨S, rfl, hS, _, hb⟩
  have hg : gpErr n xs ys m us vs = 0 := by unfold gpErr; rw [(tchk_ok hk).2.2, fstE_zero, if_neg (by omega)]
  have e0 : tpErr (tchk s.data.toList f r (gchk n xs ys m us vs)) s.data.toList f r (gpErr n xs ys m us vs) (gtext n xs ys m us vs) = 0 := tpErr_ok hk hg (by omega)
  have e1 := hS e0
  rw [e0, zbytes e1]
  exact ⟨rfl, hb⟩
theorem trok {f r : Int} (h : ochk f r = 0) : rOK f r := by
  rcases ochk_or f r with g | g
  · exact g.2
  · rw [h] at g; exact absurd g.1 (by decide)
theorem trok_in {f r : Int} (h : rOK f r) : (-1000 ≤ f ∧ f ≤ 1000) ∧ (-1000 ≤ r ∧ r ≤ 1000) := by
  obtain ⟨h1, h2, h3, h4, _⟩ := h
  omega
theorem trok_neg {f r : Int} (h : ochk f r = 0) : ochk f (-r) = 0 := by
  rcases ochk_or f (-r) with g | g
  · exact g.1
  · refine absurd ?_ g.2
    have k := trok h
    unfold rOK at k ⊢
    rw [Int.natAbs_neg]
    exact k
/-- Parse of the text of a good constituent. -/
theorem tparse_text {nm : ByteArray} {f r : Int} {n m : Bool} {xs ys us vs : List Int} (wx : Wd xs) (wy : Wd ys) (wu : Wd us) (wv : Wd vs) (hk : tchk nm.data.toList f r (gchk n xs ys m us vs) = 0) (hl : (ttext nm.data.toList f r (gtext n xs ys m us vs)).length ≤ 65536) (w : World) (htab : Tab w) (herr : ErrT w) :
    Calls Tryz.prog 5 #[.string ⟨(ttext nm.data.toList f r (gtext n xs ys m us vs)).toArray⟩] w (TOk w nm f r (rq n xs ys) (rq m us vs)) := by
  obtain ⟨hn, ho, hg⟩ := tchk_ok hk
  obtain ⟨g1, g2⟩ := gchk_ok hg
  obtain ⟨b1, b2⟩ := trok_in (trok ho)
  obtain ⟨p1, p2, p3, p4, p5, p6, p7⟩ := tprint_read hn b1 b2 wx wy wu wv g1 g2
  have hs : (⟨(ttext nm.data.toList f r (gtext n xs ys m us vs)).toArray⟩ : ByteArray).size ≤ 65536 := by show (ttext nm.data.toList f r (gtext n xs ys m us vs)).toArray.size ≤ _; simpa using hl
  have e0 : (⟨(ttext nm.data.toList f r (gtext n xs ys m us vs)).toArray⟩ : ByteArray).data.toList = ttext nm.data.toList f r (gtext n xs ys m us vs) := by simp
  have H := tParse_any ⟨(ttext nm.data.toList f r (gtext n xs ys m us vs)).toArray⟩ w (by omega) htab herr
  have hE : tpE ⟨(ttext nm.data.toList f r (gtext n xs ys m us vs)).toArray⟩ = 0 := by
    rw [tpE_good hs (by rw [e0]; exact p7), e0, p2, p3]
    exact ho
  rw [e0, p1, p2, p3, p4, p5, p6, rpq_text n wx wy, rpq_text m wu wv] at H
  refine tok_of H hE ?_ nm rfl
  unfold gplong
  rw [p5, p6, rpq_text n wx wy, rpq_text m wu wv]
  rintro (h | h)
  · exact znotlong wx wy g1 h
  · exact znotlong wu wv g2 h
/-- Parse of any text: where a constituent is told it may be, and prints as the text. -/
theorem tparse_both (t : ByteArray) (w : World) (hm : t.size ≤ 2000) (htab : Tab w) (herr : ErrT w) :
    Calls Tryz.prog 5 #[.string t] w fun x w' => ∃ S F R n a ca xs b cb ys m c cc us d cd vs code, x = .returned (.tuple #[.agg #[.string S, .int .i32 F, .int .i32 R, .bool n, .slice a (List.length xs) ca, .slice b (List.length ys) cb, .bool m, .slice c (List.length us) cc, .slice d (List.length vs) cd], .int .i64 code]) ∧ Hid (Sl w' (.slice a (List.length xs) ca) xs ∧ Sl w' (.slice b (List.length ys) cb) ys ∧ Sl w' (.slice c (List.length us) cc) us ∧ Sl w' (.slice d (List.length vs) cd) vs) ∧ Hid (code = 0 → S.size ≤ 20 ∧ in32 F R ∧ tchk S.data.toList F R (gchk n xs ys m us vs) = 0 ∧ ttext S.data.toList F R (gtext n xs ys m us vs) = t.data.toList) ∧ Hid (Below w.heap.size w w') := by
  have hz : t.size ≤ 65536 := by omega
  refine Calls.mono (tParse_any t w (by omega) htab herr) ?_
  rintro x w' ⟨S, F, R, n, a, ca, xs, b, cb, ys, m, c, cc, us, d, cd, vs, code, rfl, ⟨o1, o2, o3, o4⟩, tt, hb, _⟩
  refine ⟨S, F, R, n, a, ca, xs, b, cb, ys, m, c, cc, us, d, cd, vs, code, rfl, ⟨Sl.own o1 tt.num.wd.1, Sl.own o2 tt.num.wd.2.1, Sl.own o3 tt.num.wd.2.2.1, Sl.own o4 tt.num.wd.2.2.2⟩, ?_, hb⟩
  intro hc
  have hE : tpE t = 0 := Classical.byContradiction fun hn => hn (((tt.num.bad hn).2).symm.trans hc)
  have hL : ¬ gplong (trest (trest (trest t.data.toList))) := fun hl => absurd ((tt.num.long hE hl).2.symm.trans hc) (by decide)
  have hgd : tgood t.data.toList := Classical.byContradiction fun hn => by
    rw [tpE_bad hz hn] at hE; exact absurd hE (by decide)
  have ho : ochk (tnumV (tword (trest t.data.toList))) (tnumV (tword (trest (trest t.data.toList)))) = 0 := by rw [← tpE_good hz hgd]; exact hE
  obtain ⟨_, ⟨k1, g1⟩, k2, g2⟩ := tt.num.good hE hL
  obtain ⟨e1, rfl, rfl⟩ := tt.good hc
  refine ⟨?_, ?_, ?_, ?_⟩
  · have h1 := (tname_ok hgd.1).2
    have h2 : S.data.toList.length = S.size := Array.length_toList
    rw [e1] at h2
    omega
  · obtain ⟨b1, b2⟩ := trok_in (trok ho)
    exact ⟨by omega, by omega⟩
  · rw [e1, tchk_rest _ _ _ hgd.1, ho, fstE_zero]
    unfold gchk
    rw [k1, fstE_zero, k2]
  · rw [e1]
    exact tread_text hgd tt.num.wd.1 tt.num.wd.2.1 tt.num.wd.2.2.1 tt.num.wd.2.2.2 k1 g1 k2 g2
/-- Conj of a good constituent. -/
theorem tconj_good (s : ByteArray) (f r : Int) (n : Bool) (a : Option Addr) (ca : Nat) (xs : List Int) (b : Option Addr) (cb : Nat) (ys : List Int) (m : Bool) (c : Option Addr) (cc : Nat) (us : List Int) (d : Option Addr) (cd : Nat) (vs : List Int) (w : World) (sx : Sl w (.slice a xs.length ca) xs) (sy : Sl w (.slice b ys.length cb) ys) (su : Sl w (.slice c us.length cc) us) (sv : Sl w (.slice d vs.length cd) vs) (hz : s.size ≤ 9223372036854775807) (hr : in32 f r) (hk : tchk s.data.toList f r (gchk n xs ys m us vs) = 0) :
    Calls Tryz.prog 10 #[.agg #[.string s, .int .i32 f, .int .i32 r, .bool n, .slice a (List.length xs) ca, .slice b (List.length ys) cb, .bool m, .slice c (List.length us) cc, .slice d (List.length vs) cd]] w (TOk w s f (-r) (rq n xs ys) (-(rq m us vs))) := by
  obtain ⟨g1, g2⟩ := gchk_ok (tchk_ok hk).2.2
  refine tok_of (tConj_full s f r n a ca xs b cb ys m c cc us d cd vs w hz hr sx sy su sv) hk ?_ s rfl
  rintro (h | h)
  · exact znotlong sx.wd sy.wd g1 h
  · exact znotlong su.wd sv.wd g2 (rlong_neg.1 h)
theorem gconj_good (n : Bool) (a : Option Addr) (ca : Nat) (xs : List Int) (b : Option Addr) (cb : Nat) (ys : List Int) (m : Bool) (c : Option Addr) (cc : Nat) (us : List Int) (d : Option Addr) (cd : Nat) (vs : List Int) (w : World) (sx : Sl w (.slice a xs.length ca) xs) (sy : Sl w (.slice b ys.length cb) ys) (su : Sl w (.slice c us.length cc) us) (sv : Sl w (.slice d vs.length cd) vs) (hk : gchk n xs ys m us vs = 0) :
    Calls Tryz.prog 12 #[.agg #[.bool n, .slice a (List.length xs) ca, .slice b (List.length ys) cb, .bool m, .slice c (List.length us) cc, .slice d (List.length vs) cd]] w (GOk2 w (rq n xs ys) (-(rq m us vs))) := by
  obtain ⟨g1, g2⟩ := gchk_ok hk
  refine gok_of (gConj_full n a ca xs b cb ys m c cc us d cd vs w sx sy su sv) hk ?_
  rintro (h | h)
  · exact znotlong sx.wd sy.wd g1 h
  · exact znotlong su.wd sv.wd g2 (rlong_neg.1 h)
/-- Scale of a good constituent, where nothing gets too long. -/
theorem tscale_good (h : Bool) (e : Option Addr) (ce : Nat) (rs : List Int) (p : Option Addr) (cp : Nat) (ts : List Int) (s : ByteArray) (f r : Int) (n : Bool) (a : Option Addr) (ca : Nat) (xs : List Int) (b : Option Addr) (cb : Nat) (ys : List Int) (m : Bool) (c : Option Addr) (cc : Nat) (us : List Int) (d : Option Addr) (cd : Nat) (vs : List Int) (w : World) (sx : Sl w (.slice a xs.length ca) xs) (sy : Sl w (.slice b ys.length cb) ys) (su : Sl w (.slice c us.length cc) us) (sv : Sl w (.slice d vs.length cd) vs) (sr : Sl w (.slice e rs.length ce) rs) (st : Sl w (.slice p ts.length cp) ts) (hz : s.size ≤ 9223372036854775807) (hr : in32 f r) (hk : tchk s.data.toList f r (gchk n xs ys m us vs) = 0) (hrk : rchk h rs ts = 0) (hl : ¬ rlong (rq h rs ts * rq n xs ys) ∧ ¬ rlong (rq h rs ts * rq m us vs)) :
    Calls Tryz.prog 18 #[.agg #[.bool h, .slice e (List.length rs) ce, .slice p (List.length ts) cp], .agg #[.string s, .int .i32 f, .int .i32 r, .bool n, .slice a (List.length xs) ca, .slice b (List.length ys) cb, .bool m, .slice c (List.length us) cc, .slice d (List.length vs) cd]] w (TOk w s f r (rq h rs ts * rq n xs ys) (rq h rs ts * rq m us vs)) :=
  tok_of (tScale_full h e ce rs p cp ts s f r n a ca xs b cb ys m c cc us d cd vs w hz hr sr st sx sy su sv) (by rw [hrk, fstE_zero]; exact hk) (fun hh => hh.elim hl.1 hl.2) s rfl
/-- Same of two with the same words. -/
theorem tsame_eq (s : ByteArray) (f r f2 r2 : Int) (n : Bool) (a : Option Addr) (ca : Nat) (xs : List Int) (b : Option Addr) (cb : Nat) (ys : List Int) (m : Bool) (c : Option Addr) (cc : Nat) (us : List Int) (d : Option Addr) (cd : Nat) (vs : List Int) (n2 : Bool) (a2 : Option Addr) (ca2 : Nat) (xs2 : List Int) (b2 : Option Addr) (cb2 : Nat) (ys2 : List Int) (m2 : Bool) (c2 : Option Addr) (cc2 : Nat) (us2 : List Int) (d2 : Option Addr) (cd2 : Nat) (vs2 : List Int) (w : World) (hs1 : Sl w (.slice a xs.length ca) xs ∧ Sl w (.slice b ys.length cb) ys ∧ Sl w (.slice c us.length cc) us ∧ Sl w (.slice d vs.length cd) vs) (hs2 : Sl w (.slice a2 xs2.length ca2) xs2 ∧ Sl w (.slice b2 ys2.length cb2) ys2 ∧ Sl w (.slice c2 us2.length cc2) us2 ∧ Sl w (.slice d2 vs2.length cd2) vs2) {q1 q2 : Rat} (h : GQ n xs ys m us vs q1 q2) (g : GQ n2 xs2 ys2 m2 us2 vs2 q1 q2) (hf : f = f2) (hr : r = r2) :
    Calls Tryz.prog 9 #[.agg #[.string s, .int .i32 f, .int .i32 r, .bool n, .slice a (List.length xs) ca, .slice b (List.length ys) cb, .bool m, .slice c (List.length us) cc, .slice d (List.length vs) cd], .agg #[.string s, .int .i32 f2, .int .i32 r2, .bool n2, .slice a2 (List.length xs2) ca2, .slice b2 (List.length ys2) cb2, .bool m2, .slice c2 (List.length us2) cc2, .slice d2 (List.length vs2) cd2]] w fun x w' => x = .returned (.bool true) ∧ Below w.heap.size w w' := by
  have l1 := h.len
  have l2 := g.len
  refine Calls.mono (tSame_any s f r n a ca xs b cb ys m c cc us d cd vs s f2 r2 n2 a2 ca2 xs2 b2 cb2 ys2 m2 c2 cc2 us2 d2 cd2 vs2 w hs1.1 hs1.2.1 hs1.2.2.1 hs1.2.2.2 hs2.1 hs2.2.1 hs2.2.2.1 hs2.2.2.2 (by omega) (by omega) (by omega) (by omega) (by omega) (by omega) (by omega) (by omega)) ?_
  rintro x w' ⟨rfl, hb⟩
  obtain ⟨e1, e2⟩ := h.same g hs1.1.wd hs1.2.1.wd hs1.2.2.1.wd hs1.2.2.2.wd hs2.1.wd hs2.2.1.wd hs2.2.2.1.wd hs2.2.2.2.wd
  rw [decide_eq_true e1, decide_eq_true e2, hf, hr]
  exact ⟨by simp, hb⟩
theorem gsame_eq (n : Bool) (a : Option Addr) (ca : Nat) (xs : List Int) (b : Option Addr) (cb : Nat) (ys : List Int) (m : Bool) (c : Option Addr) (cc : Nat) (us : List Int) (d : Option Addr) (cd : Nat) (vs : List Int) (n2 : Bool) (a2 : Option Addr) (ca2 : Nat) (xs2 : List Int) (b2 : Option Addr) (cb2 : Nat) (ys2 : List Int) (m2 : Bool) (c2 : Option Addr) (cc2 : Nat) (us2 : List Int) (d2 : Option Addr) (cd2 : Nat) (vs2 : List Int) (w : World) (hs1 : Sl w (.slice a xs.length ca) xs ∧ Sl w (.slice b ys.length cb) ys ∧ Sl w (.slice c us.length cc) us ∧ Sl w (.slice d vs.length cd) vs) (hs2 : Sl w (.slice a2 xs2.length ca2) xs2 ∧ Sl w (.slice b2 ys2.length cb2) ys2 ∧ Sl w (.slice c2 us2.length cc2) us2 ∧ Sl w (.slice d2 vs2.length cd2) vs2) {q1 q2 : Rat} (h : GQ n xs ys m us vs q1 q2) (g : GQ n2 xs2 ys2 m2 us2 vs2 q1 q2) :
    Calls Tryz.prog 13 #[.agg #[.bool n, .slice a (List.length xs) ca, .slice b (List.length ys) cb, .bool m, .slice c (List.length us) cc, .slice d (List.length vs) cd], .agg #[.bool n2, .slice a2 (List.length xs2) ca2, .slice b2 (List.length ys2) cb2, .bool m2, .slice c2 (List.length us2) cc2, .slice d2 (List.length vs2) cd2]] w fun x w' => x = .returned (.bool true) ∧ Below w.heap.size w w' := by
  have l1 := h.len
  obtain ⟨⟨rfl, rfl, rfl⟩, rfl, rfl, rfl⟩ := h.same g hs1.1.wd hs1.2.1.wd hs1.2.2.1.wd hs1.2.2.2.wd hs2.1.wd hs2.2.1.wd hs2.2.2.1.wd hs2.2.2.2.wd
  exact gsameGauss_eq n a ca xs b cb ys m c cc us d cd vs a2 ca2 b2 cb2 c2 cc2 d2 cd2 w hs1.1 hs1.2.1 hs1.2.2.1 hs1.2.2.2 hs2.1 hs2.2.1 hs2.2.2.1 hs2.2.2.2 (by omega) (by omega) (by omega) (by omega)
end Go.Proofs.YtiaebiaeolaocaaGreatDoor

