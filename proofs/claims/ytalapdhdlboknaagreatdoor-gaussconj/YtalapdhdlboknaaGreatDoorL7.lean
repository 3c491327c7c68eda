/- My texts on the way to GaussConj, one behind the other: contracts of the program and of the document's answers. -/
import Derived.Test.YtalapdhdlboknaaGreatDoorL1
import Derived.Test.YtalapdhdlboknaaGreatDoorL3
import Derived.Test.YtalapdhdlboknaaGreatDoorL4
import Derived.Test.YtalapdhdlboknaaGreatDoorL5
import Derived.Test.YtalapdhdlboknaaGreatDoorL6
import Derived.Test.YtalapdhdlboknaaGreatDoorShelf
import Derived.Lib.IndexBytes
import Derived.Lib.CutLaws
import Derived.Shelf.RegionOpenPlain
import Derived.Deep.RegionHeld3
import Derived.Deep.Cut
/- strings.Cut at one byte. -/
namespace Go.Proofs.YtalapdhdlboknaaGreatDoor
open Go.RowKit Go.Lib
set_option linter.unusedVariables false
set_option linter.unusedSimpArgs false

theorem zcut_len (l : List UInt8) (c : UInt8) : (Lib.cut l [c]).1.length ≤ l.length ∧ (Lib.cut l [c]).2.1.length ≤ l.length := by
  unfold Lib.cut
  split
  · simp
    omega
  · simp
end Go.Proofs.YtalapdhdlboknaaGreatDoor

/- Complex fractions: gauss.Parse: of any text. -/
namespace Go.Proofs.YtalapdhdlboknaaGreatDoor
open Go.RowKit Go.Lib
set_option linter.unusedVariables false

/-- A complex fraction told in new memory, all four rows apart. -/
def GToldC (w : World) (E : Int) (L : Prop) (q1 q2 : Rat) (x : Ending) (w' : World) : Prop :=
  ∃ n a ca xs b cb ys m c cc us d cd vs code, x = .returned (.tuple #[.agg #[.bool n, .slice a (List.length xs) ca, .slice b (List.length ys) cb, .bool m, .slice c (List.length us) cc, .slice d (List.length vs) cd], .int .i64 code]) ∧ (w'.ownsRow w.heap.size 62 1 (.slice a xs.length ca) xs.length (xs.map (Value.int .u32)) ∧ w'.ownsRow w.heap.size 62 1 (.slice b ys.length cb) ys.length (ys.map (Value.int .u32)) ∧ w'.ownsRow w.heap.size 62 1 (.slice c us.length cc) us.length (us.map (Value.int .u32)) ∧ w'.ownsRow w.heap.size 62 1 (.slice d vs.length cd) vs.length (vs.map (Value.int .u32))) ∧ GTells E L q1 q2 n xs ys m us vs code ∧ Below w.heap.size w w' ∧ ∃ W1, Cut w (.slice a xs.length ca) (.slice b ys.length cb) W1 ∧ Cut W1 (.slice c us.length cc) (.slice d vs.length cd) w'
theorem GToldC.told {w w' : World} {E : Int} {L : Prop} {q1 q2 : Rat} {x : Ending} (h : GToldC w E L q1 q2 x w') : GTold w E L q1 q2 x w' := by
  obtain ⟨n, a, ca, xs, b, cb, ys, m, c, cc, us, d, cd, vs, code, e, o, t, hb, _⟩ := h
  exact ⟨n, a, ca, xs, b, cb, ys, m, c, cc, us, d, cd, vs, code, e, o, t, hb⟩
theorem cut_nil (w w' : World) (h : w.heap.size ≤ w'.heap.size) : Cut w (.slice none 0 0) (.slice none 0 0) w' := ⟨w.heap.size, Nat.le_refl _, h, fun g hg => by simp [Value.ownBlock] at hg, fun g hg => by simp [Value.ownBlock] at hg⟩
theorem gtoldc_zero {w W : World} {E : Int} {L : Prop} {q1 q2 : Rat} {code : Int} (h : E ≠ 0 ∧ code = E ∨ E = 0 ∧ L ∧ code = 3) (hb : Below w.heap.size w W) : GToldC w E L q1 q2 (.returned (.tuple #[.agg #[.bool false, .slice none 0 0, .slice none 0 0, .bool false, .slice none 0 0, .slice none 0 0], .int .i64 code])) W := by
  refine ⟨false, none, 0, [], none, 0, [], false, none, 0, [], none, 0, [], code, rfl, ⟨World.ownsRow_nil _ _ _ _, World.ownsRow_nil _ _ _ _, World.ownsRow_nil _ _ _ _, World.ownsRow_nil _ _ _ _⟩, ⟨⟨Wd.nil, Wd.nil, Wd.nil, Wd.nil⟩, fun he => ⟨⟨rfl, rfl, rfl, rfl, rfl, rfl⟩, ?_⟩, fun he hl => ⟨⟨rfl, rfl, rfl, rfl, rfl, rfl⟩, ?_⟩, fun he hl => ?_⟩, hb, W, cut_nil _ _ hb.size, cut_nil _ _ (Nat.le_refl _)⟩
  · rcases h with h | h
    · exact h.2
    · exact absurd h.1 he
  · rcases h with h | h
    · exact absurd he h.1
    · exact h.2.2
  · rcases h with h | h
    · exact absurd he h.1
    · exact absurd h.2.1 hl

/-- The two pieces of a text. -/
def gp1 (l : List UInt8) : List UInt8 := (Lib.cut l [32]).1
def gp2 (l : List UInt8) : List UInt8 := (Lib.cut l [32]).2.1
def ggood (l : List UInt8) : Prop := rgood (gp1 l) ∧ rgood (gp2 l)
def gplong (l : List UInt8) : Prop := rlong (rpq (gp1 l)) ∨ rlong (rpq (gp2 l))
open Classical in
/-- What is refused of a text, but for numbers that are too long. -/
noncomputable def gpE (s : ByteArray) : Int := if 65536 < s.size then 3 else if ggood s.data.toList then 0 else 140
theorem gpE_long {s : ByteArray} (h : 65536 < s.size) : gpE s = 3 := by unfold gpE; rw [if_pos h]
theorem gpE_good {s : ByteArray} (hs : s.size ≤ 65536) (h : ggood s.data.toList) : gpE s = 0 := by unfold gpE; rw [if_neg (by omega), if_pos h]
theorem gpE_bad {s : ByteArray} (hs : s.size ≤ 65536) (h : ¬ ggood s.data.toList) : gpE s = 140 := by unfold gpE; rw [if_neg (by omega), if_neg h]
/-- The codes of both pieces, and what is told of them. -/
theorem gpar_codes {l1 l2 : List UInt8} (z1 : l1.length ≤ 65536) (z2 : l2.length ≤ 65536) {n m : Bool} {xs ys us vs : List Int} {c1 c2 : Int} (h1 : RTells (prErr ⟨l1.toArray⟩) (rpq l1) n xs ys c1) (h2 : RTells (prErr ⟨l2.toArray⟩) (rpq l2) m us vs c2) :
    (c1 = 130 ∧ ¬ (rgood l1 ∧ rgood l2)) ∨ (c1 ≠ 130 ∧ c2 = 130 ∧ ¬ (rgood l1 ∧ rgood l2)) ∨ ((rgood l1 ∧ rgood l2) ∧ c1 = 3 ∧ c2 ≠ 130 ∧ (rlong (rpq l1) ∨ rlong (rpq l2))) ∨ ((rgood l1 ∧ rgood l2) ∧ c1 = 0 ∧ c2 = 3 ∧ (rlong (rpq l1) ∨ rlong (rpq l2))) ∨ ((rgood l1 ∧ rgood l2) ∧ c1 = 0 ∧ c2 = 0 ∧ ¬ (rlong (rpq l1) ∨ rlong (rpq l2)) ∧ (rchk n xs ys = 0 ∧ rq n xs ys = rpq l1) ∧ rchk m us vs = 0 ∧ rq m us vs = rpq l2) := by
  have s1 : (⟨l1.toArray⟩ : ByteArray).size ≤ 65536 := by show l1.toArray.size ≤ 65536; simpa using z1
  have s2 : (⟨l2.toArray⟩ : ByteArray).size ≤ 65536 := by show l2.toArray.size ≤ 65536; simpa using z2
  have g1 : (⟨l1.toArray⟩ : ByteArray).data.toList = l1 := by simp
  have g2 : (⟨l2.toArray⟩ : ByteArray).data.toList = l2 := by simp
  have c2f : ¬ rgood l2 → c2 = 130 := fun h => by
    have e := prErr_bad s2 (by rw [g2]; exact h)
    rw [e] at h2
    exact (h2.bad (by decide)).2.2.2
  have c2t : rgood l2 → (c2 = 3 ∧ rlong (rpq l2)) ∨ (c2 = 0 ∧ ¬ rlong (rpq l2) ∧ rchk m us vs = 0 ∧ rq m us vs = rpq l2) := fun h => by
    have e := prErr_good s2 (by rw [g2]; exact h)
    rw [e] at h2
    by_cases hl : rlong (rpq l2)
    · exact .inl ⟨(h2.long rfl hl).2.2.2, hl⟩
    · exact .inr ⟨(h2.good rfl hl).1, hl, (h2.good rfl hl).2⟩
  by_cases k1 : rgood l1
  · have e := prErr_good s1 (by rw [g1]; exact k1)
    rw [e] at h1
    by_cases k2 : rgood l2
    · rcases c2t k2 with ⟨d, hl2⟩ | ⟨d, hl2, hk⟩
      · by_cases hl : rlong (rpq l1)
        · exact .inr (.inr (.inl ⟨⟨k1, k2⟩, (h1.long rfl hl).2.2.2, by omega, .inl hl⟩))
        · exact .inr (.inr (.inr (.inl ⟨⟨k1, k2⟩, (h1.good rfl hl).1, d, .inr hl2⟩)))
      · by_cases hl : rlong (rpq l1)
        · exact .inr (.inr (.inl ⟨⟨k1, k2⟩, (h1.long rfl hl).2.2.2, by omega, .inl hl⟩))
        · exact .inr (.inr (.inr (.inr ⟨⟨k1, k2⟩, (h1.good rfl hl).1, d, fun h => h.elim hl hl2, (h1.good rfl hl).2, hk⟩)))
    · refine .inr (.inl ⟨?_, c2f k2, fun h => k2 h.2⟩)
      by_cases hl : rlong (rpq l1)
      · have := (h1.long rfl hl).2.2.2; omega
      · have := (h1.good rfl hl).1; omega
  · have e := prErr_bad s1 (by rw [g1]; exact k1)
    rw [e] at h1
    exact .inl ⟨(h1.bad (by decide)).2.2.2, fun h => k1 h.1⟩

end Go.Proofs.YtalapdhdlboknaaGreatDoor

/- Complex fractions: gauss.Conj: of any, good or refused; all four rows apart. -/
namespace Go.Proofs.YtalapdhdlboknaaGreatDoor
open Go.RowKit
set_option linter.unusedVariables false

set_option maxHeartbeats 3200000 in
set_option maxRecDepth 100000 in
theorem gConj_full (n : Bool) (a : Option Addr) (ca : Nat) (xs : List Int) (b : Option Addr) (cb : Nat) (ys : List Int) (m : Bool) (c : Option Addr) (cc : Nat) (us : List Int) (d : Option Addr) (cd : Nat) (vs : List Int) (w : World) (sx : Sl w (.slice a xs.length ca) xs) (sy : Sl w (.slice b ys.length cb) ys) (su : Sl w (.slice c us.length cc) us) (sv : Sl w (.slice d vs.length cd) vs) :
    Calls Tryz.prog 13 #[.agg #[.bool n, .slice a xs.length ca, .slice b ys.length cb, .bool m, .slice c us.length cc, .slice d vs.length cd]] w (GToldC w (gchk n xs ys m us vs) (rlong (rq n xs ys) ∨ rlong (-(rq m us vs))) (rq n xs ys) (-(rq m us vs))) := by
  have HX := hid (boxes2r w 26 #[.bool n, .slice a xs.length ca, .slice b ys.length cb, .bool m, .slice c us.length cc, .slice d vs.length cd] #[.bool false, .slice none 0 0, .slice none 0 0, .bool false, .slice none 0 0, .slice none 0 0])
  obtain ⟨X, hX⟩ : ∃ X, (w.alloc (.cells #[.bool n, .slice a xs.length ca, .slice b ys.length cb, .bool m, .slice c us.length cc, .slice d vs.length cd] 26)).alloc (.cells #[.bool false, .slice none 0 0, .slice none 0 0, .bool false, .slice none 0 0, .slice none 0 0] 26) = X := ⟨_, rfl⟩
  rw [hX] at HX
  have HY := hid (Box.made X 26 #[.bool n, .slice a xs.length ca, .slice b ys.length cb, .bool m, .slice c us.length cc, .slice d vs.length cd])
  have HYB := hid (alloc_later X (.cells #[.bool n, .slice a xs.length ca, .slice b ys.length cb, .bool m, .slice c us.length cc, .slice d vs.length cd] 26))
  obtain ⟨Y, hY⟩ : ∃ Y, X.alloc (.cells #[.bool n, .slice a xs.length ca, .slice b ys.length cb, .bool m, .slice c us.length cc, .slice d vs.length cd] 26) = Y := ⟨_, rfl⟩
  rw [hY] at HY HYB
  have HWY := hid (bt HX.out.2.2 HYB.out)
  have HL := hid (glookAt1_any X.heap.size n a ca xs b cb ys m c cc us d cd vs Y HY.out (sx.later HWY.out) (sy.later HWY.out) (su.later HWY.out) (sv.later HWY.out))
  have H1 : Hid (∀ V p, Below w.heap.size w V → Box V p 53 #[.int .i64 (gchk n xs ys m us vs)] → Calls Tryz.prog 35 #[.pointer (some ⟨p, 0, none⟩), .agg #[.bool n, .slice a xs.length ca, .slice b ys.length cb]] V (GTell V p (gchk n xs ys m us vs) (rq n xs ys))) := fun V p hv hb => gcopied_any p (gchk n xs ys m us vs) n a ca xs b cb ys V hb (sx.later hv) (sy.later hv) (fun h => (gchk_ok h).1)
  have H2 : Hid (∀ V p E, Below w.heap.size w V → Box V p 53 #[.int .i64 E] → Calls Tryz.prog 33 #[.pointer (some ⟨p, 0, none⟩), .agg #[.bool m, .slice c us.length cc, .slice d vs.length cd]] V (GTell V p (fstE E (rchk m us vs)) (-(rq m us vs)))) := fun V p E hv hb => gopposite_any p E m c cc us d cd vs V hb (su.later hv) (sv.later hv)
  have HZ1 : Hid (gchk n xs ys m us vs = 0 → rchk n xs ys = 0 ∧ rchk m us vs = 0) := fun h => by
    exact gchk_ok h
  generalize gchk n xs ys m us vs = E0 at *
  generalize rchk m us vs = e2 at *
  generalize rq n xs ys = q1 at *
  generalize -(rq m us vs) = q2 at *
  clear sx sy su sv
  have ka0 : X.cell? ⟨w.heap.size, 0, none⟩ = some (.bool n) := HX.out.1.cell 0
  have ka1 : X.cell? ⟨w.heap.size, 1, none⟩ = some (.slice a xs.length ca) := HX.out.1.cell 1
  have ka2 : X.cell? ⟨w.heap.size, 2, none⟩ = some (.slice b ys.length cb) := HX.out.1.cell 2
  have ka3 : X.cell? ⟨w.heap.size, 3, none⟩ = some (.bool m) := HX.out.1.cell 3
  have ka4 : X.cell? ⟨w.heap.size, 4, none⟩ = some (.slice c us.length cc) := HX.out.1.cell 4
  have ka5 : X.cell? ⟨w.heap.size, 5, none⟩ = some (.slice d vs.length cd) := HX.out.1.cell 5
  go_enter Tryz.func13, Tryz.ntmps13
  go_wp2_with fail
  refine Calls.mono HL.out ?_
  rintro x w1 ⟨p, rfl, hpl, hpb, hb1⟩
  have HW1 := hid (bt HWY.out hb1)
  have HA1 := hid (HX.out.1.later (bt HYB.out hb1) HX.out.1.lt)
  have HR1 := hid (HX.out.2.1.later (bt HYB.out hb1) HX.out.2.1.lt)
  have HP1 := hid hpb
  have hpX : X.heap.size < p := Nat.lt_of_lt_of_le HY.out.lt hpl
  have hrX : w.heap.size + 1 < X.heap.size := HX.out.2.1.lt
  clear hpb hb1 hpl HL ka0 ka1 ka2 ka3 ka4 ka5
  have ka0 : w1.cell? ⟨w.heap.size, 0, none⟩ = some (.bool n) := HA1.out.cell 0
  have ka1 : w1.cell? ⟨w.heap.size, 1, none⟩ = some (.slice a xs.length ca) := HA1.out.cell 1
  have ka2 : w1.cell? ⟨w.heap.size, 2, none⟩ = some (.slice b ys.length cb) := HA1.out.cell 2
  go_wp2_with fail
  refine Calls.mono (H1.out _ p HW1.out HP1.out) ?_
  rintro x w2 ⟨k1, v1, zs1, u1, ts1, code1, rfl, ov1, ou1, ht1, hp2, hg2, hcut1⟩
  obtain ⟨av1, cv1, rfl⟩ := own_slice' ov1
  obtain ⟨au1, cu1, rfl⟩ := own_slice' ou1
  have hw12 : w1.heap.size ≤ w2.heap.size := hg2.size
  have hp1l : p < w1.heap.size := HP1.out.lt
  have HW2 : Hid (Below w.heap.size w w2) := HW1.out.grown hg2 HW1.out.size (fun q hq => by have e := Option.some.inj hq; omega)
  have HA2 := hid (HA1.out.kept' hg2 (by intro e; have := Option.some.inj e; omega))
  have HR2 := hid (HR1.out.kept' hg2 (by intro e; have := Option.some.inj e; omega))
  have HP2 := hid hp2
  have HV1 := hid ov1
  have HU1 := hid ou1
  have HT1 := hid ht1
  have HC1 := hid hcut1
  have HN := hid (Box.made w2 24 #[.bool k1, .slice av1 zs1.length cv1, .slice au1 ts1.length cu1])
  have HNB := hid (alloc_later w2 (.cells #[.bool k1, .slice av1 zs1.length cv1, .slice au1 ts1.length cu1] 24))
  obtain ⟨Z, hZ⟩ : ∃ Z, w2.alloc (.cells #[.bool k1, .slice av1 zs1.length cv1, .slice au1 ts1.length cu1] 24) = Z := ⟨_, rfl⟩
  rw [hZ] at HN HNB
  have HAZ := hid (HA2.out.later HNB.out HA2.out.lt)
  clear ov1 ou1 ht1 hp2 hg2 hcut1 HW1 HA1 HR1 HP1 H1 ka0 ka1 ka2
  have ka0 : Z.cell? ⟨w.heap.size, 3, none⟩ = some (.bool m) := HAZ.out.cell 3
  have ka1 : Z.cell? ⟨w.heap.size, 4, none⟩ = some (.slice c us.length cc) := HAZ.out.cell 4
  have ka2 : Z.cell? ⟨w.heap.size, 5, none⟩ = some (.slice d vs.length cd) := HAZ.out.cell 5
  go_wp2_with fail
  refine Calls.mono (H2.out _ p code1 (bt HW2.out HNB.out) (HP2.out.later HNB.out HP2.out.lt)) ?_
  rintro x w3 ⟨k2, v2, zs2, u2, ts2, code2, rfl, ov2, ou2, ht2, hp3, hg3, hcut2⟩
  obtain ⟨av2, cv2, rfl⟩ := own_slice' ov2
  obtain ⟨au2, cu2, rfl⟩ := own_slice' ou2
  have hZ3 : Z.heap.size ≤ w3.heap.size := hg3.size
  have hw2Z : w2.heap.size < Z.heap.size := HN.out.lt
  have HW3 : Hid (Below w.heap.size w w3) := (bt HW2.out HNB.out).grown hg3 (bt HW2.out HNB.out).size (fun q hq => by have e := Option.some.inj hq; omega)
  have HR3 := hid ((HR2.out.later HNB.out HR2.out.lt).kept' hg3 (by intro e; have := Option.some.inj e; omega))
  have HN3 := hid (HN.out.kept' hg3 (by intro e; have := Option.some.inj e; omega))
  have HP3 := hid hp3
  have hk : ∀ (v : Value) (q : Nat), (∀ g, v.ownBlock = some g → q ≤ g) → p < q → v.ownBlock = none ∨ v.ownBlock ≠ some p := fun v q h1 h2 => by
    cases e : v.ownBlock with
    | none => exact .inl rfl
    | some g => right; intro h; have e2 := Option.some.inj h; have := h1 g e; omega
  have HV3 := hid (World.ownsRow.kept (owns_later HV1.out HNB.out) hg3 (hk _ w1.heap.size (fun g hg => (HV1.out.lt g hg).1) hp1l))
  have HU3 := hid (World.ownsRow.kept (owns_later HU1.out HNB.out) hg3 (hk _ w1.heap.size (fun g hg => (HU1.out.lt g hg).1) hp1l))
  have HV4 := hid ov2
  have HU4 := hid ou2
  have HT2 := hid ht2
  have HC2 := hid hcut2
  clear hk
  have HM := hid (Box.made w3 24 #[.bool k2, .slice av2 zs2.length cv2, .slice au2 ts2.length cu2])
  have HMB := hid (alloc_later w3 (.cells #[.bool k2, .slice av2 zs2.length cv2, .slice au2 ts2.length cu2] 24))
  obtain ⟨Q, hQ⟩ : ∃ Q, w3.alloc (.cells #[.bool k2, .slice av2 zs2.length cv2, .slice au2 ts2.length cu2] 24) = Q := ⟨_, rfl⟩
  rw [hQ] at HM HMB
  have HNQ := hid (HN3.out.later HMB.out HN3.out.lt)
  have HTO := hid (gtold_any p code2 k1 av1 zs1.length cv1 au1 ts1.length cu1 k2 av2 zs2.length cv2 au2 ts2.length cu2 Q (HP3.out.later HMB.out HP3.out.lt))
  clear ov2 ou2 ht2 hp3 hg3 hcut2 H2 ka0 ka1 ka2
  have ka0 : Q.cell? ⟨w2.heap.size, 0, none⟩ = some (.bool k1) := HNQ.out.cell 0
  have ka1 : Q.cell? ⟨w2.heap.size, 1, none⟩ = some (.slice av1 zs1.length cv1) := HNQ.out.cell 1
  have ka2 : Q.cell? ⟨w2.heap.size, 2, none⟩ = some (.slice au1 ts1.length cu1) := HNQ.out.cell 2
  have kb0 : Q.cell? ⟨w3.heap.size, 0, none⟩ = some (.bool k2) := HM.out.cell 0
  have kb1 : Q.cell? ⟨w3.heap.size, 1, none⟩ = some (.slice av2 zs2.length cv2) := HM.out.cell 1
  have kb2 : Q.cell? ⟨w3.heap.size, 2, none⟩ = some (.slice au2 ts2.length cu2) := HM.out.cell 2
  go_wp2_with fail
  refine Calls.mono HTO.out ?_
  rintro x w4 ⟨rfl, hb4⟩
  have HW4x := hid hb4
  have HR4 := hid (HR3.out.later (bt HMB.out hb4) HR3.out.lt)
  have HW4 := hid (bt HW3.out (bt HMB.out hb4))
  have HOO := hid (And.intro (owns_later HV3.out (bt HMB.out hb4)) (And.intro (owns_later HU3.out (bt HMB.out hb4)) (And.intro (owns_later HV4.out (bt HMB.out hb4)) (owns_later HU4.out (bt HMB.out hb4)))))
  have hlo : w.heap.size ≤ w1.heap.size := by omega
  have hlZ : w.heap.size ≤ Z.heap.size := by omega
  clear hb4 ka0 ka1 ka2 kb0 kb1 kb2
  have m0 : w4.cell? ⟨w.heap.size + 1, 0, none⟩ = some (.bool false) := HR4.out.cell 0
  have m1 : w4.cell? ⟨w.heap.size + 1, 1, none⟩ = some (.slice none 0 0) := HR4.out.cell 1
  have m2' : w4.cell? ⟨w.heap.size + 1, 2, none⟩ = some (.slice none 0 0) := HR4.out.cell 2
  have m3 : w4.cell? ⟨w.heap.size + 1, 3, none⟩ = some (.bool false) := HR4.out.cell 3
  have m4 : w4.cell? ⟨w.heap.size + 1, 4, none⟩ = some (.slice none 0 0) := HR4.out.cell 4
  have m5 : w4.cell? ⟨w.heap.size + 1, 5, none⟩ = some (.slice none 0 0) := HR4.out.cell 5
  have f0 := HR4.out.free 0
  have f1 := HR4.out.free 1
  have f2 := HR4.out.free 2
  have f3 := HR4.out.free 3
  have f4 := HR4.out.free 4
  have f5 := HR4.out.free 5
  have hf0 : fstE E0 0 = E0 := by unfold fstE; by_cases h : E0 = 0 <;> simp [h]
  have HTW := hid (gtwo (e1 := 0) (by rw [hf0]; exact HT1.out) HT2.out (fun _ => rfl) (fun h => (HZ1.out h).2))
  have hsQ := (bt HMB.out HW4x.out).size
  clear hf0
  by_cases hc2 : code2 = 0
  · rw [if_pos hc2]
    have HFIN := hid (HTW.out.1 hc2)
    clear HTW hc2
    go_wp2_with fail
    have B1 := box_put6 HR4.out (.bool k1) (.slice av1 zs1.length cv1) (.slice au1 ts1.length cu1) (.bool k2) (.slice av2 zs2.length cv2) (.slice au2 ts2.length cu2)
    have G1 := below_put6 HW4.out (w.heap.size + 1) (by omega) (.bool k1) (.slice av1 zs1.length cv1) (.slice au1 ts1.length cu1) (.bool k2) (.slice av2 zs2.length cv2) (.slice au2 ts2.length cu2)
    have hXX := HX.out.2.2.size
    have hput : ∀ {base k : Nat} {v : Value} {l : List Value}, w4.ownsRow base 62 1 v k l → (∀ g, v.ownBlock = some g → X.heap.size ≤ g) → ((((((w4.setCell ⟨w.heap.size + 1, 0, none⟩ (.bool k1)).setCell ⟨w.heap.size + 1, 1, none⟩ (.slice av1 zs1.length cv1)).setCell ⟨w.heap.size + 1, 2, none⟩ (.slice au1 ts1.length cu1)).setCell ⟨w.heap.size + 1, 3, none⟩ (.bool k2)).setCell ⟨w.heap.size + 1, 4, none⟩ (.slice av2 zs2.length cv2)).setCell ⟨w.heap.size + 1, 5, none⟩ (.slice au2 ts2.length cu2)).ownsRow base 62 1 v k l := fun h hb => own_put6 h _ (fun g hg => by have := hb g hg; omega) _ _ _ _ _ _
    clear m0 m1 m2' m3 m4 m5 f0 f1 f2 f3 f4 f5
    refine bodyPost_ret (gres_run (by rfl) B1 _ rfl) rfl ?_
    exact ⟨k1, av1, cv1, zs1, au1, cu1, ts1, k2, av2, cv2, zs2, au2, cu2, ts2, code2, rfl, ⟨owns_base (hput HOO.out.1 (fun g hg => by have := (HOO.out.1.lt g hg).1; omega)) hlo, owns_base (hput HOO.out.2.1 (fun g hg => by have := (HOO.out.2.1.lt g hg).1; omega)) hlo, owns_base (hput HOO.out.2.2.1 (fun g hg => by have := (HOO.out.2.2.1.lt g hg).1; omega)) hlZ, owns_base (hput HOO.out.2.2.2 (fun g hg => by have := (HOO.out.2.2.2.lt g hg).1; omega)) hlZ⟩, HFIN.out, G1, w2, HC1.out.up hlo (Nat.le_refl _), HC2.out.up HNB.out.size (by simp [World.setCell]; omega)⟩
  · rw [if_neg hc2]
    have HFIN := hid (HTW.out.2 hc2)
    clear HTW hc2
    go_wp2_with fail
    have B1 := box_put6 HR4.out (.bool false) (.slice none 0 0) (.slice none 0 0) (.bool false) (.slice none 0 0) (.slice none 0 0)
    have G1 := below_put6 HW4.out (w.heap.size + 1) (by omega) (.bool false) (.slice none 0 0) (.slice none 0 0) (.bool false) (.slice none 0 0) (.slice none 0 0)
    clear m0 m1 m2' m3 m4 m5 f0 f1 f2 f3 f4 f5
    refine bodyPost_ret (gres_run (by rfl) B1 _ rfl) rfl ?_
    exact ⟨false, none, 0, [], none, 0, [], false, none, 0, [], none, 0, [], code2, rfl, ⟨World.ownsRow_nil _ _ _ _, World.ownsRow_nil _ _ _ _, World.ownsRow_nil _ _ _ _, World.ownsRow_nil _ _ _ _⟩, HFIN.out, G1, _, cut_nil _ _ G1.size, cut_nil _ _ (Nat.le_refl _)⟩

end Go.Proofs.YtalapdhdlboknaaGreatDoor

/- GaussConj: Conj, Neg, Norm, ratio.Mul, SameRatio, Zero, Sign as steps. -/
namespace Go.Proofs.YtalapdhdlboknaaGreatDoor
open Go.RowKit
set_option linter.unusedVariables false

/-- A fraction that may be, what it is, and how long at most. -/
structure ROk (n : Bool) (xs ys : List Int) (q : Rat) (K : Nat) : Prop where
  wx : Wd xs
  wy : Wd ys
  k : rchk n xs ys = 0
  e : rq n xs ys = q
  h : Hgt q (2 ^ K)
theorem RTells.ok {q : Rat} {n : Bool} {xs ys : List Int} {code : Int} (t : RTells 0 q n xs ys code) {K : Nat} (h : Hgt q (2 ^ K)) (hK : K < 65536) : code = 0 ∧ ROk n xs ys q K := by
  obtain ⟨hc, k, e⟩ := t.good rfl (h.short hK)
  exact ⟨hc, t.wx, t.wy, k, e, h⟩
def RVl (V : World) (p base : Nat) (n : Bool) (a : Option Addr) (ca : Nat) (xs : List Int) (b : Option Addr) (cb : Nat) (ys : List Int) : Prop := p < base ∧ GRow V base n (.slice a (List.length xs) ca) xs (.slice b (List.length ys) cb) ys
theorem RVl.step {V V' : World} {p base : Nat} {n : Bool} {a : Option Addr} {ca : Nat} {xs : List Int} {b : Option Addr} {cb : Nat} {ys : List Int} (h : RVl V p base n a ca xs b cb ys) (g : V.grownBy V' (some p)) : RVl V' p base n a ca xs b cb ys := ⟨h.1, h.2.step h.1 g⟩
theorem RVl.sl {V : World} {p base : Nat} {n : Bool} {a : Option Addr} {ca : Nat} {xs : List Int} {b : Option Addr} {cb : Nat} {ys : List Int} (h : RVl V p base n a ca xs b cb ys) {q : Rat} {K : Nat} (o : ROk n xs ys q K) : Sl V (.slice a (List.length xs) ca) xs ∧ Sl V (.slice b (List.length ys) cb) ys := h.2.sl o.wx o.wy
/-- What Norm or ratio.Mul tells, as a step. -/
def CRt (w : World) (p : Nat) (l : List (Nat × Nat × Array Value)) (V : World) (q : Rat) (K : Nat) (x : Ending) (w1 : World) : Prop :=
  ∃ n a ca xs b cb ys, x = .returned (.tuple #[.agg #[.bool n, .slice a (List.length xs) ca, .slice b (List.length ys) cb], .int .i64 0]) ∧ Hid (ROk n xs ys q K) ∧ Hid (CInv w p l w1) ∧ Hid (RVl w1 p V.heap.size n a ca xs b cb ys) ∧ Hid (V.grownBy w1 (some p))
theorem cconjS {w V : World} {p : Nat} {l : List (Nat × Nat × Array Value)} (hv : CInv w p l V) (n1 : Bool) (a1 : Option Addr) (ca1 : Nat) (xs1 : List Int) (b1 : Option Addr) (cb1 : Nat) (ys1 : List Int) (m1 : Bool) (c1 : Option Addr) (cc1 : Nat) (us1 : List Int) (d1 : Option Addr) (cd1 : Nat) (vs1 : List Int) {p1 p2 : Rat} {K : Nat} (oa : GOk n1 xs1 ys1 m1 us1 vs1 p1 p2 K) (hK : K < 65536) (sa : Sl V (.slice a1 (List.length xs1) ca1) xs1 ∧ Sl V (.slice b1 (List.length ys1) cb1) ys1 ∧ Sl V (.slice c1 (List.length us1) cc1) us1 ∧ Sl V (.slice d1 (List.length vs1) cd1) vs1) :
    Calls Tryz.prog 13 #[.agg #[.bool n1, .slice a1 xs1.length ca1, .slice b1 ys1.length cb1, .bool m1, .slice c1 us1.length cc1, .slice d1 vs1.length cd1]] V (CTt w p l V (fun n xs ys m us vs => GOk n xs ys m us vs p1 (-p2) K) 0) := by
  refine Calls.mono (gConj_full n1 a1 ca1 xs1 b1 cb1 ys1 m1 c1 cc1 us1 d1 cd1 vs1 V sa.1 sa.2.1 sa.2.2.1 sa.2.2.2) ?_
  rintro x w1 ⟨n, a, ca, xs, b, cb, ys, m, c, cc, us, d, cd, vs, code, rfl, ⟨o1, o2, o3, o4⟩, t, hb, _⟩
  rw [oa.chk, oa.e1, oa.e2] at t
  obtain ⟨rfl, ok⟩ := t.ok (fun h => h.elim (fun h => oa.h1.short hK h) (fun h => oa.h2.neg.short hK h)) oa.h1 oa.h2.neg
  exact ⟨n, a, ca, xs, b, cb, ys, m, c, cc, us, d, cd, vs, rfl, ok, hv.below hb, ⟨hv.bad.lt, ⟨o1, o2⟩, ⟨o3, o4⟩⟩, grow_below hb _⟩
theorem cnegS {w V : World} {p : Nat} {l : List (Nat × Nat × Array Value)} (hv : CInv w p l V) (n1 : Bool) (a1 : Option Addr) (ca1 : Nat) (xs1 : List Int) (b1 : Option Addr) (cb1 : Nat) (ys1 : List Int) (m1 : Bool) (c1 : Option Addr) (cc1 : Nat) (us1 : List Int) (d1 : Option Addr) (cd1 : Nat) (vs1 : List Int) {p1 p2 : Rat} {K : Nat} (oa : GOk n1 xs1 ys1 m1 us1 vs1 p1 p2 K) (hK : K < 65536) (sa : Sl V (.slice a1 (List.length xs1) ca1) xs1 ∧ Sl V (.slice b1 (List.length ys1) cb1) ys1 ∧ Sl V (.slice c1 (List.length us1) cc1) us1 ∧ Sl V (.slice d1 (List.length vs1) cd1) vs1) :
    Calls Tryz.prog 14 #[.agg #[.bool n1, .slice a1 xs1.length ca1, .slice b1 ys1.length cb1, .bool m1, .slice c1 us1.length cc1, .slice d1 vs1.length cd1]] V (CTt w p l V (fun n xs ys m us vs => GOk n xs ys m us vs (-p1) (-p2) K) 0) := by
  refine Calls.mono (gNeg_full n1 a1 ca1 xs1 b1 cb1 ys1 m1 c1 cc1 us1 d1 cd1 vs1 V sa.1 sa.2.1 sa.2.2.1 sa.2.2.2) ?_
  rintro x w1 ⟨n, a, ca, xs, b, cb, ys, m, c, cc, us, d, cd, vs, code, rfl, ⟨o1, o2, o3, o4⟩, t, hb⟩
  rw [oa.chk, oa.e1, oa.e2] at t
  obtain ⟨rfl, ok⟩ := t.ok (fun h => h.elim (fun h => oa.h1.neg.short hK h) (fun h => oa.h2.neg.short hK h)) oa.h1.neg oa.h2.neg
  exact ⟨n, a, ca, xs, b, cb, ys, m, c, cc, us, d, cd, vs, rfl, ok, hv.below hb, ⟨hv.bad.lt, ⟨o1, o2⟩, ⟨o3, o4⟩⟩, grow_below hb _⟩
theorem cnormS {w V : World} {p : Nat} {l : List (Nat × Nat × Array Value)} (hv : CInv w p l V) (n1 : Bool) (a1 : Option Addr) (ca1 : Nat) (xs1 : List Int) (b1 : Option Addr) (cb1 : Nat) (ys1 : List Int) (m1 : Bool) (c1 : Option Addr) (cc1 : Nat) (us1 : List Int) (d1 : Option Addr) (cd1 : Nat) (vs1 : List Int) {p1 p2 : Rat} {K : Nat} (oa : GOk n1 xs1 ys1 m1 us1 vs1 p1 p2 K) (hK : (K + K) + (K + K) + 1 < 65536) (sa : Sl V (.slice a1 (List.length xs1) ca1) xs1 ∧ Sl V (.slice b1 (List.length ys1) cb1) ys1 ∧ Sl V (.slice c1 (List.length us1) cc1) us1 ∧ Sl V (.slice d1 (List.length vs1) cd1) vs1) :
    Calls Tryz.prog 15 #[.agg #[.bool n1, .slice a1 xs1.length ca1, .slice b1 ys1.length cb1, .bool m1, .slice c1 us1.length cc1, .slice d1 vs1.length cd1]] V (CRt w p l V (p1 * p1 + p2 * p2) ((K + K) + (K + K) + 1)) := by
  refine Calls.mono (gNorm_full n1 a1 ca1 xs1 b1 cb1 ys1 m1 c1 cc1 us1 d1 cd1 vs1 V sa.1 sa.2.1 sa.2.2.1 sa.2.2.2) ?_
  rintro x w1 ⟨n1, x1, y1, c1, n2, x2, y2, c2, t1, t2, n, a, ca, xs, b, cb, ys, code, rfl, ⟨o1, o2⟩, t, hb⟩
  rw [oa.chk, fstE_zero, rboth_good oa.k1 oa.k1, oa.e1] at t1
  obtain ⟨rfl, r1⟩ := t1.ok (hmul oa.h1 oa.h1) (by omega)
  rw [fstE_zero, rboth_good oa.k2 oa.k2, oa.e2] at t2
  obtain ⟨rfl, r2⟩ := t2.ok (hmul oa.h2 oa.h2) (by omega)
  rw [fstE_zero, rboth_good r1.k r2.k, r1.e, r2.e] at t
  obtain ⟨rfl, r⟩ := t.ok (hadd r1.h r2.h) hK
  exact ⟨n, a, ca, xs, b, cb, ys, rfl, r, hv.below hb, ⟨hv.bad.lt, o1, o2⟩, grow_below hb _⟩
theorem crmulS {w V : World} {p : Nat} {l : List (Nat × Nat × Array Value)} (hv : CInv w p l V) (n1 : Bool) (a1 : Option Addr) (ca1 : Nat) (xs1 : List Int) (b1 : Option Addr) (cb1 : Nat) (ys1 : List Int) (n2 : Bool) (a2 : Option Addr) (ca2 : Nat) (xs2 : List Int) (b2 : Option Addr) (cb2 : Nat) (ys2 : List Int) {q1 q2 : Rat} {K J : Nat} (oa : ROk n1 xs1 ys1 q1 K) (ob : ROk n2 xs2 ys2 q2 J) (hK : K + J < 65536) (sa : Sl V (.slice a1 (List.length xs1) ca1) xs1 ∧ Sl V (.slice b1 (List.length ys1) cb1) ys1) (sb : Sl V (.slice a2 (List.length xs2) ca2) xs2 ∧ Sl V (.slice b2 (List.length ys2) cb2) ys2) :
    Calls Tryz.prog 16 #[.agg #[.bool n1, .slice a1 (List.length xs1) ca1, .slice b1 (List.length ys1) cb1], .agg #[.bool n2, .slice a2 (List.length xs2) ca2, .slice b2 (List.length ys2) cb2]] V (CRt w p l V (q1 * q2) (K + J)) := by
  refine Calls.mono (rMul_full n1 a1 ca1 xs1 b1 cb1 ys1 n2 a2 ca2 xs2 b2 cb2 ys2 V sa.1 sa.2 sb.1 sb.2) ?_
  rintro x w1 ⟨n, v, xs, u, ys, code, rfl, o1, o2, t, hb, _⟩
  rw [rboth_good oa.k ob.k, oa.e, ob.e] at t
  obtain ⟨rfl, r⟩ := t.ok (hmul oa.h ob.h) hK
  obtain ⟨a, ca, rfl⟩ := own_slice' o1
  obtain ⟨b, cb, rfl⟩ := own_slice' o2
  exact ⟨n, a, ca, xs, b, cb, ys, rfl, r, hv.below hb, ⟨hv.bad.lt, o1, o2⟩, grow_below hb _⟩
theorem csamerS {w V : World} {p : Nat} {l : List (Nat × Nat × Array Value)} (hv : CInv w p l V) {n1 n2 : Bool} {v1 u1 v2 u2 : Value} {xs1 ys1 xs2 ys2 : List Int} (h1 : rchk n1 xs1 ys1 = 0) (h2 : rchk n2 xs2 ys2 = 0) (he : rq n1 xs1 ys1 = rq n2 xs2 ys2) (sa : Sl V v1 xs1 ∧ Sl V u1 ys1) (sb : Sl V v2 xs2 ∧ Sl V u2 ys2) :
    Calls Tryz.prog 17 #[.agg #[.bool n1, v1, u1], .agg #[.bool n2, v2, u2]] V (CYes w p l V) := by
  obtain ⟨rfl, rfl, rfl⟩ := rq_inj sa.1.wd sa.2.wd sb.1.wd sb.2.wd h1 h2 he
  have l1 := (rchk_ok h1).1
  have l2 := (rchk_ok h1).2.1
  refine Calls.mono (gsameRatio_eq n1 v1 u1 v2 u2 xs1 ys1 V sa.1 sa.2 sb.1 sb.2 (by omega) (by omega)) ?_
  rintro x w1 ⟨rfl, hb⟩
  exact ⟨rfl, hv.below hb, grow_below hb _⟩
def CBo (w : World) (p : Nat) (l : List (Nat × Nat × Array Value)) (V : World) (v : Value) (x : Ending) (w1 : World) : Prop := x = .returned v ∧ Hid (CInv w p l w1) ∧ Hid (V.grownBy w1 (some p))
theorem czeroS {w V : World} {p : Nat} {l : List (Nat × Nat × Array Value)} (hv : CInv w p l V) (n1 : Bool) (a1 : Option Addr) (ca1 : Nat) (xs1 : List Int) (b1 : Option Addr) (cb1 : Nat) (ys1 : List Int) (m1 : Bool) (c1 : Option Addr) (cc1 : Nat) (us1 : List Int) (d1 : Option Addr) (cd1 : Nat) (vs1 : List Int) {p1 p2 : Rat} {K : Nat} (oa : GOk n1 xs1 ys1 m1 us1 vs1 p1 p2 K) (sa : Sl V (.slice a1 (List.length xs1) ca1) xs1 ∧ Sl V (.slice b1 (List.length ys1) cb1) ys1 ∧ Sl V (.slice c1 (List.length us1) cc1) us1 ∧ Sl V (.slice d1 (List.length vs1) cd1) vs1) :
    Calls Tryz.prog 12 #[.agg #[.bool n1, .slice a1 xs1.length ca1, .slice b1 ys1.length cb1, .bool m1, .slice c1 us1.length cc1, .slice d1 vs1.length cd1]] V (CBo w p l V (.bool (decide (p1 = 0 ∧ p2 = 0)))) := by
  refine Calls.mono (gZero_any n1 a1 ca1 xs1 b1 cb1 ys1 m1 c1 cc1 us1 d1 cd1 vs1 V sa.1 sa.2.1 sa.2.2.1 sa.2.2.2) ?_
  rintro x w1 ⟨rfl, hb⟩
  refine ⟨?_, hv.below hb, grow_below hb _⟩
  by_cases h : xs1.length = 0 ∧ us1.length = 0
  · rw [gzero_yes oa h]
    have e1 : xs1 = [] := List.length_eq_zero_iff.1 h.1
    have e2 : us1 = [] := List.length_eq_zero_iff.1 h.2
    have z1 := oa.e1
    have z2 := oa.e2
    rw [e1, grq_nil] at z1
    rw [e2, grq_nil] at z2
    rw [decide_eq_true ⟨z1.symm, z2.symm⟩]
  · rw [gzero_no oa h]
    rw [decide_eq_false (fun e => h ⟨Classical.byContradiction fun c => grq_ne oa.wx oa.wy oa.k1 (fun e0 => c (by rw [e0]; rfl)) (oa.e1.trans e.1), Classical.byContradiction fun c => grq_ne oa.wu oa.wv oa.k2 (fun e0 => c (by rw [e0]; rfl)) (oa.e2.trans e.2)⟩)]
theorem csignS {w V : World} {p : Nat} {l : List (Nat × Nat × Array Value)} (hv : CInv w p l V) (n1 : Bool) (a1 : Option Addr) (ca1 : Nat) (xs1 : List Int) (b1 : Option Addr) (cb1 : Nat) (ys1 : List Int) {q1 : Rat} {K : Nat} (oa : ROk n1 xs1 ys1 q1 K) (sa : Sl V (.slice a1 (List.length xs1) ca1) xs1 ∧ Sl V (.slice b1 (List.length ys1) cb1) ys1) :
    Calls Tryz.prog 18 #[.agg #[.bool n1, .slice a1 (List.length xs1) ca1, .slice b1 (List.length ys1) cb1]] V fun x w1 => ∃ s, x = .returned (.int .i64 s) ∧ Hid ((s = 0) ↔ (q1 = 0)) ∧ Hid (CInv w p l w1) ∧ Hid (V.grownBy w1 (some p)) := by
  refine Calls.mono (rSign_any n1 a1 ca1 xs1 b1 cb1 ys1 V sa.1 sa.2) ?_
  rintro x w1 ⟨rfl, hb⟩
  refine ⟨_, rfl, ?_, hv.below hb, grow_below hb _⟩
  show _ ↔ _
  unfold rsgn
  rw [if_pos oa.k]
  by_cases h : xs1.length = 0
  · have e1 : xs1 = [] := List.length_eq_zero_iff.1 h
    have z1 := oa.e
    rw [e1, grq_nil] at z1
    rw [if_pos h]
    exact ⟨fun _ => z1.symm, fun _ => rfl⟩
  · rw [if_neg h]
    have hn : q1 ≠ 0 := fun e => grq_ne oa.wx oa.wy oa.k (fun e0 => h (by rw [e0]; rfl)) (oa.e.trans e)
    refine ⟨fun e => ?_, fun e => absurd e hn⟩
    cases n1 <;> exact absurd e (by decide)
theorem czeroT {w V : World} {p : Nat} {l : List (Nat × Nat × Array Value)} (hv : CInv w p l V) (n1 : Bool) (a1 : Option Addr) (ca1 : Nat) (xs1 : List Int) (b1 : Option Addr) (cb1 : Nat) (ys1 : List Int) (m1 : Bool) (c1 : Option Addr) (cc1 : Nat) (us1 : List Int) (d1 : Option Addr) (cd1 : Nat) (vs1 : List Int) {p1 p2 : Rat} {K : Nat} (oa : GOk n1 xs1 ys1 m1 us1 vs1 p1 p2 K) (hz : p1 = 0 ∧ p2 = 0) (sa : Sl V (.slice a1 (List.length xs1) ca1) xs1 ∧ Sl V (.slice b1 (List.length ys1) cb1) ys1 ∧ Sl V (.slice c1 (List.length us1) cc1) us1 ∧ Sl V (.slice d1 (List.length vs1) cd1) vs1) :
    Calls Tryz.prog 12 #[.agg #[.bool n1, .slice a1 xs1.length ca1, .slice b1 ys1.length cb1, .bool m1, .slice c1 us1.length cc1, .slice d1 vs1.length cd1]] V (CBo w p l V (.bool true)) := by
  have h := czeroS hv n1 a1 ca1 xs1 b1 cb1 ys1 m1 c1 cc1 us1 d1 cd1 vs1 oa sa
  rw [decide_eq_true hz] at h
  exact h
theorem czeroF {w V : World} {p : Nat} {l : List (Nat × Nat × Array Value)} (hv : CInv w p l V) (n1 : Bool) (a1 : Option Addr) (ca1 : Nat) (xs1 : List Int) (b1 : Option Addr) (cb1 : Nat) (ys1 : List Int) (m1 : Bool) (c1 : Option Addr) (cc1 : Nat) (us1 : List Int) (d1 : Option Addr) (cd1 : Nat) (vs1 : List Int) {p1 p2 : Rat} {K : Nat} (oa : GOk n1 xs1 ys1 m1 us1 vs1 p1 p2 K) (hz : ¬ (p1 = 0 ∧ p2 = 0)) (sa : Sl V (.slice a1 (List.length xs1) ca1) xs1 ∧ Sl V (.slice b1 (List.length ys1) cb1) ys1 ∧ Sl V (.slice c1 (List.length us1) cc1) us1 ∧ Sl V (.slice d1 (List.length vs1) cd1) vs1) :
    Calls Tryz.prog 12 #[.agg #[.bool n1, .slice a1 xs1.length ca1, .slice b1 ys1.length cb1, .bool m1, .slice c1 us1.length cc1, .slice d1 vs1.length cd1]] V (CBo w p l V (.bool false)) := by
  have h := czeroS hv n1 a1 ca1 xs1 b1 cb1 ys1 m1 c1 cc1 us1 d1 cd1 vs1 oa sa
  rw [decide_eq_false hz] at h
  exact h
theorem csignT {w V : World} {p : Nat} {l : List (Nat × Nat × Array Value)} (hv : CInv w p l V) (n1 : Bool) (a1 : Option Addr) (ca1 : Nat) (xs1 : List Int) (b1 : Option Addr) (cb1 : Nat) (ys1 : List Int) {q1 : Rat} {K : Nat} (oa : ROk n1 xs1 ys1 q1 K) (hz : q1 = 0) (sa : Sl V (.slice a1 (List.length xs1) ca1) xs1 ∧ Sl V (.slice b1 (List.length ys1) cb1) ys1) :
    Calls Tryz.prog 18 #[.agg #[.bool n1, .slice a1 (List.length xs1) ca1, .slice b1 (List.length ys1) cb1]] V (CBo w p l V (.int .i64 0)) := by
  refine Calls.mono (csignS hv n1 a1 ca1 xs1 b1 cb1 ys1 oa sa) ?_
  rintro x w1 ⟨s, rfl, h, i, g⟩
  obtain rfl := h.out.2 hz
  exact ⟨rfl, i, g⟩
theorem csignF {w V : World} {p : Nat} {l : List (Nat × Nat × Array Value)} (hv : CInv w p l V) (n1 : Bool) (a1 : Option Addr) (ca1 : Nat) (xs1 : List Int) (b1 : Option Addr) (cb1 : Nat) (ys1 : List Int) {q1 : Rat} {K : Nat} (oa : ROk n1 xs1 ys1 q1 K) (hz : q1 ≠ 0) (sa : Sl V (.slice a1 (List.length xs1) ca1) xs1 ∧ Sl V (.slice b1 (List.length ys1) cb1) ys1) :
    Calls Tryz.prog 18 #[.agg #[.bool n1, .slice a1 (List.length xs1) ca1, .slice b1 (List.length ys1) cb1]] V fun x w1 => ∃ s, x = .returned (.int .i64 s) ∧ (s == 0) = false ∧ s ≠ 0 ∧ Hid (CInv w p l w1) ∧ Hid (V.grownBy w1 (some p)) := by
  refine Calls.mono (csignS hv n1 a1 ca1 xs1 b1 cb1 ys1 oa sa) ?_
  rintro x w1 ⟨s, rfl, h, i, g⟩
  have hn : s ≠ 0 := fun e => hz (h.out.1 e)
  exact ⟨s, rfl, by simpa using hn, hn, i, g⟩
/-- Equalities of conjugates and Norms. -/
theorem ce1 (a1 a2 : Rat) : a1 * a1 - a2 * -a2 = a1 * a1 + a2 * a2 := by grind
theorem ce2 (a1 a2 : Rat) : a1 * -a2 + a2 * a1 = 0 := by grind
theorem ce3 (a1 a2 b1 b2 : Rat) : (a1 * b1 - a2 * b2) * (a1 * b1 - a2 * b2) + (a1 * b2 + a2 * b1) * (a1 * b2 + a2 * b1) = (a1 * a1 + a2 * a2) * (b1 * b1 + b2 * b2) := by grind
theorem ce4 (a1 a2 b1 b2 : Rat) : a1 * b1 - a2 * b2 = a1 * b1 - -a2 * -b2 ∧ -(a1 * b2 + a2 * b1) = a1 * -b2 + -a2 * b1 := ⟨by grind, by grind⟩
theorem ce5 (a1 a2 : Rat) : a1 = a1 ∧ - -a2 = a2 := ⟨rfl, by grind⟩
theorem ce6 (a1 a2 : Rat) : a1 + -a1 = 0 ∧ a2 + -a2 = 0 := ⟨by grind, by grind⟩
theorem ce7 (a1 a2 : Rat) : a1 * a1 + a2 * a2 = 0 ↔ a1 = 0 ∧ a2 = 0 := ⟨fun h => Classical.byContradiction fun c => gsq_ne c h, fun h => by rw [h.1, h.2]; decide +kernel⟩
theorem ce8 {n : Bool} {xs ys : List Int} {q : Rat} (wx : Wd xs) (wy : Wd ys) (k : rchk n xs ys = 0) (e : rq n xs ys = q) (h : q = 0) : xs.length = 0 := Classical.byContradiction fun c => grq_ne wx wy k (fun e0 => c (by rw [e0]; rfl)) (e.trans h)
end Go.Proofs.YtalapdhdlboknaaGreatDoor

/- GaussConj: conjugates, Norms, opposites. -/
namespace Go.Proofs.YtalapdhdlboknaaGreatDoor
open Go.RowKit
set_option linter.unusedVariables false
set_option linter.unusedSimpArgs false

set_option maxHeartbeats 12800000 in
set_option maxRecDepth 100000 in
theorem gaussConj_walk (n1 : Bool) (a1 : Option Addr) (ca1 : Nat) (xs1 : List Int) (b1 : Option Addr) (cb1 : Nat) (ys1 : List Int) (m1 : Bool) (c1 : Option Addr) (cc1 : Nat) (us1 : List Int) (d1 : Option Addr) (cd1 : Nat) (vs1 : List Int) (n2 : Bool) (a2 : Option Addr) (ca2 : Nat) (xs2 : List Int) (b2 : Option Addr) (cb2 : Nat) (ys2 : List Int) (m2 : Bool) (c2 : Option Addr) (cc2 : Nat) (us2 : List Int) (d2 : Option Addr) (cd2 : Nat) (vs2 : List Int) (w : World) (s1 : Sl w (.slice a1 (List.length xs1) ca1) xs1 ∧ Sl w (.slice b1 (List.length ys1) cb1) ys1 ∧ Sl w (.slice c1 (List.length us1) cc1) us1 ∧ Sl w (.slice d1 (List.length vs1) cd1) vs1) (s2 : Sl w (.slice a2 (List.length xs2) ca2) xs2 ∧ Sl w (.slice b2 (List.length ys2) cb2) ys2 ∧ Sl w (.slice c2 (List.length us2) cc2) us2 ∧ Sl w (.slice d2 (List.length vs2) cd2) vs2) (htab : Tab w) :
    Calls Tryz.prog 4 #[.agg #[.bool n1, .slice a1 xs1.length ca1, .slice b1 ys1.length cb1, .bool m1, .slice c1 us1.length cc1, .slice d1 vs1.length cd1], .agg #[.bool n2, .slice a2 xs2.length ca2, .slice b2 ys2.length cb2, .bool m2, .slice c2 us2.length cc2, .slice d2 vs2.length cd2]] w fun x w' => x = .returned (.bool true) ∧ Below w.heap.size w w' := by
  have HX := hid (boxes2m w 26 26 #[.bool n1, .slice a1 xs1.length ca1, .slice b1 ys1.length cb1, .bool m1, .slice c1 us1.length cc1, .slice d1 vs1.length cd1] #[.bool n2, .slice a2 xs2.length ca2, .slice b2 ys2.length cb2, .bool m2, .slice c2 us2.length cc2, .slice d2 vs2.length cd2])
  obtain ⟨X, hX⟩ : ∃ X, (w.alloc (.cells #[.bool n1, .slice a1 xs1.length ca1, .slice b1 ys1.length cb1, .bool m1, .slice c1 us1.length cc1, .slice d1 vs1.length cd1] 26)).alloc (.cells #[.bool n2, .slice a2 xs2.length ca2, .slice b2 ys2.length cb2, .bool m2, .slice c2 us2.length cc2, .slice d2 vs2.length cd2] 26) = X := ⟨_, rfl⟩
  rw [hX] at HX
  have HW0 := hid HX.out.2.2
  have HAW := hid (gawake_any X (htab.later HW0.out))
  have SG1 := hid (And.intro (s1.1.later HW0.out) (And.intro (s1.2.1.later HW0.out) (And.intro (s1.2.2.1.later HW0.out) (s1.2.2.2.later HW0.out))))
  have SG2 := hid (And.intro (s2.1.later HW0.out) (And.intro (s2.2.1.later HW0.out) (And.intro (s2.2.2.1.later HW0.out) (s2.2.2.2.later HW0.out))))
  have BX1 := hid HX.out.1
  have BX2 := hid HX.out.2.1
  clear HX htab s1 s2
  go_enter Tryz.func4, Tryz.ntmps4
  go_wp2_with fail
  refine Calls.mono (HAW.out) ?_
  rintro x w1 ⟨rfl, hb1⟩
  have HW1 := hid (bt HW0.out hb1)
  have HA1 := hid (BX1.out.later hb1 BX1.out.lt)
  have HB1 := hid (BX2.out.later hb1 BX2.out.lt)
  have SA1 := hid (And.intro (SG1.out.1.later hb1) (And.intro (SG1.out.2.1.later hb1) (And.intro (SG1.out.2.2.1.later hb1) (SG1.out.2.2.2.later hb1))))
  have SB1 := hid (And.intro (SG2.out.1.later hb1) (And.intro (SG2.out.2.1.later hb1) (And.intro (SG2.out.2.2.1.later hb1) (SG2.out.2.2.2.later hb1))))
  clear HW0 BX1 BX2 SG1 SG2
  clear hb1 HAW
  have HFT := hid (gfit_any n1 a1 ca1 xs1 b1 cb1 ys1 m1 c1 cc1 us1 d1 cd1 vs1 w1 SA1.out.1 SA1.out.2.1 SA1.out.2.2.1 SA1.out.2.2.2)
  have A_0 : w1.cell? ⟨w.heap.size, 0, none⟩ = some (.bool n1) := HA1.out.cell 0
  have A_1 : w1.cell? ⟨w.heap.size, 1, none⟩ = some (.slice a1 xs1.length ca1) := HA1.out.cell 1
  have A_2 : w1.cell? ⟨w.heap.size, 2, none⟩ = some (.slice b1 ys1.length cb1) := HA1.out.cell 2
  have A_3 : w1.cell? ⟨w.heap.size, 3, none⟩ = some (.bool m1) := HA1.out.cell 3
  have A_4 : w1.cell? ⟨w.heap.size, 4, none⟩ = some (.slice c1 us1.length cc1) := HA1.out.cell 4
  have A_5 : w1.cell? ⟨w.heap.size, 5, none⟩ = some (.slice d1 vs1.length cd1) := HA1.out.cell 5
  go_wp2_with fail
  refine Calls.mono (HFT.out) ?_
  rintro x w2 ⟨ft, rfl, hft, hb2⟩
  clear A_0 A_1 A_2 A_3 A_4 A_5
  have HW2 := hid (bt HW1.out hb2)
  have HA2 := hid (HA1.out.later hb2 HA1.out.lt)
  have HB2 := hid (HB1.out.later hb2 HB1.out.lt)
  have SA2 := hid (And.intro (SA1.out.1.later hb2) (And.intro (SA1.out.2.1.later hb2) (And.intro (SA1.out.2.2.1.later hb2) (SA1.out.2.2.2.later hb2))))
  have SB2 := hid (And.intro (SB1.out.1.later hb2) (And.intro (SB1.out.2.1.later hb2) (And.intro (SB1.out.2.2.1.later hb2) (SB1.out.2.2.2.later hb2))))
  clear HW1 HA1 HB1 SA1 SB1
  have FFA := hid hft
  clear hb2 HFT hft
  cases ft with
  | false =>
    go_wp2_with fail
    go_ret
    exact ⟨rfl, HW2.out⟩
  | true =>
    have HFT := hid (gfit_any n2 a2 ca2 xs2 b2 cb2 ys2 m2 c2 cc2 us2 d2 cd2 vs2 w2 SB2.out.1 SB2.out.2.1 SB2.out.2.2.1 SB2.out.2.2.2)
    have B_0 : w2.cell? ⟨w.heap.size + 1, 0, none⟩ = some (.bool n2) := HB2.out.cell 0
    have B_1 : w2.cell? ⟨w.heap.size + 1, 1, none⟩ = some (.slice a2 xs2.length ca2) := HB2.out.cell 1
    have B_2 : w2.cell? ⟨w.heap.size + 1, 2, none⟩ = some (.slice b2 ys2.length cb2) := HB2.out.cell 2
    have B_3 : w2.cell? ⟨w.heap.size + 1, 3, none⟩ = some (.bool m2) := HB2.out.cell 3
    have B_4 : w2.cell? ⟨w.heap.size + 1, 4, none⟩ = some (.slice c2 us2.length cc2) := HB2.out.cell 4
    have B_5 : w2.cell? ⟨w.heap.size + 1, 5, none⟩ = some (.slice d2 vs2.length cd2) := HB2.out.cell 5
    go_wp2_with fail
    refine Calls.mono (HFT.out) ?_
    rintro x w3 ⟨ft, rfl, hft, hb2⟩
    clear B_0 B_1 B_2 B_3 B_4 B_5
    have HW3 := hid (bt HW2.out hb2)
    have HA3 := hid (HA2.out.later hb2 HA2.out.lt)
    have HB3 := hid (HB2.out.later hb2 HB2.out.lt)
    have SA3 := hid (And.intro (SA2.out.1.later hb2) (And.intro (SA2.out.2.1.later hb2) (And.intro (SA2.out.2.2.1.later hb2) (SA2.out.2.2.2.later hb2))))
    have SB3 := hid (And.intro (SB2.out.1.later hb2) (And.intro (SB2.out.2.1.later hb2) (And.intro (SB2.out.2.2.1.later hb2) (SB2.out.2.2.2.later hb2))))
    clear HW2 HA2 HB2 SA2 SB2
    have FFB := hid hft
    clear hb2 HFT hft
    cases ft with
    | false =>
      go_wp2_with fail
      go_ret
      exact ⟨rfl, HW3.out⟩
    | true =>
      obtain ⟨k, hk⟩ : ∃ k : Nat, k = 20 := ⟨_, rfl⟩
      obtain ⟨K, hKe⟩ : ∃ K : Nat, K = 32 * k := ⟨_, rfl⟩
      have HKV : Hid (K = 640) := by show _ = _; omega
      have OK1 := hid (GOk.of_fit SA3.out.1.wd SA3.out.2.1.wd SA3.out.2.2.1.wd SA3.out.2.2.2.wd (by first | exact FFA.out.1 rfl | exact FFA.out.1 True.intro) hk hKe)
      have OK2 := hid (GOk.of_fit SB3.out.1.wd SB3.out.2.1.wd SB3.out.2.2.1.wd SB3.out.2.2.2.wd (by first | exact FFB.out.1 rfl | exact FFB.out.1 True.intro) hk hKe)
      obtain ⟨pa1, hpa1⟩ : ∃ q, rq n1 xs1 ys1 = q := ⟨_, rfl⟩
      obtain ⟨pa2, hpa2⟩ : ∃ q, rq m1 us1 vs1 = q := ⟨_, rfl⟩
      rw [hpa1, hpa2] at OK1
      obtain ⟨pb1, hpb1⟩ : ∃ q, rq n2 xs2 ys2 = q := ⟨_, rfl⟩
      obtain ⟨pb2, hpb2⟩ : ∃ q, rq m2 us2 vs2 = q := ⟨_, rfl⟩
      rw [hpb1, hpb2] at OK2
      clear hpa1 hpa2 hpb1 hpb2 hk hKe FFA FFB
      have HLB : Hid (∀ x ∈ (((w.heap.size, 26, #[.bool n1, .slice a1 xs1.length ca1, .slice b1 ys1.length cb1, .bool m1, .slice c1 us1.length cc1, .slice d1 vs1.length cd1]) :: (w.heap.size + 1, 26, #[.bool n2, .slice a2 xs2.length ca2, .slice b2 ys2.length cb2, .bool m2, .slice c2 us2.length cc2, .slice d2 vs2.length cd2]) :: []) : List (Nat × Nat × Array Value)), Box w3 x.1 x.2.1 x.2.2) := fun x hx => by
        rcases List.mem_cons.1 hx with rfl | hx
        · exact HA3.out
        rcases List.mem_cons.1 hx with rfl | hx
        · exact HB3.out
        cases hx
      have HI0 := hid (cinv_start w3 HLB.out)
      have HZB := hid (alloc_later w3 (.cells #[.bool false] 30))
      obtain ⟨Z, hZ⟩ : ∃ Z, w3.alloc (.cells #[.bool false] 30) = Z := ⟨_, rfl⟩
      rw [hZ] at HI0 HZB
      have HS : Hid (∀ V, Z.grownBy V (some w3.heap.size) → (Sl V (.slice a1 (List.length xs1) ca1) xs1 ∧ Sl V (.slice b1 (List.length ys1) cb1) ys1 ∧ Sl V (.slice c1 (List.length us1) cc1) us1 ∧ Sl V (.slice d1 (List.length vs1) cd1) vs1) ∧ (Sl V (.slice a2 (List.length xs2) ca2) xs2 ∧ Sl V (.slice b2 (List.length ys2) cb2) ys2 ∧ Sl V (.slice c2 (List.length us2) cc2) us2 ∧ Sl V (.slice d2 (List.length vs2) cd2) vs2)) := fun V hv => ⟨⟨sl_keptp SA3.out.1 HZB.out hv, sl_keptp SA3.out.2.1 HZB.out hv, sl_keptp SA3.out.2.2.1 HZB.out hv, sl_keptp SA3.out.2.2.2 HZB.out hv⟩, ⟨sl_keptp SB3.out.1 HZB.out hv, sl_keptp SB3.out.2.1 HZB.out hv, sl_keptp SB3.out.2.2.1 HZB.out hv, sl_keptp SB3.out.2.2.2 HZB.out hv⟩⟩
      have HBW : Hid (∀ V, Z.grownBy V (some w3.heap.size) → Below w.heap.size w V) := fun V hv => below_grown HW3.out HZB.out hv
      clear HA3 HB3 SA3 SB3 HLB
      obtain ⟨cA0, cA1, cA2, cA3, cA4, cA5⟩ := cells6 (HI0.out.box _ (List.mem_cons_self ..)).1
      have HC := hid (cconjS HI0.out n1 a1 ca1 xs1 b1 cb1 ys1 m1 c1 cc1 us1 d1 cd1 vs1 OK1.out (by have := HKV.out; omega) (HS.out _ HI0.out.grown).1)
      go_wp2_with fail
      refine Calls.mono HC.out ?_
      rintro x v11 ⟨n11, a11, ca11, xs11, b11, cb11, ys11, m11, c11, cc11, us11, d11, cd11, vs11, rfl, ok11, HI1, vl11, gr⟩
      clear cA0 cA1 cA2 cA3 cA4 cA5
      clear HC HI0
      clear gr
      have HI2 := hid ((HI1.out.al (.cells #[.bool n11, .slice a11 xs11.length ca11, .slice b11 ys11.length cb11, .bool m11, .slice c11 us11.length cc11, .slice d11 vs11.length cd11] 26)).more (Box.made v11 26 #[.bool n11, .slice a11 xs11.length ca11, .slice b11 ys11.length cb11, .bool m11, .slice c11 us11.length cc11, .slice d11 vs11.length cd11]) (by have := HI1.out.bad.lt; omega))
      have GR := hid (World.grownBy_alloc v11 (.cells #[.bool n11, .slice a11 xs11.length ca11, .slice b11 ys11.length cb11, .bool m11, .slice c11 us11.length cc11, .slice d11 vs11.length cd11] 26) (some w3.heap.size))
      obtain ⟨YP, hYP⟩ : ∃ Y, v11.alloc (.cells #[.bool n11, .slice a11 xs11.length ca11, .slice b11 ys11.length cb11, .bool m11, .slice c11 us11.length cc11, .slice d11 vs11.length cd11] 26) = Y := ⟨_, rfl⟩
      rw [hYP] at HI2 GR
      clear HI1
      replace vl11 := hid (vl11.out.step (GR.out))
      clear GR
      obtain ⟨cB0, cB1, cB2, cB3, cB4, cB5⟩ := cells6 (HI2.out.box _ (List.mem_cons_of_mem _ (List.mem_cons_of_mem _ (List.mem_cons_self ..)))).1
      have HC := hid (cconjS HI2.out n2 a2 ca2 xs2 b2 cb2 ys2 m2 c2 cc2 us2 d2 cd2 vs2 OK2.out (by have := HKV.out; omega) (HS.out _ HI2.out.grown).2)
      go_wp2_with fail
      refine Calls.mono HC.out ?_
      rintro x v12 ⟨n12, a12, ca12, xs12, b12, cb12, ys12, m12, c12, cc12, us12, d12, cd12, vs12, rfl, ok12, HI3, vl12, gr⟩
      clear cB0 cB1 cB2 cB3 cB4 cB5
      clear HC HI2
      replace vl11 := hid (vl11.out.step (gr.out))
      clear gr
      have HI4 := hid ((HI3.out.al (.cells #[.bool n12, .slice a12 xs12.length ca12, .slice b12 ys12.length cb12, .bool m12, .slice c12 us12.length cc12, .slice d12 vs12.length cd12] 26)).more (Box.made v12 26 #[.bool n12, .slice a12 xs12.length ca12, .slice b12 ys12.length cb12, .bool m12, .slice c12 us12.length cc12, .slice d12 vs12.length cd12]) (by have := HI3.out.bad.lt; omega))
      have GR := hid (World.grownBy_alloc v12 (.cells #[.bool n12, .slice a12 xs12.length ca12, .slice b12 ys12.length cb12, .bool m12, .slice c12 us12.length cc12, .slice d12 vs12.length cd12] 26) (some w3.heap.size))
      obtain ⟨YQ, hYQ⟩ : ∃ Y, v12.alloc (.cells #[.bool n12, .slice a12 xs12.length ca12, .slice b12 ys12.length cb12, .bool m12, .slice c12 us12.length cc12, .slice d12 vs12.length cd12] 26) = Y := ⟨_, rfl⟩
      rw [hYQ] at HI4 GR
      clear HI3
      replace vl11 := hid (vl11.out.step (GR.out))
      replace vl12 := hid (vl12.out.step (GR.out))
      clear GR
      obtain ⟨cP0, cP1, cP2, cP3, cP4, cP5⟩ := cells6 (HI4.out.box _ (List.mem_cons_of_mem _ (List.mem_cons_self ..))).1
      have HC := hid (cconjS HI4.out n11 a11 ca11 xs11 b11 cb11 ys11 m11 c11 cc11 us11 d11 cd11 vs11 ok11.out (by have := HKV.out; omega) (vl11.out.sl ok11.out))
      go_wp2_with fail
      refine Calls.mono HC.out ?_
      rintro x v13 ⟨n13, a13, ca13, xs13, b13, cb13, ys13, m13, c13, cc13, us13, d13, cd13, vs13, rfl, ok13, HI5, vl13, gr⟩
      clear cP0 cP1 cP2 cP3 cP4 cP5
      clear HC HI4
      replace vl11 := hid (vl11.out.step (gr.out))
      replace vl12 := hid (vl12.out.step (gr.out))
      clear gr
      have HI6 := hid ((HI5.out.al (.cells #[.bool n13, .slice a13 xs13.length ca13, .slice b13 ys13.length cb13, .bool m13, .slice c13 us13.length cc13, .slice d13 vs13.length cd13] 26)).more (Box.made v13 26 #[.bool n13, .slice a13 xs13.length ca13, .slice b13 ys13.length cb13, .bool m13, .slice c13 us13.length cc13, .slice d13 vs13.length cd13]) (by have := HI5.out.bad.lt; omega))
      have GR := hid (World.grownBy_alloc v13 (.cells #[.bool n13, .slice a13 xs13.length ca13, .slice b13 ys13.length cb13, .bool m13, .slice c13 us13.length cc13, .slice d13 vs13.length cd13] 26) (some w3.heap.size))
      obtain ⟨YK, hYK⟩ : ∃ Y, v13.alloc (.cells #[.bool n13, .slice a13 xs13.length ca13, .slice b13 ys13.length cb13, .bool m13, .slice c13 us13.length cc13, .slice d13 vs13.length cd13] 26) = Y := ⟨_, rfl⟩
      rw [hYK] at HI6 GR
      clear HI5
      replace vl11 := hid (vl11.out.step (GR.out))
      replace vl12 := hid (vl12.out.step (GR.out))
      replace vl13 := hid (vl13.out.step (GR.out))
      clear GR
      obtain ⟨cA0, cA1, cA2, cA3, cA4, cA5⟩ := cells6 (HI6.out.box _ (List.mem_cons_of_mem _ (List.mem_cons_of_mem _ (List.mem_cons_of_mem _ (List.mem_cons_self ..))))).1
      have HC := hid (cnegS HI6.out n1 a1 ca1 xs1 b1 cb1 ys1 m1 c1 cc1 us1 d1 cd1 vs1 OK1.out (by have := HKV.out; omega) (HS.out _ HI6.out.grown).1)
      go_wp2_with fail
      refine Calls.mono HC.out ?_
      rintro x v14 ⟨n14, a14, ca14, xs14, b14, cb14, ys14, m14, c14, cc14, us14, d14, cd14, vs14, rfl, ok14, HI7, vl14, gr⟩
      clear cA0 cA1 cA2 cA3 cA4 cA5
      clear HC HI6
      replace vl11 := hid (vl11.out.step (gr.out))
      replace vl12 := hid (vl12.out.step (gr.out))
      replace vl13 := hid (vl13.out.step (gr.out))
      clear gr
      have HI8 := hid ((HI7.out.al (.cells #[.bool n14, .slice a14 xs14.length ca14, .slice b14 ys14.length cb14, .bool m14, .slice c14 us14.length cc14, .slice d14 vs14.length cd14] 26)).more (Box.made v14 26 #[.bool n14, .slice a14 xs14.length ca14, .slice b14 ys14.length cb14, .bool m14, .slice c14 us14.length cc14, .slice d14 vs14.length cd14]) (by have := HI7.out.bad.lt; omega))
      have GR := hid (World.grownBy_alloc v14 (.cells #[.bool n14, .slice a14 xs14.length ca14, .slice b14 ys14.length cb14, .bool m14, .slice c14 us14.length cc14, .slice d14 vs14.length cd14] 26) (some w3.heap.size))
      obtain ⟨YN, hYN⟩ : ∃ Y, v14.alloc (.cells #[.bool n14, .slice a14 xs14.length ca14, .slice b14 ys14.length cb14, .bool m14, .slice c14 us14.length cc14, .slice d14 vs14.length cd14] 26) = Y := ⟨_, rfl⟩
      rw [hYN] at HI8 GR
      clear HI7
      replace vl11 := hid (vl11.out.step (GR.out))
      replace vl12 := hid (vl12.out.step (GR.out))
      replace vl13 := hid (vl13.out.step (GR.out))
      replace vl14 := hid (vl14.out.step (GR.out))
      clear GR
      obtain ⟨cA0, cA1, cA2, cA3, cA4, cA5⟩ := cells6 (HI8.out.box _ (List.mem_cons_of_mem _ (List.mem_cons_of_mem _ (List.mem_cons_of_mem _ (List.mem_cons_of_mem _ (List.mem_cons_self ..)))))).1
      have HC := hid (cnormS HI8.out n1 a1 ca1 xs1 b1 cb1 ys1 m1 c1 cc1 us1 d1 cd1 vs1 OK1.out (by have := HKV.out; omega) (HS.out _ HI8.out.grown).1)
      go_wp2_with fail
      refine Calls.mono HC.out ?_
      rintro x v21 ⟨n21, a21, ca21, xs21, b21, cb21, ys21, rfl, ok21, HI9, vl21, gr⟩
      clear cA0 cA1 cA2 cA3 cA4 cA5
      clear HC HI8
      replace vl11 := hid (vl11.out.step (gr.out))
      replace vl12 := hid (vl12.out.step (gr.out))
      replace vl13 := hid (vl13.out.step (gr.out))
      replace vl14 := hid (vl14.out.step (gr.out))
      clear gr
      have HI10 := hid ((HI9.out.al (.cells #[.bool n21, .slice a21 xs21.length ca21, .slice b21 ys21.length cb21] 24)).more (Box.made v21 24 #[.bool n21, .slice a21 xs21.length ca21, .slice b21 ys21.length cb21]) (by have := HI9.out.bad.lt; omega))
      have GR := hid (World.grownBy_alloc v21 (.cells #[.bool n21, .slice a21 xs21.length ca21, .slice b21 ys21.length cb21] 24) (some w3.heap.size))
      obtain ⟨YM, hYM⟩ : ∃ Y, v21.alloc (.cells #[.bool n21, .slice a21 xs21.length ca21, .slice b21 ys21.length cb21] 24) = Y := ⟨_, rfl⟩
      rw [hYM] at HI10 GR
      clear HI9
      replace vl11 := hid (vl11.out.step (GR.out))
      replace vl12 := hid (vl12.out.step (GR.out))
      replace vl13 := hid (vl13.out.step (GR.out))
      replace vl14 := hid (vl14.out.step (GR.out))
      replace vl21 := hid (vl21.out.step (GR.out))
      clear GR
      obtain ⟨cB0, cB1, cB2, cB3, cB4, cB5⟩ := cells6 (HI10.out.box _ (List.mem_cons_of_mem _ (List.mem_cons_of_mem _ (List.mem_cons_of_mem _ (List.mem_cons_of_mem _ (List.mem_cons_of_mem _ (List.mem_cons_of_mem _ (List.mem_cons_self ..)))))))).1
      have HC := hid (cnormS HI10.out n2 a2 ca2 xs2 b2 cb2 ys2 m2 c2 cc2 us2 d2 cd2 vs2 OK2.out (by have := HKV.out; omega) (HS.out _ HI10.out.grown).2)
      go_wp2_with fail
      refine Calls.mono HC.out ?_
      rintro x v22 ⟨n22, a22, ca22, xs22, b22, cb22, ys22, rfl, ok22, HI11, vl22, gr⟩
      clear cB0 cB1 cB2 cB3 cB4 cB5
      clear HC HI10
      replace vl11 := hid (vl11.out.step (gr.out))
      replace vl12 := hid (vl12.out.step (gr.out))
      replace vl13 := hid (vl13.out.step (gr.out))
      replace vl14 := hid (vl14.out.step (gr.out))
      replace vl21 := hid (vl21.out.step (gr.out))
      clear gr
      have HI12 := hid ((HI11.out.al (.cells #[.bool n22, .slice a22 xs22.length ca22, .slice b22 ys22.length cb22] 24)).more (Box.made v22 24 #[.bool n22, .slice a22 xs22.length ca22, .slice b22 ys22.length cb22]) (by have := HI11.out.bad.lt; omega))
      have GR := hid (World.grownBy_alloc v22 (.cells #[.bool n22, .slice a22 xs22.length ca22, .slice b22 ys22.length cb22] 24) (some w3.heap.size))
      obtain ⟨YO, hYO⟩ : ∃ Y, v22.alloc (.cells #[.bool n22, .slice a22 xs22.length ca22, .slice b22 ys22.length cb22] 24) = Y := ⟨_, rfl⟩
      rw [hYO] at HI12 GR
      clear HI11
      replace vl11 := hid (vl11.out.step (GR.out))
      replace vl12 := hid (vl12.out.step (GR.out))
      replace vl13 := hid (vl13.out.step (GR.out))
      replace vl14 := hid (vl14.out.step (GR.out))
      replace vl21 := hid (vl21.out.step (GR.out))
      replace vl22 := hid (vl22.out.step (GR.out))
      clear GR
      obtain ⟨cA0, cA1, cA2, cA3, cA4, cA5⟩ := cells6 (HI12.out.box _ (List.mem_cons_of_mem _ (List.mem_cons_of_mem _ (List.mem_cons_of_mem _ (List.mem_cons_of_mem _ (List.mem_cons_of_mem _ (List.mem_cons_of_mem _ (List.mem_cons_self ..)))))))).1
      obtain ⟨cB0, cB1, cB2, cB3, cB4, cB5⟩ := cells6 (HI12.out.box _ (List.mem_cons_of_mem _ (List.mem_cons_of_mem _ (List.mem_cons_of_mem _ (List.mem_cons_of_mem _ (List.mem_cons_of_mem _ (List.mem_cons_of_mem _ (List.mem_cons_of_mem _ (List.mem_cons_self ..))))))))).1
      have HC := hid (cmulS HI12.out n1 a1 ca1 xs1 b1 cb1 ys1 m1 c1 cc1 us1 d1 cd1 vs1 n2 a2 ca2 xs2 b2 cb2 ys2 m2 c2 cc2 us2 d2 cd2 vs2 OK1.out OK2.out (by have := HKV.out; omega) (HS.out _ HI12.out.grown).1 (HS.out _ HI12.out.grown).2)
      go_wp2_with fail
      refine Calls.mono HC.out ?_
      rintro x v15 ⟨n15, a15, ca15, xs15, b15, cb15, ys15, m15, c15, cc15, us15, d15, cd15, vs15, rfl, ok15, HI13, vl15, gr⟩
      clear cA0 cA1 cA2 cA3 cA4 cA5 cB0 cB1 cB2 cB3 cB4 cB5
      clear HC HI12
      replace vl11 := hid (vl11.out.step (gr.out))
      replace vl12 := hid (vl12.out.step (gr.out))
      replace vl13 := hid (vl13.out.step (gr.out))
      replace vl14 := hid (vl14.out.step (gr.out))
      replace vl21 := hid (vl21.out.step (gr.out))
      replace vl22 := hid (vl22.out.step (gr.out))
      clear gr
      have HC := hid (cnormS HI13.out n15 a15 ca15 xs15 b15 cb15 ys15 m15 c15 cc15 us15 d15 cd15 vs15 ok15.out (by have := HKV.out; omega) (vl15.out.sl ok15.out))
      go_wp2_with fail
      refine Calls.mono HC.out ?_
      rintro x v23 ⟨n23, a23, ca23, xs23, b23, cb23, ys23, rfl, ok23, HI14, vl23, gr⟩
      clear HC HI13
      replace vl11 := hid (vl11.out.step (gr.out))
      replace vl12 := hid (vl12.out.step (gr.out))
      replace vl13 := hid (vl13.out.step (gr.out))
      replace vl14 := hid (vl14.out.step (gr.out))
      replace vl21 := hid (vl21.out.step (gr.out))
      replace vl22 := hid (vl22.out.step (gr.out))
      replace vl15 := hid (vl15.out.step (gr.out))
      clear gr
      have HI15 := hid ((HI14.out.al (.cells #[.bool n23, .slice a23 xs23.length ca23, .slice b23 ys23.length cb23] 24)).more (Box.made v23 24 #[.bool n23, .slice a23 xs23.length ca23, .slice b23 ys23.length cb23]) (by have := HI14.out.bad.lt; omega))
      have GR := hid (World.grownBy_alloc v23 (.cells #[.bool n23, .slice a23 xs23.length ca23, .slice b23 ys23.length cb23] 24) (some w3.heap.size))
      obtain ⟨YJ, hYJ⟩ : ∃ Y, v23.alloc (.cells #[.bool n23, .slice a23 xs23.length ca23, .slice b23 ys23.length cb23] 24) = Y := ⟨_, rfl⟩
      rw [hYJ] at HI15 GR
      clear HI14
      replace vl11 := hid (vl11.out.step (GR.out))
      replace vl12 := hid (vl12.out.step (GR.out))
      replace vl13 := hid (vl13.out.step (GR.out))
      replace vl14 := hid (vl14.out.step (GR.out))
      replace vl21 := hid (vl21.out.step (GR.out))
      replace vl22 := hid (vl22.out.step (GR.out))
      replace vl15 := hid (vl15.out.step (GR.out))
      replace vl23 := hid (vl23.out.step (GR.out))
      clear GR
      clear vl15 ok15
      obtain ⟨cA0, cA1, cA2, cA3, cA4, cA5⟩ := cells6 (HI15.out.box _ (List.mem_cons_of_mem _ (List.mem_cons_of_mem _ (List.mem_cons_of_mem _ (List.mem_cons_of_mem _ (List.mem_cons_of_mem _ (List.mem_cons_of_mem _ (List.mem_cons_of_mem _ (List.mem_cons_self ..))))))))).1
      obtain ⟨cB0, cB1, cB2, cB3, cB4, cB5⟩ := cells6 (HI15.out.box _ (List.mem_cons_of_mem _ (List.mem_cons_of_mem _ (List.mem_cons_of_mem _ (List.mem_cons_of_mem _ (List.mem_cons_of_mem _ (List.mem_cons_of_mem _ (List.mem_cons_of_mem _ (List.mem_cons_of_mem _ (List.mem_cons_self ..)))))))))).1
      have HC := hid (cmulS HI15.out n1 a1 ca1 xs1 b1 cb1 ys1 m1 c1 cc1 us1 d1 cd1 vs1 n2 a2 ca2 xs2 b2 cb2 ys2 m2 c2 cc2 us2 d2 cd2 vs2 OK1.out OK2.out (by have := HKV.out; omega) (HS.out _ HI15.out.grown).1 (HS.out _ HI15.out.grown).2)
      go_wp2_with fail
      refine Calls.mono HC.out ?_
      rintro x v16 ⟨n16, a16, ca16, xs16, b16, cb16, ys16, m16, c16, cc16, us16, d16, cd16, vs16, rfl, ok16, HI16, vl16, gr⟩
      clear cA0 cA1 cA2 cA3 cA4 cA5 cB0 cB1 cB2 cB3 cB4 cB5
      clear HC HI15
      replace vl11 := hid (vl11.out.step (gr.out))
      replace vl12 := hid (vl12.out.step (gr.out))
      replace vl13 := hid (vl13.out.step (gr.out))
      replace vl14 := hid (vl14.out.step (gr.out))
      replace vl21 := hid (vl21.out.step (gr.out))
      replace vl22 := hid (vl22.out.step (gr.out))
      replace vl23 := hid (vl23.out.step (gr.out))
      clear gr
      have HC := hid (cconjS HI16.out n16 a16 ca16 xs16 b16 cb16 ys16 m16 c16 cc16 us16 d16 cd16 vs16 ok16.out (by have := HKV.out; omega) (vl16.out.sl ok16.out))
      go_wp2_with fail
      refine Calls.mono HC.out ?_
      rintro x v17 ⟨n17, a17, ca17, xs17, b17, cb17, ys17, m17, c17, cc17, us17, d17, cd17, vs17, rfl, ok17, HI17, vl17, gr⟩
      clear HC HI16
      replace vl11 := hid (vl11.out.step (gr.out))
      replace vl12 := hid (vl12.out.step (gr.out))
      replace vl13 := hid (vl13.out.step (gr.out))
      replace vl14 := hid (vl14.out.step (gr.out))
      replace vl21 := hid (vl21.out.step (gr.out))
      replace vl22 := hid (vl22.out.step (gr.out))
      replace vl23 := hid (vl23.out.step (gr.out))
      replace vl16 := hid (vl16.out.step (gr.out))
      clear gr
      have HI18 := hid ((HI17.out.al (.cells #[.bool n17, .slice a17 xs17.length ca17, .slice b17 ys17.length cb17, .bool m17, .slice c17 us17.length cc17, .slice d17 vs17.length cd17] 26)).more (Box.made v17 26 #[.bool n17, .slice a17 xs17.length ca17, .slice b17 ys17.length cb17, .bool m17, .slice c17 us17.length cc17, .slice d17 vs17.length cd17]) (by have := HI17.out.bad.lt; omega))
      have GR := hid (World.grownBy_alloc v17 (.cells #[.bool n17, .slice a17 xs17.length ca17, .slice b17 ys17.length cb17, .bool m17, .slice c17 us17.length cc17, .slice d17 vs17.length cd17] 26) (some w3.heap.size))
      obtain ⟨YR, hYR⟩ : ∃ Y, v17.alloc (.cells #[.bool n17, .slice a17 xs17.length ca17, .slice b17 ys17.length cb17, .bool m17, .slice c17 us17.length cc17, .slice d17 vs17.length cd17] 26) = Y := ⟨_, rfl⟩
      rw [hYR] at HI18 GR
      clear HI17
      replace vl11 := hid (vl11.out.step (GR.out))
      replace vl12 := hid (vl12.out.step (GR.out))
      replace vl13 := hid (vl13.out.step (GR.out))
      replace vl14 := hid (vl14.out.step (GR.out))
      replace vl21 := hid (vl21.out.step (GR.out))
      replace vl22 := hid (vl22.out.step (GR.out))
      replace vl23 := hid (vl23.out.step (GR.out))
      replace vl16 := hid (vl16.out.step (GR.out))
      replace vl17 := hid (vl17.out.step (GR.out))
      clear GR
      clear vl16 ok16
      obtain ⟨cM0, cM1, cM2, _, _, _⟩ := box3f (HI18.out.box _ (List.mem_cons_of_mem _ (List.mem_cons_of_mem _ (List.mem_cons_of_mem _ (List.mem_cons_self ..))))).1
      obtain ⟨cO0, cO1, cO2, _, _, _⟩ := box3f (HI18.out.box _ (List.mem_cons_of_mem _ (List.mem_cons_of_mem _ (List.mem_cons_self ..)))).1
      have HC := hid (crmulS HI18.out n21 a21 ca21 xs21 b21 cb21 ys21 n22 a22 ca22 xs22 b22 cb22 ys22 ok21.out ok22.out (by have := HKV.out; omega) (vl21.out.sl ok21.out) (vl22.out.sl ok22.out))
      go_wp2_with fail
      refine Calls.mono HC.out ?_
      rintro x v24 ⟨n24, a24, ca24, xs24, b24, cb24, ys24, rfl, ok24, HI19, vl24, gr⟩
      clear cM0 cM1 cM2 cO0 cO1 cO2
      clear HC HI18
      replace vl11 := hid (vl11.out.step (gr.out))
      replace vl12 := hid (vl12.out.step (gr.out))
      replace vl13 := hid (vl13.out.step (gr.out))
      replace vl14 := hid (vl14.out.step (gr.out))
      replace vl21 := hid (vl21.out.step (gr.out))
      replace vl22 := hid (vl22.out.step (gr.out))
      replace vl23 := hid (vl23.out.step (gr.out))
      replace vl17 := hid (vl17.out.step (gr.out))
      clear gr
      have HI20 := hid ((HI19.out.al (.cells #[.bool n24, .slice a24 xs24.length ca24, .slice b24 ys24.length cb24] 24)).more (Box.made v24 24 #[.bool n24, .slice a24 xs24.length ca24, .slice b24 ys24.length cb24]) (by have := HI19.out.bad.lt; omega))
      have GR := hid (World.grownBy_alloc v24 (.cells #[.bool n24, .slice a24 xs24.length ca24, .slice b24 ys24.length cb24] 24) (some w3.heap.size))
      obtain ⟨YT, hYT⟩ : ∃ Y, v24.alloc (.cells #[.bool n24, .slice a24 xs24.length ca24, .slice b24 ys24.length cb24] 24) = Y := ⟨_, rfl⟩
      rw [hYT] at HI20 GR
      clear HI19
      replace vl11 := hid (vl11.out.step (GR.out))
      replace vl12 := hid (vl12.out.step (GR.out))
      replace vl13 := hid (vl13.out.step (GR.out))
      replace vl14 := hid (vl14.out.step (GR.out))
      replace vl21 := hid (vl21.out.step (GR.out))
      replace vl22 := hid (vl22.out.step (GR.out))
      replace vl23 := hid (vl23.out.step (GR.out))
      replace vl17 := hid (vl17.out.step (GR.out))
      replace vl24 := hid (vl24.out.step (GR.out))
      clear GR
      obtain ⟨cA0, cA1, cA2, cA3, cA4, cA5⟩ := cells6 (HI20.out.box _ (List.mem_cons_of_mem _ (List.mem_cons_of_mem _ (List.mem_cons_of_mem _ (List.mem_cons_of_mem _ (List.mem_cons_of_mem _ (List.mem_cons_of_mem _ (List.mem_cons_of_mem _ (List.mem_cons_of_mem _ (List.mem_cons_of_mem _ (List.mem_cons_self ..))))))))))).1
      obtain ⟨cP0, cP1, cP2, cP3, cP4, cP5⟩ := cells6 (HI20.out.box _ (List.mem_cons_of_mem _ (List.mem_cons_of_mem _ (List.mem_cons_of_mem _ (List.mem_cons_of_mem _ (List.mem_cons_of_mem _ (List.mem_cons_of_mem _ (List.mem_cons_of_mem _ (List.mem_cons_of_mem _ (List.mem_cons_self ..)))))))))).1
      have HC := hid (cmulS HI20.out n1 a1 ca1 xs1 b1 cb1 ys1 m1 c1 cc1 us1 d1 cd1 vs1 n11 a11 ca11 xs11 b11 cb11 ys11 m11 c11 cc11 us11 d11 cd11 vs11 OK1.out ok11.out (by have := HKV.out; omega) (HS.out _ HI20.out.grown).1 (vl11.out.sl ok11.out))
      go_wp2_with fail
      refine Calls.mono HC.out ?_
      rintro x v18 ⟨n18, a18, ca18, xs18, b18, cb18, ys18, m18, c18, cc18, us18, d18, cd18, vs18, rfl, ok18, HI21, vl18, gr⟩
      clear cA0 cA1 cA2 cA3 cA4 cA5 cP0 cP1 cP2 cP3 cP4 cP5
      clear HC HI20
      replace vl11 := hid (vl11.out.step (gr.out))
      replace vl12 := hid (vl12.out.step (gr.out))
      replace vl13 := hid (vl13.out.step (gr.out))
      replace vl14 := hid (vl14.out.step (gr.out))
      replace vl21 := hid (vl21.out.step (gr.out))
      replace vl22 := hid (vl22.out.step (gr.out))
      replace vl23 := hid (vl23.out.step (gr.out))
      replace vl17 := hid (vl17.out.step (gr.out))
      replace vl24 := hid (vl24.out.step (gr.out))
      clear gr
      have hu : us18 = [] := List.length_eq_zero_iff.1 (ce8 ok18.out.wu ok18.out.wv ok18.out.k2 ok18.out.e2 (ce2 pa1 pa2))
      subst hu
      have HI22 := hid ((HI21.out.al (.cells #[.bool n18, .slice a18 xs18.length ca18, .slice b18 ys18.length cb18, .bool m18, .slice c18 0 cc18, .slice d18 vs18.length cd18] 26)).more (Box.made v18 26 #[.bool n18, .slice a18 xs18.length ca18, .slice b18 ys18.length cb18, .bool m18, .slice c18 0 cc18, .slice d18 vs18.length cd18]) (by have := HI21.out.bad.lt; omega))
      have GR := hid (World.grownBy_alloc v18 (.cells #[.bool n18, .slice a18 xs18.length ca18, .slice b18 ys18.length cb18, .bool m18, .slice c18 0 cc18, .slice d18 vs18.length cd18] 26) (some w3.heap.size))
      obtain ⟨YX, hYX⟩ : ∃ Y, v18.alloc (.cells #[.bool n18, .slice a18 xs18.length ca18, .slice b18 ys18.length cb18, .bool m18, .slice c18 0 cc18, .slice d18 vs18.length cd18] 26) = Y := ⟨_, rfl⟩
      rw [hYX] at HI22 GR
      clear HI21
      replace vl11 := hid (vl11.out.step (GR.out))
      replace vl12 := hid (vl12.out.step (GR.out))
      replace vl13 := hid (vl13.out.step (GR.out))
      replace vl14 := hid (vl14.out.step (GR.out))
      replace vl21 := hid (vl21.out.step (GR.out))
      replace vl22 := hid (vl22.out.step (GR.out))
      replace vl23 := hid (vl23.out.step (GR.out))
      replace vl17 := hid (vl17.out.step (GR.out))
      replace vl24 := hid (vl24.out.step (GR.out))
      replace vl18 := hid (vl18.out.step (GR.out))
      clear GR
      have HC := hid (csamerS HI22.out (v1 := .slice a18 xs18.length ca18) (u1 := .slice b18 ys18.length cb18) (v2 := .slice a21 xs21.length ca21) (u2 := .slice b21 ys21.length cb21) ok18.out.k1 ok21.out.k (ok18.out.e1.trans ((ce1 pa1 pa2).trans ok21.out.e.symm)) ⟨(vl18.out.sl ok18.out).1, (vl18.out.sl ok18.out).2.1⟩ (vl21.out.sl ok21.out))
      obtain ⟨cX0, cX1, cX2, cX3, cX4, cX5⟩ := cells6 (HI22.out.box _ (List.mem_cons_self ..)).1
      obtain ⟨cM0, cM1, cM2, _, _, _⟩ := box3f (HI22.out.box _ (List.mem_cons_of_mem _ (List.mem_cons_of_mem _ (List.mem_cons_of_mem _ (List.mem_cons_of_mem _ (List.mem_cons_of_mem _ (List.mem_cons_self ..))))))).1
      go_wp2_with fail
      refine Calls.mono HC.out ?_
      rintro x vN ⟨rfl, HI23, gr⟩
      clear cX0 cX1 cX2 cX3 cX5 cM0 cM1 cM2
      clear HC HI22
      clear cX4
      replace vl11 := hid (vl11.out.step (gr.out))
      replace vl12 := hid (vl12.out.step (gr.out))
      replace vl13 := hid (vl13.out.step (gr.out))
      replace vl14 := hid (vl14.out.step (gr.out))
      replace vl21 := hid (vl21.out.step (gr.out))
      replace vl22 := hid (vl22.out.step (gr.out))
      replace vl23 := hid (vl23.out.step (gr.out))
      replace vl17 := hid (vl17.out.step (gr.out))
      replace vl24 := hid (vl24.out.step (gr.out))
      replace vl18 := hid (vl18.out.step (gr.out))
      clear gr
      clear vl18 ok18
      obtain ⟨cX0, cX1, cX2, cX3, cX4, cX5⟩ := cells6 (HI23.out.box _ (List.mem_cons_self ..)).1
      clear cX0 cX1 cX2 cX3 cX5
      go_upto_region 18 with fail
      clear cX4
      have HK : Hid (∀ V, CInv Z w3.heap.size ((v18.heap.size, 26, #[.bool n18, .slice a18 xs18.length ca18, .slice b18 ys18.length cb18, .bool m18, .slice c18 0 cc18, .slice d18 vs18.length cd18]) :: (v24.heap.size, 24, #[.bool n24, .slice a24 xs24.length ca24, .slice b24 ys24.length cb24]) :: (v17.heap.size, 26, #[.bool n17, .slice a17 xs17.length ca17, .slice b17 ys17.length cb17, .bool m17, .slice c17 us17.length cc17, .slice d17 vs17.length cd17]) :: (v23.heap.size, 24, #[.bool n23, .slice a23 xs23.length ca23, .slice b23 ys23.length cb23]) :: (v22.heap.size, 24, #[.bool n22, .slice a22 xs22.length ca22, .slice b22 ys22.length cb22]) :: (v21.heap.size, 24, #[.bool n21, .slice a21 xs21.length ca21, .slice b21 ys21.length cb21]) :: (v14.heap.size, 26, #[.bool n14, .slice a14 xs14.length ca14, .slice b14 ys14.length cb14, .bool m14, .slice c14 us14.length cc14, .slice d14 vs14.length cd14]) :: (v13.heap.size, 26, #[.bool n13, .slice a13 xs13.length ca13, .slice b13 ys13.length cb13, .bool m13, .slice c13 us13.length cc13, .slice d13 vs13.length cd13]) :: (v12.heap.size, 26, #[.bool n12, .slice a12 xs12.length ca12, .slice b12 ys12.length cb12, .bool m12, .slice c12 us12.length cc12, .slice d12 vs12.length cd12]) :: (v11.heap.size, 26, #[.bool n11, .slice a11 xs11.length ca11, .slice b11 ys11.length cb11, .bool m11, .slice c11 us11.length cc11, .slice d11 vs11.length cd11]) :: (w.heap.size, 26, #[.bool n1, .slice a1 xs1.length ca1, .slice b1 ys1.length cb1, .bool m1, .slice c1 us1.length cc1, .slice d1 vs1.length cd1]) :: (w.heap.size + 1, 26, #[.bool n2, .slice a2 xs2.length ca2, .slice b2 ys2.length cb2, .bool m2, .slice c2 us2.length cc2, .slice d2 vs2.length cd2]) :: []) V → V.cell? ⟨w.heap.size, 0, none⟩ = some (.bool n1) ∧ V.cell? ⟨w.heap.size, 1, none⟩ = some (.slice a1 xs1.length ca1) ∧ V.cell? ⟨w.heap.size, 2, none⟩ = some (.slice b1 ys1.length cb1) ∧ V.cell? ⟨w.heap.size, 3, none⟩ = some (.bool m1) ∧ V.cell? ⟨w.heap.size, 4, none⟩ = some (.slice c1 us1.length cc1) ∧ V.cell? ⟨w.heap.size, 5, none⟩ = some (.slice d1 vs1.length cd1) ∧ V.cell? ⟨v11.heap.size, 0, none⟩ = some (.bool n11) ∧ V.cell? ⟨v11.heap.size, 1, none⟩ = some (.slice a11 xs11.length ca11) ∧ V.cell? ⟨v11.heap.size, 2, none⟩ = some (.slice b11 ys11.length cb11) ∧ V.cell? ⟨v11.heap.size, 3, none⟩ = some (.bool m11) ∧ V.cell? ⟨v11.heap.size, 4, none⟩ = some (.slice c11 us11.length cc11) ∧ V.cell? ⟨v11.heap.size, 5, none⟩ = some (.slice d11 vs11.length cd11) ∧ V.cell? ⟨v12.heap.size, 0, none⟩ = some (.bool n12) ∧ V.cell? ⟨v12.heap.size, 1, none⟩ = some (.slice a12 xs12.length ca12) ∧ V.cell? ⟨v12.heap.size, 2, none⟩ = some (.slice b12 ys12.length cb12) ∧ V.cell? ⟨v12.heap.size, 3, none⟩ = some (.bool m12) ∧ V.cell? ⟨v12.heap.size, 4, none⟩ = some (.slice c12 us12.length cc12) ∧ V.cell? ⟨v12.heap.size, 5, none⟩ = some (.slice d12 vs12.length cd12) ∧ V.cell? ⟨v13.heap.size, 0, none⟩ = some (.bool n13) ∧ V.cell? ⟨v13.heap.size, 1, none⟩ = some (.slice a13 xs13.length ca13) ∧ V.cell? ⟨v13.heap.size, 2, none⟩ = some (.slice b13 ys13.length cb13) ∧ V.cell? ⟨v13.heap.size, 3, none⟩ = some (.bool m13) ∧ V.cell? ⟨v13.heap.size, 4, none⟩ = some (.slice c13 us13.length cc13) ∧ V.cell? ⟨v13.heap.size, 5, none⟩ = some (.slice d13 vs13.length cd13) ∧ V.cell? ⟨v14.heap.size, 0, none⟩ = some (.bool n14) ∧ V.cell? ⟨v14.heap.size, 1, none⟩ = some (.slice a14 xs14.length ca14) ∧ V.cell? ⟨v14.heap.size, 2, none⟩ = some (.slice b14 ys14.length cb14) ∧ V.cell? ⟨v14.heap.size, 3, none⟩ = some (.bool m14) ∧ V.cell? ⟨v14.heap.size, 4, none⟩ = some (.slice c14 us14.length cc14) ∧ V.cell? ⟨v14.heap.size, 5, none⟩ = some (.slice d14 vs14.length cd14) ∧ V.cell? ⟨v21.heap.size, 0, none⟩ = some (.bool n21) ∧ V.cell? ⟨v21.heap.size, 1, none⟩ = some (.slice a21 xs21.length ca21) ∧ V.cell? ⟨v21.heap.size, 2, none⟩ = some (.slice b21 ys21.length cb21) ∧ V.cell? ⟨v23.heap.size, 0, none⟩ = some (.bool n23) ∧ V.cell? ⟨v23.heap.size, 1, none⟩ = some (.slice a23 xs23.length ca23) ∧ V.cell? ⟨v23.heap.size, 2, none⟩ = some (.slice b23 ys23.length cb23) ∧ V.cell? ⟨v17.heap.size, 0, none⟩ = some (.bool n17) ∧ V.cell? ⟨v17.heap.size, 1, none⟩ = some (.slice a17 xs17.length ca17) ∧ V.cell? ⟨v17.heap.size, 2, none⟩ = some (.slice b17 ys17.length cb17) ∧ V.cell? ⟨v17.heap.size, 3, none⟩ = some (.bool m17) ∧ V.cell? ⟨v17.heap.size, 4, none⟩ = some (.slice c17 us17.length cc17) ∧ V.cell? ⟨v17.heap.size, 5, none⟩ = some (.slice d17 vs17.length cd17) ∧ V.cell? ⟨v24.heap.size, 0, none⟩ = some (.bool n24) ∧ V.cell? ⟨v24.heap.size, 1, none⟩ = some (.slice a24 xs24.length ca24) ∧ V.cell? ⟨v24.heap.size, 2, none⟩ = some (.slice b24 ys24.length cb24) ∧ V.cell? ⟨w3.heap.size, 0, none⟩ = some (.bool false)) := hid (fun V hv => by
        obtain ⟨qA0, qA1, qA2, qA3, qA4, qA5⟩ := cells6 (hv.box _ (List.mem_cons_of_mem _ (List.mem_cons_of_mem _ (List.mem_cons_of_mem _ (List.mem_cons_of_mem _ (List.mem_cons_of_mem _ (List.mem_cons_of_mem _ (List.mem_cons_of_mem _ (List.mem_cons_of_mem _ (List.mem_cons_of_mem _ (List.mem_cons_of_mem _ (List.mem_cons_self ..)))))))))))).1
        obtain ⟨qP0, qP1, qP2, qP3, qP4, qP5⟩ := cells6 (hv.box _ (List.mem_cons_of_mem _ (List.mem_cons_of_mem _ (List.mem_cons_of_mem _ (List.mem_cons_of_mem _ (List.mem_cons_of_mem _ (List.mem_cons_of_mem _ (List.mem_cons_of_mem _ (List.mem_cons_of_mem _ (List.mem_cons_of_mem _ (List.mem_cons_self ..))))))))))).1
        obtain ⟨qQ0, qQ1, qQ2, qQ3, qQ4, qQ5⟩ := cells6 (hv.box _ (List.mem_cons_of_mem _ (List.mem_cons_of_mem _ (List.mem_cons_of_mem _ (List.mem_cons_of_mem _ (List.mem_cons_of_mem _ (List.mem_cons_of_mem _ (List.mem_cons_of_mem _ (List.mem_cons_of_mem _ (List.mem_cons_self ..)))))))))).1
        obtain ⟨qK0, qK1, qK2, qK3, qK4, qK5⟩ := cells6 (hv.box _ (List.mem_cons_of_mem _ (List.mem_cons_of_mem _ (List.mem_cons_of_mem _ (List.mem_cons_of_mem _ (List.mem_cons_of_mem _ (List.mem_cons_of_mem _ (List.mem_cons_of_mem _ (List.mem_cons_self ..))))))))).1
        obtain ⟨qN0, qN1, qN2, qN3, qN4, qN5⟩ := cells6 (hv.box _ (List.mem_cons_of_mem _ (List.mem_cons_of_mem _ (List.mem_cons_of_mem _ (List.mem_cons_of_mem _ (List.mem_cons_of_mem _ (List.mem_cons_of_mem _ (List.mem_cons_self ..)))))))).1
        obtain ⟨qM0, qM1, qM2, _, _, _⟩ := box3f (hv.box _ (List.mem_cons_of_mem _ (List.mem_cons_of_mem _ (List.mem_cons_of_mem _ (List.mem_cons_of_mem _ (List.mem_cons_of_mem _ (List.mem_cons_self ..))))))).1
        obtain ⟨qJ0, qJ1, qJ2, _, _, _⟩ := box3f (hv.box _ (List.mem_cons_of_mem _ (List.mem_cons_of_mem _ (List.mem_cons_of_mem _ (List.mem_cons_self ..))))).1
        obtain ⟨qR0, qR1, qR2, qR3, qR4, qR5⟩ := cells6 (hv.box _ (List.mem_cons_of_mem _ (List.mem_cons_of_mem _ (List.mem_cons_self ..)))).1
        obtain ⟨qT0, qT1, qT2, _, _, _⟩ := box3f (hv.box _ (List.mem_cons_of_mem _ (List.mem_cons_self ..))).1
        exact ⟨qA0, qA1, qA2, qA3, qA4, qA5, qP0, qP1, qP2, qP3, qP4, qP5, qQ0, qQ1, qQ2, qQ3, qQ4, qQ5, qK0, qK1, qK2, qK3, qK4, qK5, qN0, qN1, qN2, qN3, qN4, qN5, qM0, qM1, qM2, qJ0, qJ1, qJ2, qR0, qR1, qR2, qR3, qR4, qR5, qT0, qT1, qT2, hv.bad.cell 0⟩)
      have HD := hid HI23.out.drew
      have hs0 := HK.out _ HD.out
      replace vl11 := hid (vl11.out.step (grow_drew _ _))
      replace vl12 := hid (vl12.out.step (grow_drew _ _))
      replace vl13 := hid (vl13.out.step (grow_drew _ _))
      replace vl14 := hid (vl14.out.step (grow_drew _ _))
      replace vl21 := hid (vl21.out.step (grow_drew _ _))
      replace vl22 := hid (vl22.out.step (grow_drew _ _))
      replace vl23 := hid (vl23.out.step (grow_drew _ _))
      replace vl17 := hid (vl17.out.step (grow_drew _ _))
      replace vl24 := hid (vl24.out.step (grow_drew _ _))
      by_cases hz : pa1 = 0 ∧ pa2 = 0
      · replace hz := hid hz
        go_region_held3 (fun V : World => V.cell? ⟨w.heap.size, 0, none⟩ = some (.bool n1) ∧ V.cell? ⟨w.heap.size, 1, none⟩ = some (.slice a1 xs1.length ca1) ∧ V.cell? ⟨w.heap.size, 2, none⟩ = some (.slice b1 ys1.length cb1) ∧ V.cell? ⟨w.heap.size, 3, none⟩ = some (.bool m1) ∧ V.cell? ⟨w.heap.size, 4, none⟩ = some (.slice c1 us1.length cc1) ∧ V.cell? ⟨w.heap.size, 5, none⟩ = some (.slice d1 vs1.length cd1) ∧ V.cell? ⟨v11.heap.size, 0, none⟩ = some (.bool n11) ∧ V.cell? ⟨v11.heap.size, 1, none⟩ = some (.slice a11 xs11.length ca11) ∧ V.cell? ⟨v11.heap.size, 2, none⟩ = some (.slice b11 ys11.length cb11) ∧ V.cell? ⟨v11.heap.size, 3, none⟩ = some (.bool m11) ∧ V.cell? ⟨v11.heap.size, 4, none⟩ = some (.slice c11 us11.length cc11) ∧ V.cell? ⟨v11.heap.size, 5, none⟩ = some (.slice d11 vs11.length cd11) ∧ V.cell? ⟨v12.heap.size, 0, none⟩ = some (.bool n12) ∧ V.cell? ⟨v12.heap.size, 1, none⟩ = some (.slice a12 xs12.length ca12) ∧ V.cell? ⟨v12.heap.size, 2, none⟩ = some (.slice b12 ys12.length cb12) ∧ V.cell? ⟨v12.heap.size, 3, none⟩ = some (.bool m12) ∧ V.cell? ⟨v12.heap.size, 4, none⟩ = some (.slice c12 us12.length cc12) ∧ V.cell? ⟨v12.heap.size, 5, none⟩ = some (.slice d12 vs12.length cd12) ∧ V.cell? ⟨v13.heap.size, 0, none⟩ = some (.bool n13) ∧ V.cell? ⟨v13.heap.size, 1, none⟩ = some (.slice a13 xs13.length ca13) ∧ V.cell? ⟨v13.heap.size, 2, none⟩ = some (.slice b13 ys13.length cb13) ∧ V.cell? ⟨v13.heap.size, 3, none⟩ = some (.bool m13) ∧ V.cell? ⟨v13.heap.size, 4, none⟩ = some (.slice c13 us13.length cc13) ∧ V.cell? ⟨v13.heap.size, 5, none⟩ = some (.slice d13 vs13.length cd13) ∧ V.cell? ⟨v14.heap.size, 0, none⟩ = some (.bool n14) ∧ V.cell? ⟨v14.heap.size, 1, none⟩ = some (.slice a14 xs14.length ca14) ∧ V.cell? ⟨v14.heap.size, 2, none⟩ = some (.slice b14 ys14.length cb14) ∧ V.cell? ⟨v14.heap.size, 3, none⟩ = some (.bool m14) ∧ V.cell? ⟨v14.heap.size, 4, none⟩ = some (.slice c14 us14.length cc14) ∧ V.cell? ⟨v14.heap.size, 5, none⟩ = some (.slice d14 vs14.length cd14) ∧ V.cell? ⟨v21.heap.size, 0, none⟩ = some (.bool n21) ∧ V.cell? ⟨v21.heap.size, 1, none⟩ = some (.slice a21 xs21.length ca21) ∧ V.cell? ⟨v21.heap.size, 2, none⟩ = some (.slice b21 ys21.length cb21) ∧ V.cell? ⟨v23.heap.size, 0, none⟩ = some (.bool n23) ∧ V.cell? ⟨v23.heap.size, 1, none⟩ = some (.slice a23 xs23.length ca23) ∧ V.cell? ⟨v23.heap.size, 2, none⟩ = some (.slice b23 ys23.length cb23) ∧ V.cell? ⟨v17.heap.size, 0, none⟩ = some (.bool n17) ∧ V.cell? ⟨v17.heap.size, 1, none⟩ = some (.slice a17 xs17.length ca17) ∧ V.cell? ⟨v17.heap.size, 2, none⟩ = some (.slice b17 ys17.length cb17) ∧ V.cell? ⟨v17.heap.size, 3, none⟩ = some (.bool m17) ∧ V.cell? ⟨v17.heap.size, 4, none⟩ = some (.slice c17 us17.length cc17) ∧ V.cell? ⟨v17.heap.size, 5, none⟩ = some (.slice d17 vs17.length cd17) ∧ V.cell? ⟨v24.heap.size, 0, none⟩ = some (.bool n24) ∧ V.cell? ⟨v24.heap.size, 1, none⟩ = some (.slice a24 xs24.length ca24) ∧ V.cell? ⟨v24.heap.size, 2, none⟩ = some (.slice b24 ys24.length cb24) ∧ V.cell? ⟨w3.heap.size, 0, none⟩ = some (.bool false)) (first | with_reducible exact hs8 | with_reducible exact hs7 | with_reducible exact hs6 | with_reducible exact hs5 | with_reducible exact hs4 | with_reducible exact hs3 | with_reducible exact hs2 | with_reducible exact hs1 | with_reducible exact hs0)
          (first
            | (go_at_call 18; (with_reducible refine Calls.mono (csignT iv7.out n21 a21 ca21 xs21 b21 cb21 ys21 ok21.out ((ce7 pa1 pa2).2 hz.out) (vl21.out.sl ok21.out)) ?_); rintro x x8 ⟨rfl, iv8, gr8⟩; have hs8 := HK.out _ iv8.out; clear hs7)
            | (go_at_call 12; (with_reducible refine Calls.mono (czeroT iv6.out n1 a1 ca1 xs1 b1 cb1 ys1 m1 c1 cc1 us1 d1 cd1 vs1 OK1.out hz.out (HS.out _ iv6.out.grown).1) ?_); rintro x x7 ⟨rfl, iv7, gr7⟩; have hs7 := HK.out _ iv7.out; clear hs6; replace vl21 := hid (vl21.out.step gr7.out))
            | (go_at_call 12; (with_reducible refine Calls.mono (czeroT iv5.out n32 a32 ca32 xs32 b32 cb32 ys32 m32 c32 cc32 us32 d32 cd32 vs32 ok32.out (ce6 pa1 pa2) (vl32.out.sl ok32.out)) ?_); rintro x x6 ⟨rfl, iv6, gr6⟩; have hs6 := HK.out _ iv6.out; clear hs5; replace vl21 := hid (vl21.out.step gr6.out))
            | (go_at_call 8; (with_reducible refine Calls.mono (caddS iv4.out n1 a1 ca1 xs1 b1 cb1 ys1 m1 c1 cc1 us1 d1 cd1 vs1 n14 a14 ca14 xs14 b14 cb14 ys14 m14 c14 cc14 us14 d14 cd14 vs14 OK1.out ok14.out (by have := HKV.out; omega) (HS.out _ iv4.out.grown).1 (vl14.out.sl ok14.out)) ?_); rintro x x5 ⟨n32, a32, ca32, xs32, b32, cb32, ys32, m32, c32, cc32, us32, d32, cd32, vs32, rfl, ok32, iv5, vl32, gr5⟩; have hs5 := HK.out _ iv5.out; clear hs4; replace vl21 := hid (vl21.out.step gr5.out))
            | (go_at_call 7; (with_reducible refine Calls.mono (csameS iv3.out n13 a13 ca13 xs13 b13 cb13 ys13 m13 c13 cc13 us13 d13 cd13 vs13 n1 a1 ca1 xs1 b1 cb1 ys1 m1 c1 cc1 us1 d1 cd1 vs1 ok13.out OK1.out (ce5 pa1 pa2) (vl13.out.sl ok13.out) (HS.out _ iv3.out.grown).1) ?_); rintro x x4 ⟨rfl, iv4, gr4⟩; have hs4 := HK.out _ iv4.out; clear hs3; replace vl14 := hid (vl14.out.step gr4.out); replace vl21 := hid (vl21.out.step gr4.out))
            | (go_at_call 7; (with_reducible refine Calls.mono (csameS iv2.out n17 a17 ca17 xs17 b17 cb17 ys17 m17 c17 cc17 us17 d17 cd17 vs17 n31 a31 ca31 xs31 b31 cb31 ys31 m31 c31 cc31 us31 d31 cd31 vs31 ok17.out ok31.out (ce4 pa1 pa2 pb1 pb2) (vl17.out.sl ok17.out) (vl31.out.sl ok31.out)) ?_); rintro x x3 ⟨rfl, iv3, gr3⟩; have hs3 := HK.out _ iv3.out; clear hs2; replace vl13 := hid (vl13.out.step gr3.out); replace vl14 := hid (vl14.out.step gr3.out); replace vl21 := hid (vl21.out.step gr3.out))
            | (go_at_call 17; (with_reducible refine Calls.mono (csamerS HD.out (v1 := .slice a23 xs23.length ca23) (u1 := .slice b23 ys23.length cb23) (v2 := .slice a24 xs24.length ca24) (u2 := .slice b24 ys24.length cb24) ok23.out.k ok24.out.k (ok23.out.e.trans ((ce3 pa1 pa2 pb1 pb2).trans ok24.out.e.symm)) (vl23.out.sl ok23.out) (vl24.out.sl ok24.out)) ?_); rintro x x1 ⟨rfl, iv1, gr1⟩; have hs1 := HK.out _ iv1.out; clear hs0; replace vl11 := hid (vl11.out.step gr1.out); replace vl12 := hid (vl12.out.step gr1.out); replace vl17 := hid (vl17.out.step gr1.out); replace vl13 := hid (vl13.out.step gr1.out); replace vl14 := hid (vl14.out.step gr1.out); replace vl21 := hid (vl21.out.step gr1.out))
            | (go_at_call 9; (with_reducible refine Calls.mono (cmulS iv1.out n11 a11 ca11 xs11 b11 cb11 ys11 m11 c11 cc11 us11 d11 cd11 vs11 n12 a12 ca12 xs12 b12 cb12 ys12 m12 c12 cc12 us12 d12 cd12 vs12 ok11.out ok12.out (by have := HKV.out; omega) (vl11.out.sl ok11.out) (vl12.out.sl ok12.out)) ?_); rintro x x2 ⟨n31, a31, ca31, xs31, b31, cb31, ys31, m31, c31, cc31, us31, d31, cd31, vs31, rfl, ok31, iv2, vl31, gr2⟩; have hs2 := HK.out _ iv2.out; clear hs1; replace vl17 := hid (vl17.out.step gr2.out); replace vl13 := hid (vl13.out.step gr2.out); replace vl14 := hid (vl14.out.step gr2.out); replace vl21 := hid (vl21.out.step gr2.out)))
        all_goals
          go_wp2_with fail
          go_ret
          exact ⟨rfl, HBW.out _ iv8.out.grown⟩
      · replace hz := hid hz
        have HZQ := hid (show pa1 * pa1 + pa2 * pa2 ≠ 0 from fun e => hz.out ((ce7 pa1 pa2).1 e))
        go_region_held3 (fun V : World => V.cell? ⟨w.heap.size, 0, none⟩ = some (.bool n1) ∧ V.cell? ⟨w.heap.size, 1, none⟩ = some (.slice a1 xs1.length ca1) ∧ V.cell? ⟨w.heap.size, 2, none⟩ = some (.slice b1 ys1.length cb1) ∧ V.cell? ⟨w.heap.size, 3, none⟩ = some (.bool m1) ∧ V.cell? ⟨w.heap.size, 4, none⟩ = some (.slice c1 us1.length cc1) ∧ V.cell? ⟨w.heap.size, 5, none⟩ = some (.slice d1 vs1.length cd1) ∧ V.cell? ⟨v11.heap.size, 0, none⟩ = some (.bool n11) ∧ V.cell? ⟨v11.heap.size, 1, none⟩ = some (.slice a11 xs11.length ca11) ∧ V.cell? ⟨v11.heap.size, 2, none⟩ = some (.slice b11 ys11.length cb11) ∧ V.cell? ⟨v11.heap.size, 3, none⟩ = some (.bool m11) ∧ V.cell? ⟨v11.heap.size, 4, none⟩ = some (.slice c11 us11.length cc11) ∧ V.cell? ⟨v11.heap.size, 5, none⟩ = some (.slice d11 vs11.length cd11) ∧ V.cell? ⟨v12.heap.size, 0, none⟩ = some (.bool n12) ∧ V.cell? ⟨v12.heap.size, 1, none⟩ = some (.slice a12 xs12.length ca12) ∧ V.cell? ⟨v12.heap.size, 2, none⟩ = some (.slice b12 ys12.length cb12) ∧ V.cell? ⟨v12.heap.size, 3, none⟩ = some (.bool m12) ∧ V.cell? ⟨v12.heap.size, 4, none⟩ = some (.slice c12 us12.length cc12) ∧ V.cell? ⟨v12.heap.size, 5, none⟩ = some (.slice d12 vs12.length cd12) ∧ V.cell? ⟨v13.heap.size, 0, none⟩ = some (.bool n13) ∧ V.cell? ⟨v13.heap.size, 1, none⟩ = some (.slice a13 xs13.length ca13) ∧ V.cell? ⟨v13.heap.size, 2, none⟩ = some (.slice b13 ys13.length cb13) ∧ V.cell? ⟨v13.heap.size, 3, none⟩ = some (.bool m13) ∧ V.cell? ⟨v13.heap.size, 4, none⟩ = some (.slice c13 us13.length cc13) ∧ V.cell? ⟨v13.heap.size, 5, none⟩ = some (.slice d13 vs13.length cd13) ∧ V.cell? ⟨v14.heap.size, 0, none⟩ = some (.bool n14) ∧ V.cell? ⟨v14.heap.size, 1, none⟩ = some (.slice a14 xs14.length ca14) ∧ V.cell? ⟨v14.heap.size, 2, none⟩ = some (.slice b14 ys14.length cb14) ∧ V.cell? ⟨v14.heap.size, 3, none⟩ = some (.bool m14) ∧ V.cell? ⟨v14.heap.size, 4, none⟩ = some (.slice c14 us14.length cc14) ∧ V.cell? ⟨v14.heap.size, 5, none⟩ = some (.slice d14 vs14.length cd14) ∧ V.cell? ⟨v21.heap.size, 0, none⟩ = some (.bool n21) ∧ V.cell? ⟨v21.heap.size, 1, none⟩ = some (.slice a21 xs21.length ca21) ∧ V.cell? ⟨v21.heap.size, 2, none⟩ = some (.slice b21 ys21.length cb21) ∧ V.cell? ⟨v23.heap.size, 0, none⟩ = some (.bool n23) ∧ V.cell? ⟨v23.heap.size, 1, none⟩ = some (.slice a23 xs23.length ca23) ∧ V.cell? ⟨v23.heap.size, 2, none⟩ = some (.slice b23 ys23.length cb23) ∧ V.cell? ⟨v17.heap.size, 0, none⟩ = some (.bool n17) ∧ V.cell? ⟨v17.heap.size, 1, none⟩ = some (.slice a17 xs17.length ca17) ∧ V.cell? ⟨v17.heap.size, 2, none⟩ = some (.slice b17 ys17.length cb17) ∧ V.cell? ⟨v17.heap.size, 3, none⟩ = some (.bool m17) ∧ V.cell? ⟨v17.heap.size, 4, none⟩ = some (.slice c17 us17.length cc17) ∧ V.cell? ⟨v17.heap.size, 5, none⟩ = some (.slice d17 vs17.length cd17) ∧ V.cell? ⟨v24.heap.size, 0, none⟩ = some (.bool n24) ∧ V.cell? ⟨v24.heap.size, 1, none⟩ = some (.slice a24 xs24.length ca24) ∧ V.cell? ⟨v24.heap.size, 2, none⟩ = some (.slice b24 ys24.length cb24) ∧ V.cell? ⟨w3.heap.size, 0, none⟩ = some (.bool false)) (first | with_reducible exact hs8 | with_reducible exact hs7 | with_reducible exact hs6 | with_reducible exact hs5 | with_reducible exact hs4 | with_reducible exact hs3 | with_reducible exact hs2 | with_reducible exact hs1 | with_reducible exact hs0)
          (first
            | (go_at_call 18; (with_reducible refine Calls.mono (csignF iv7.out n21 a21 ca21 xs21 b21 cb21 ys21 ok21.out HZQ.out (vl21.out.sl ok21.out)) ?_); rintro x x8 ⟨sg, rfl, hsg, hsn, iv8, gr8⟩; have hs8 := HK.out _ iv8.out; clear hs7)
            | (go_at_call 12; (with_reducible refine Calls.mono (czeroF iv6.out n1 a1 ca1 xs1 b1 cb1 ys1 m1 c1 cc1 us1 d1 cd1 vs1 OK1.out hz.out (HS.out _ iv6.out.grown).1) ?_); rintro x x7 ⟨rfl, iv7, gr7⟩; have hs7 := HK.out _ iv7.out; clear hs6; replace vl21 := hid (vl21.out.step gr7.out))
            | (go_at_call 12; (with_reducible refine Calls.mono (czeroT iv5.out n32 a32 ca32 xs32 b32 cb32 ys32 m32 c32 cc32 us32 d32 cd32 vs32 ok32.out (ce6 pa1 pa2) (vl32.out.sl ok32.out)) ?_); rintro x x6 ⟨rfl, iv6, gr6⟩; have hs6 := HK.out _ iv6.out; clear hs5; replace vl21 := hid (vl21.out.step gr6.out))
            | (go_at_call 8; (with_reducible refine Calls.mono (caddS iv4.out n1 a1 ca1 xs1 b1 cb1 ys1 m1 c1 cc1 us1 d1 cd1 vs1 n14 a14 ca14 xs14 b14 cb14 ys14 m14 c14 cc14 us14 d14 cd14 vs14 OK1.out ok14.out (by have := HKV.out; omega) (HS.out _ iv4.out.grown).1 (vl14.out.sl ok14.out)) ?_); rintro x x5 ⟨n32, a32, ca32, xs32, b32, cb32, ys32, m32, c32, cc32, us32, d32, cd32, vs32, rfl, ok32, iv5, vl32, gr5⟩; have hs5 := HK.out _ iv5.out; clear hs4; replace vl21 := hid (vl21.out.step gr5.out))
            | (go_at_call 7; (with_reducible refine Calls.mono (csameS iv3.out n13 a13 ca13 xs13 b13 cb13 ys13 m13 c13 cc13 us13 d13 cd13 vs13 n1 a1 ca1 xs1 b1 cb1 ys1 m1 c1 cc1 us1 d1 cd1 vs1 ok13.out OK1.out (ce5 pa1 pa2) (vl13.out.sl ok13.out) (HS.out _ iv3.out.grown).1) ?_); rintro x x4 ⟨rfl, iv4, gr4⟩; have hs4 := HK.out _ iv4.out; clear hs3; replace vl14 := hid (vl14.out.step gr4.out); replace vl21 := hid (vl21.out.step gr4.out))
            | (go_at_call 7; (with_reducible refine Calls.mono (csameS iv2.out n17 a17 ca17 xs17 b17 cb17 ys17 m17 c17 cc17 us17 d17 cd17 vs17 n31 a31 ca31 xs31 b31 cb31 ys31 m31 c31 cc31 us31 d31 cd31 vs31 ok17.out ok31.out (ce4 pa1 pa2 pb1 pb2) (vl17.out.sl ok17.out) (vl31.out.sl ok31.out)) ?_); rintro x x3 ⟨rfl, iv3, gr3⟩; have hs3 := HK.out _ iv3.out; clear hs2; replace vl13 := hid (vl13.out.step gr3.out); replace vl14 := hid (vl14.out.step gr3.out); replace vl21 := hid (vl21.out.step gr3.out))
            | (go_at_call 17; (with_reducible refine Calls.mono (csamerS HD.out (v1 := .slice a23 xs23.length ca23) (u1 := .slice b23 ys23.length cb23) (v2 := .slice a24 xs24.length ca24) (u2 := .slice b24 ys24.length cb24) ok23.out.k ok24.out.k (ok23.out.e.trans ((ce3 pa1 pa2 pb1 pb2).trans ok24.out.e.symm)) (vl23.out.sl ok23.out) (vl24.out.sl ok24.out)) ?_); rintro x x1 ⟨rfl, iv1, gr1⟩; have hs1 := HK.out _ iv1.out; clear hs0; replace vl11 := hid (vl11.out.step gr1.out); replace vl12 := hid (vl12.out.step gr1.out); replace vl17 := hid (vl17.out.step gr1.out); replace vl13 := hid (vl13.out.step gr1.out); replace vl14 := hid (vl14.out.step gr1.out); replace vl21 := hid (vl21.out.step gr1.out))
            | (go_at_call 9; (with_reducible refine Calls.mono (cmulS iv1.out n11 a11 ca11 xs11 b11 cb11 ys11 m11 c11 cc11 us11 d11 cd11 vs11 n12 a12 ca12 xs12 b12 cb12 ys12 m12 c12 cc12 us12 d12 cd12 vs12 ok11.out ok12.out (by have := HKV.out; omega) (vl11.out.sl ok11.out) (vl12.out.sl ok12.out)) ?_); rintro x x2 ⟨n31, a31, ca31, xs31, b31, cb31, ys31, m31, c31, cc31, us31, d31, cd31, vs31, rfl, ok31, iv2, vl31, gr2⟩; have hs2 := HK.out _ iv2.out; clear hs1; replace vl17 := hid (vl17.out.step gr2.out); replace vl13 := hid (vl13.out.step gr2.out); replace vl14 := hid (vl14.out.step gr2.out); replace vl21 := hid (vl21.out.step gr2.out)))
        all_goals
          go_wp2_with fail
          go_ret
          exact ⟨rfl, HBW.out _ iv8.out.grown⟩
theorem gaussConj_in (n1 : Bool) (a1 : Option Addr) (ka1 ca1 : Nat) (xs1 : List Int) (b1 : Option Addr) (kb1 cb1 : Nat) (ys1 : List Int) (m1 : Bool) (c1 : Option Addr) (kc1 cc1 : Nat) (us1 : List Int) (d1 : Option Addr) (kd1 cd1 : Nat) (vs1 : List Int) (n2 : Bool) (a2 : Option Addr) (ka2 ca2 : Nat) (xs2 : List Int) (b2 : Option Addr) (kb2 cb2 : Nat) (ys2 : List Int) (m2 : Bool) (c2 : Option Addr) (kc2 cc2 : Nat) (us2 : List Int) (d2 : Option Addr) (kd2 cd2 : Nat) (vs2 : List Int) (w : World) (ha1 : Reads w w.heap.size a1 ka1 ca1 xs1) (hb1 : Reads w w.heap.size b1 kb1 cb1 ys1) (hc1 : Reads w w.heap.size c1 kc1 cc1 us1) (hd1 : Reads w w.heap.size d1 kd1 cd1 vs1) (ha2 : Reads w w.heap.size a2 ka2 ca2 xs2) (hb2 : Reads w w.heap.size b2 kb2 cb2 ys2) (hc2 : Reads w w.heap.size c2 kc2 cc2 us2) (hd2 : Reads w w.heap.size d2 kd2 cd2 vs2) (htab : Tab w) :
    Calls Tryz.prog 4 #[.agg #[.bool n1, .slice a1 ka1 ca1, .slice b1 kb1 cb1, .bool m1, .slice c1 kc1 cc1, .slice d1 kd1 cd1], .agg #[.bool n2, .slice a2 ka2 ca2, .slice b2 kb2 cb2, .bool m2, .slice c2 kc2 cc2, .slice d2 kd2 cd2]] w fun x w' => x = .returned (.bool true) ∧ Below w.heap.size w w' := by
  have ea1 := ha1.1
  subst ea1
  have eb1 := hb1.1
  subst eb1
  have ec1 := hc1.1
  subst ec1
  have ed1 := hd1.1
  subst ed1
  have ea2 := ha2.1
  subst ea2
  have eb2 := hb2.1
  subst eb2
  have ec2 := hc2.1
  subst ec2
  have ed2 := hd2.1
  subst ed2
  exact gaussConj_walk n1 a1 ca1 xs1 b1 cb1 ys1 m1 c1 cc1 us1 d1 cd1 vs1 n2 a2 ca2 xs2 b2 cb2 ys2 m2 c2 cc2 us2 d2 cd2 vs2 w ⟨⟨_, _, rfl, ha1⟩, ⟨_, _, rfl, hb1⟩, ⟨_, _, rfl, hc1⟩, ⟨_, _, rfl, hd1⟩⟩ ⟨⟨_, _, rfl, ha2⟩, ⟨_, _, rfl, hb2⟩, ⟨_, _, rfl, hc2⟩, ⟨_, _, rfl, hd2⟩⟩ htab
end Go.Proofs.YtalapdhdlboknaaGreatDoor

