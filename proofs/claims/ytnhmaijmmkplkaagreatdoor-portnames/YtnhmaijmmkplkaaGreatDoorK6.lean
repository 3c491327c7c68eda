/- My texts on the way to PortNames, one behind the other: contracts of the program and of the document's answers. -/
import Derived.Test.YtnhmaijmmkplkaaGreatDoorK1
import Derived.Test.YtnhmaijmmkplkaaGreatDoorK2
import Derived.Test.YtnhmaijmmkplkaaGreatDoorK3
import Derived.Test.YtnhmaijmmkplkaaGreatDoorK4
import Derived.Test.YtnhmaijmmkplkaaGreatDoorK5
import Derived.Test.YtnhmaijmmkplkaaGreatDoorShelf
import Derived.Lib.IndexBytes
import Derived.Lib.CutLaws
import Derived.Shelf.RegionOpenPlain
import Derived.Lib.AtoiErrMem
import Derived.Lib.ItoaLen
import Derived.StringKeys
import Derived.LoopN
import Derived.Deep.Slices
import Derived.OpenShut
import Derived.ChangeArms
import Derived.Deep.RegionHeld3
import Derived.Lib.AtoiAll
import Derived.Lib.AtoiAllCases
namespace Go.Proofs.YtnhmaijmmkplkaaGreatDoor
set_option maxHeartbeats 6400000
open Go.RowKit Go.Lib
set_option linter.unusedVariables false
set_option linter.unusedSimpArgs false
set_option maxRecDepth 100000 in
theorem zcut0_any (s : ByteArray) (c : UInt8) (w : World) (hs : s.size <= 281474976710656) :
 Calls Tryz.prog 165 #[.string s,.string ⟨#[c]⟩] w fun e w' => e = .returned (.tuple #[.string ⟨(Lib.cut s.data.toList [c]).1.toArray⟩,.string ⟨(Lib.cut s.data.toList [c]).2.1.toArray⟩,.bool (Lib.cut s.data.toList [c]).2.2]) /\ Below w.heap.size w w':=by
 have HI:=hid (Tryz.stringslite_Index_one s c w)
 rw [<- Lib.index_one] at HI
 rcases Lib.indexB_cases s ⟨#[c]⟩ with hix | ⟨i,hix,hroom⟩
 · obtain ⟨e1,e2,e3⟩:=Lib.cutB_miss s ⟨#[c]⟩ hix
   have e1' : (⟨(Lib.cut s.data.toList [c]).1.toArray⟩ : ByteArray) = _:=e1
   have e2' : (⟨(Lib.cut s.data.toList [c]).2.1.toArray⟩ : ByteArray) = _:=e2
   have e3' : (Lib.cut s.data.toList [c]).2.2 = _:=e3
   have hix' : Lib.index s.data.toList [c] = -1:=hix
   rw [hix'] at HI
   rw [e1',e2',e3']
   clear e1 e2 e3 e1' e2' e3' hix hix'
   go_enter Tryz.func165,Tryz.ntmps165
   go_wp2_with fail
   refine Calls.mono HI.out ?_
   rintro e w1 ⟨rfl,rfl⟩
   go_wp2_with fail
   go_returns
   exact ⟨rfl,Below.refl _ _⟩
 · obtain ⟨e1,e2,e3⟩:=Lib.cutB_hit s ⟨#[c]⟩ i hix
   have e1' : (⟨(Lib.cut s.data.toList [c]).1.toArray⟩ : ByteArray) = _:=e1
   have e2' : (⟨(Lib.cut s.data.toList [c]).2.1.toArray⟩ : ByteArray) = _:=e2
   have e3' : (Lib.cut s.data.toList [c]).2.2 = _:=e3
   have hix' : Lib.index s.data.toList [c] = (i : Int):=hix
   rw [hix'] at HI
   rw [e1',e2',e3']
   have hr : i + 1 <= s.size:=hroom
   have c1 : (0 : Int) <= ↑i:=by omega
   have c2 : (↑i : Int) <= ↑s.size:=by omega
   have c3 : (0 : Int) <= ↑i + 1:=by omega
   have c4 : (↑i + 1 : Int) <= ↑s.size:=by omega
   have hw : IntKind.i64.wrap ((i : Int) + 1) = (i : Int) + 1:=by rw [IntKind.wrap_i64]; omega
   have ht : ((i : Int) + 1).toNat = i + 1:=by omega
   clear e1 e2 e3 e1' e2' e3' hix hix' hroom
   go_enter Tryz.func165,Tryz.ntmps165
   go_wp2_with fail
   refine Calls.mono HI.out ?_
   rintro e w1 ⟨rfl,rfl⟩
   go_wp2_with fail
   go_region
   go_wp2_with fail
   go_returns
   exact ⟨rfl,(Below.refl _ _).drew⟩
set_option maxRecDepth 100000 in
theorem zcut_any (s : ByteArray) (c : UInt8) (w : World) (hs : s.size <= 281474976710656) :
 Calls Tryz.prog 109 #[.string s,.string ⟨#[c]⟩] w fun e w' => e = .returned (.tuple #[.string ⟨(Lib.cut s.data.toList [c]).1.toArray⟩,.string ⟨(Lib.cut s.data.toList [c]).2.1.toArray⟩,.bool (Lib.cut s.data.toList [c]).2.2]) /\ Below w.heap.size w w':=by
 have HC:=hid (zcut0_any s c w hs)
 generalize (Lib.cut s.data.toList [c]).1.toArray = A at *
 generalize (Lib.cut s.data.toList [c]).2.1.toArray = B at *
 generalize (Lib.cut s.data.toList [c]).2.2 = C at *
 go_enter Tryz.func109,Tryz.ntmps109
 go_wp2_with fail
 refine Calls.mono HC.out ?_
 rintro e w1 ⟨rfl,hb⟩
 go_wp2_with fail
 go_returns
 exact ⟨rfl,hb⟩
theorem zcut_len (l : List UInt8) (c : UInt8) : (Lib.cut l [c]).1.length <= l.length /\ (Lib.cut l [c]).2.1.length <= l.length:=by
 unfold Lib.cut
 split
 · simp
   omega
 · simp
def GToldC (w : World) (E : Int) (L : Prop) (q1 q2 : Rat) (x : Ending) (w' : World) : Prop :=
 ∃ n a ca xs b cb ys m c cc us d cd vs code,x = .returned (.tuple #[.agg #[.bool n,.slice a (List.length xs) ca,.slice b (List.length ys) cb,.bool m,.slice c (List.length us) cc,.slice d (List.length vs) cd],.int .i64 code]) /\ (w'.ownsRow w.heap.size 69 1 (.slice a xs.length ca) xs.length (xs.map (Value.int .u32)) /\ w'.ownsRow w.heap.size 69 1 (.slice b ys.length cb) ys.length (ys.map (Value.int .u32)) /\ w'.ownsRow w.heap.size 69 1 (.slice c us.length cc) us.length (us.map (Value.int .u32)) /\ w'.ownsRow w.heap.size 69 1 (.slice d vs.length cd) vs.length (vs.map (Value.int .u32))) /\ GTells E L q1 q2 n xs ys m us vs code /\ Below w.heap.size w w' /\ ∃ W1,Cut w (.slice a xs.length ca) (.slice b ys.length cb) W1 /\ Cut W1 (.slice c us.length cc) (.slice d vs.length cd) w'
theorem cut_nil (w w' : World) (h : w.heap.size <= w'.heap.size) : Cut w (.slice none 0 0) (.slice none 0 0) w':=⟨w.heap.size,Nat.le_refl _,h,fun g hg => by simp [Value.ownBlock] at hg,fun g hg => by simp [Value.ownBlock] at hg⟩
theorem gtoldc_zero {w W : World} {E : Int} {L : Prop} {q1 q2 : Rat} {code : Int} (h : E ≠ 0 /\ code = E \/ E = 0 /\ L /\ code = 3) (hb : Below w.heap.size w W) : GToldC w E L q1 q2 (.returned (.tuple #[.agg #[.bool false,.slice none 0 0,.slice none 0 0,.bool false,.slice none 0 0,.slice none 0 0],.int .i64 code])) W:=by
 refine ⟨false,none,0,[],none,0,[],false,none,0,[],none,0,[],code,rfl,⟨World.ownsRow_nil _ _ _ _,World.ownsRow_nil _ _ _ _,World.ownsRow_nil _ _ _ _,World.ownsRow_nil _ _ _ _⟩,⟨⟨Wd.nil,Wd.nil,Wd.nil,Wd.nil⟩,fun he => ⟨⟨rfl,rfl,rfl,rfl,rfl,rfl⟩,?_⟩,fun he hl => ⟨⟨rfl,rfl,rfl,rfl,rfl,rfl⟩,?_⟩,fun he hl => ?_⟩,hb,W,cut_nil _ _ hb.size,cut_nil _ _ (Nat.le_refl _)⟩
 · rcases h with h | h
   · exact h.2
   · exact absurd h.1 he
 · rcases h with h | h
   · exact absurd he h.1
   · exact h.2.2
 · rcases h with h | h
   · exact absurd he h.1
   · exact absurd h.2.1 hl
def gp1 (l : List UInt8) : List UInt8:=(Lib.cut l [32]).1
def gp2 (l : List UInt8) : List UInt8:=(Lib.cut l [32]).2.1
def ggood (l : List UInt8) : Prop:=rgood (gp1 l) /\ rgood (gp2 l)
def gplong (l : List UInt8) : Prop:=rlong (rpq (gp1 l)) \/ rlong (rpq (gp2 l))
open Classical in
noncomputable def gpE (s : ByteArray) : Int:=if 65536 < s.size then 3 else if ggood s.data.toList then 0 else 140
theorem gpE_long {s : ByteArray} (h : 65536 < s.size) : gpE s = 3:=by unfold gpE; rw [if_pos h]
theorem gpE_good {s : ByteArray} (hs : s.size <= 65536) (h : ggood s.data.toList) : gpE s = 0:=by unfold gpE; rw [if_neg (by omega),if_pos h]
theorem gpE_bad {s : ByteArray} (hs : s.size <= 65536) (h : ¬ ggood s.data.toList) : gpE s = 140:=by unfold gpE; rw [if_neg (by omega),if_neg h]
theorem gpar_codes {l1 l2 : List UInt8} (z1 : l1.length <= 65536) (z2 : l2.length <= 65536) {n m : Bool} {xs ys us vs : List Int} {c1 c2 : Int} (h1 : RTells (prErr ⟨l1.toArray⟩) (rpq l1) n xs ys c1) (h2 : RTells (prErr ⟨l2.toArray⟩) (rpq l2) m us vs c2) :
 (c1 = 130 /\ ¬ (rgood l1 /\ rgood l2)) \/ (c1 ≠ 130 /\ c2 = 130 /\ ¬ (rgood l1 /\ rgood l2)) \/ ((rgood l1 /\ rgood l2) /\ c1 = 3 /\ c2 ≠ 130 /\ (rlong (rpq l1) \/ rlong (rpq l2))) \/ ((rgood l1 /\ rgood l2) /\ c1 = 0 /\ c2 = 3 /\ (rlong (rpq l1) \/ rlong (rpq l2))) \/ ((rgood l1 /\ rgood l2) /\ c1 = 0 /\ c2 = 0 /\ ¬ (rlong (rpq l1) \/ rlong (rpq l2)) /\ (rchk n xs ys = 0 /\ rq n xs ys = rpq l1) /\ rchk m us vs = 0 /\ rq m us vs = rpq l2):=by
 have s1 : (⟨l1.toArray⟩ : ByteArray).size <= 65536:=by show l1.toArray.size <= 65536; simpa using z1
 have s2 : (⟨l2.toArray⟩ : ByteArray).size <= 65536:=by show l2.toArray.size <= 65536; simpa using z2
 have g1 : (⟨l1.toArray⟩ : ByteArray).data.toList = l1:=by simp
 have g2 : (⟨l2.toArray⟩ : ByteArray).data.toList = l2:=by simp
 have c2f : ¬ rgood l2 -> c2 = 130:=fun h => by
  have e:=prErr_bad s2 (by rw [g2]; exact h)
  rw [e] at h2
  exact (h2.bad (by decide)).2.2.2
 have c2t : rgood l2 -> (c2 = 3 /\ rlong (rpq l2)) \/ (c2 = 0 /\ ¬ rlong (rpq l2) /\ rchk m us vs = 0 /\ rq m us vs = rpq l2):=fun h => by
  have e:=prErr_good s2 (by rw [g2]; exact h)
  rw [e] at h2
  by_cases hl : rlong (rpq l2)
  · exact .inl ⟨(h2.long rfl hl).2.2.2,hl⟩
  · exact .inr ⟨(h2.good rfl hl).1,hl,(h2.good rfl hl).2⟩
 by_cases k1 : rgood l1
 · have e:=prErr_good s1 (by rw [g1]; exact k1)
   rw [e] at h1
   by_cases k2 : rgood l2
   · rcases c2t k2 with ⟨d,hl2⟩ | ⟨d,hl2,hk⟩
     · by_cases hl : rlong (rpq l1)
       · exact .inr (.inr (.inl ⟨⟨k1,k2⟩,(h1.long rfl hl).2.2.2,by omega,.inl hl⟩))
       · exact .inr (.inr (.inr (.inl ⟨⟨k1,k2⟩,(h1.good rfl hl).1,d,.inr hl2⟩)))
     · by_cases hl : rlong (rpq l1)
       · exact .inr (.inr (.inl ⟨⟨k1,k2⟩,(h1.long rfl hl).2.2.2,by omega,.inl hl⟩))
       · exact .inr (.inr (.inr (.inr ⟨⟨k1,k2⟩,(h1.good rfl hl).1,d,fun h => h.elim hl hl2,(h1.good rfl hl).2,hk⟩)))
   · refine .inr (.inl ⟨?_,c2f k2,fun h => k2 h.2⟩)
     by_cases hl : rlong (rpq l1)
     · have:=(h1.long rfl hl).2.2.2; omega
     · have:=(h1.good rfl hl).1; omega
 · have e:=prErr_bad s1 (by rw [g1]; exact k1)
   rw [e] at h1
   exact .inl ⟨(h1.bad (by decide)).2.2.2,fun h => k1 h.1⟩
set_option maxRecDepth 100000 in
theorem gParse_long (s : ByteArray) (w : World) (hs : 65536 < s.size) (hm : s.size <= 281474976710656) (L : Prop) (q1 q2 : Rat) : Calls Tryz.prog 213 #[.string s] w (GToldC w 3 L q1 q2):=by
 have HX:=hid (Box.made w 35 #[.bool false,.slice none 0 0,.slice none 0 0,.bool false,.slice none 0 0,.slice none 0 0])
 have HB:=hid (alloc_later w (.cells #[.bool false,.slice none 0 0,.slice none 0 0,.bool false,.slice none 0 0,.slice none 0 0] 35))
 obtain ⟨X,hX⟩ : ∃ X,w.alloc (.cells #[.bool false,.slice none 0 0,.slice none 0 0,.bool false,.slice none 0 0,.slice none 0 0] 35) = X:=⟨_,rfl⟩
 rw [hX] at HX HB
 have m0 : X.cell? ⟨w.heap.size,0,none⟩ = some (.bool false):=HX.out.cell 0
 have m1 : X.cell? ⟨w.heap.size,1,none⟩ = some (.slice none 0 0):=HX.out.cell 1
 have m2 : X.cell? ⟨w.heap.size,2,none⟩ = some (.slice none 0 0):=HX.out.cell 2
 have m3 : X.cell? ⟨w.heap.size,3,none⟩ = some (.bool false):=HX.out.cell 3
 have m4 : X.cell? ⟨w.heap.size,4,none⟩ = some (.slice none 0 0):=HX.out.cell 4
 have m5 : X.cell? ⟨w.heap.size,5,none⟩ = some (.slice none 0 0):=HX.out.cell 5
 have f0:=HX.out.free 0
 have f1:=HX.out.free 1
 have f2:=HX.out.free 2
 have f3:=HX.out.free 3
 have f4:=HX.out.free 4
 have f5:=HX.out.free 5
 have hs' : (65536 : Int) < (s.size : Int):=by omega
 clear hs
 go_enter Tryz.func213,Tryz.ntmps213
 go_wp2_with fail
 have B1:=box_put6 HX.out (.bool false) (.slice none 0 0) (.slice none 0 0) (.bool false) (.slice none 0 0) (.slice none 0 0)
 have G1:=below_put6 HB.out w.heap.size (Nat.le_refl _) (.bool false) (.slice none 0 0) (.slice none 0 0) (.bool false) (.slice none 0 0) (.slice none 0 0)
 clear m0 m1 m2 m3 m4 m5 f0 f1 f2 f3 f4 f5
 exact bodyPost_ret (gres_run (by rfl) B1 _ rfl) rfl (gtoldc_zero (E:=3) (.inl ⟨by decide,rfl⟩) G1)
set_option maxRecDepth 100000 in
theorem gParse_any (s : ByteArray) (w : World) (hm : s.size <= 281474976710656) : Calls Tryz.prog 213 #[.string s] w (GToldC w (gpE s) (gplong s.data.toList) (rpq (gp1 s.data.toList)) (rpq (gp2 s.data.toList))):=by
 by_cases hs : 65536 < s.size
 · rw [gpE_long hs]
   exact gParse_long s w hs hm _ _ _
 have HX:=hid (Box.made w 35 #[.bool false,.slice none 0 0,.slice none 0 0,.bool false,.slice none 0 0,.slice none 0 0])
 have HB:=hid (alloc_later w (.cells #[.bool false,.slice none 0 0,.slice none 0 0,.bool false,.slice none 0 0,.slice none 0 0] 35))
 obtain ⟨X,hX⟩ : ∃ X,w.alloc (.cells #[.bool false,.slice none 0 0,.slice none 0 0,.bool false,.slice none 0 0,.slice none 0 0] 35) = X:=⟨_,rfl⟩
 rw [hX] at HX HB
 have hs' : ¬ (65536 : Int) < (s.size : Int):=by omega
 have HC:=hid (zcut_any s 32 X hm)
 have hl : s.data.toList.length = s.size:=Array.length_toList
 have hz1 : (Lib.cut s.data.toList [32]).1.length <= 65536:=by have:=(zcut_len s.data.toList 32).1; omega
 have hz2 : (Lib.cut s.data.toList [32]).2.1.length <= 65536:=by have:=(zcut_len s.data.toList 32).2; omega
 have HEG : Hid (ggood s.data.toList -> gpE s = 0):=gpE_good (by omega)
 have HEB : Hid (¬ ggood s.data.toList -> gpE s = 140):=gpE_bad (by omega)
 have HGG : Hid (ggood s.data.toList ↔ (rgood (gp1 s.data.toList) /\ rgood (gp2 s.data.toList))):=Iff.rfl
 have HLL : Hid (gplong s.data.toList ↔ (rlong (rpq (gp1 s.data.toList)) \/ rlong (rpq (gp2 s.data.toList)))):=Iff.rfl
 have e1 : gp1 s.data.toList = (Lib.cut s.data.toList [32]).1:=rfl
 have e2 : gp2 s.data.toList = (Lib.cut s.data.toList [32]).2.1:=rfl
 rw [<- e1] at hz1 HC
 rw [<- e2] at hz2 HC
 clear e1 e2 hl hs
 generalize gp1 s.data.toList = l1 at *
 generalize gp2 s.data.toList = l2 at *
 generalize ggood s.data.toList = GG at *
 generalize gplong s.data.toList = GL at *
 generalize gpE s = E at *
 have H1 : Hid (∀ V,Calls Tryz.prog 166 #[.string ⟨l1.toArray⟩] V (RToldA V (prErr ⟨l1.toArray⟩) (rpq l1))):=fun V => rparse_any ⟨l1.toArray⟩ V (by show l1.toArray.size <= 65536; simpa using hz1)
 have H2 : Hid (∀ V,Calls Tryz.prog 166 #[.string ⟨l2.toArray⟩] V (RToldA V (prErr ⟨l2.toArray⟩) (rpq l2))):=fun V => rparse_any ⟨l2.toArray⟩ V (by show l2.toArray.size <= 65536; simpa using hz2)
 have HP : Hid (∀ {n m : Bool} {xs ys us vs : List Int} {c1 c2 : Int},RTells (prErr ⟨l1.toArray⟩) (rpq l1) n xs ys c1 -> RTells (prErr ⟨l2.toArray⟩) (rpq l2) m us vs c2 -> _):=fun h1 h2 => gpar_codes hz1 hz2 h1 h2
 generalize prErr ⟨l1.toArray⟩ = p1 at *
 generalize prErr ⟨l2.toArray⟩ = p2 at *
 generalize rpq l1 = q1 at *
 generalize rpq l2 = q2 at *
 generalize (rgood l1 /\ rgood l2) = GD at *
 generalize (Lib.cut s.data.toList [32]).2.2 = fnd at *
 generalize l1.toArray = A1 at *
 generalize l2.toArray = A2 at *
 clear hz1 hz2
 go_enter Tryz.func213,Tryz.ntmps213
 go_wp2_with fail
 refine Calls.mono HC.out ?_
 rintro e w1 ⟨rfl,hb1⟩
 have HW1:=hid (bt HB.out hb1)
 have HR1:=hid (HX.out.later hb1 HX.out.lt)
 clear hb1 HC
 go_wp2_with fail
 refine Calls.mono (H1.out _) ?_
 rintro x w2 ⟨n,v,xs,u,ys,code1,rfl,ov1,ou1,ht1,hb2,hcut1⟩
 obtain ⟨av1,cv1,rfl⟩:=own_slice' ov1
 obtain ⟨au1,cu1,rfl⟩:=own_slice' ou1
 have HW2:=hid (bt HW1.out hb2)
 have HR2:=hid (HR1.out.later hb2 HR1.out.lt)
 have HN:=hid (Box.made w2 24 #[.bool n,.slice av1 xs.length cv1,.slice au1 ys.length cu1])
 have HNB:=hid (alloc_later w2 (.cells #[.bool n,.slice av1 xs.length cv1,.slice au1 ys.length cu1] 24))
 obtain ⟨Z,hZ⟩ : ∃ Z,w2.alloc (.cells #[.bool n,.slice av1 xs.length cv1,.slice au1 ys.length cu1] 24) = Z:=⟨_,rfl⟩
 rw [hZ] at HN HNB
 have HV1:=hid ov1
 have HU1:=hid ou1
 have HT1:=hid ht1
 have HC1:=hid hcut1
 have h12 : w1.heap.size <= w2.heap.size:=hb2.size
 clear ov1 ou1 ht1 hcut1 hb2 H1
 go_wp2_with fail
 refine Calls.mono (H2.out _) ?_
 rintro x w3 ⟨m,v,us,u,vs,code2,rfl,ov2,ou2,ht2,hb3,hcut2⟩
 obtain ⟨av2,cv2,rfl⟩:=own_slice' ov2
 obtain ⟨au2,cu2,rfl⟩:=own_slice' ou2
 have HM:=hid (Box.made w3 24 #[.bool m,.slice av2 us.length cv2,.slice au2 vs.length cu2])
 have HMB:=hid (alloc_later w3 (.cells #[.bool m,.slice av2 us.length cv2,.slice au2 vs.length cu2] 24))
 obtain ⟨Q,hQ⟩ : ∃ Q,w3.alloc (.cells #[.bool m,.slice av2 us.length cv2,.slice au2 vs.length cu2] 24) = Q:=⟨_,rfl⟩
 rw [hQ] at HM HMB
 have hb2Q : Below w2.heap.size w2 Q:=bt HNB.out (bt hb3 HMB.out)
 have HW3:=hid (bt HW2.out hb2Q)
 have HR3:=hid (HR2.out.later hb2Q HR2.out.lt)
 have HN3:=hid (HN.out.later (bt hb3 HMB.out) HN.out.lt)
 have HOO:=hid (And.intro (owns_later HV1.out hb2Q) (And.intro (owns_later HU1.out hb2Q) (And.intro (owns_later ov2 HMB.out) (owns_later ou2 HMB.out))))
 have HC2 : Hid (Cut w2 (.slice av2 us.length cv2) (.slice au2 vs.length cu2) Q):=hcut2.up HNB.out.size HMB.out.size
 have HTT:=hid (HP.out HT1.out ht2)
 have HWD:=hid (And.intro HT1.out.wx (And.intro HT1.out.wy (And.intro ht2.wx ht2.wy)))
 have hsz1 : w.heap.size <= w1.heap.size:=HW1.out.size
 have hszZ : w2.heap.size <= Z.heap.size:=HNB.out.size
 clear ov2 ou2 ht2 hcut2 H2 HP hb2Q hb3 HT1
 have m0 : Q.cell? ⟨w.heap.size,0,none⟩ = some (.bool false):=HR3.out.cell 0
 have m1 : Q.cell? ⟨w.heap.size,1,none⟩ = some (.slice none 0 0):=HR3.out.cell 1
 have m2 : Q.cell? ⟨w.heap.size,2,none⟩ = some (.slice none 0 0):=HR3.out.cell 2
 have m3 : Q.cell? ⟨w.heap.size,3,none⟩ = some (.bool false):=HR3.out.cell 3
 have m4 : Q.cell? ⟨w.heap.size,4,none⟩ = some (.slice none 0 0):=HR3.out.cell 4
 have m5 : Q.cell? ⟨w.heap.size,5,none⟩ = some (.slice none 0 0):=HR3.out.cell 5
 have f0:=HR3.out.free 0
 have f1:=HR3.out.free 1
 have f2:=HR3.out.free 2
 have f3:=HR3.out.free 3
 have f4:=HR3.out.free 4
 have f5:=HR3.out.free 5
 rcases HTT.out with ⟨rfl,hg⟩ | ⟨d1,rfl,hg⟩ | ⟨hg,rfl,d2,hL⟩ | ⟨hg,rfl,rfl,hL⟩ | ⟨hg,rfl,rfl,hL,hk⟩
 · have HE:=hid (HEB.out (fun h => hg (HGG.out.1 h)))
   clear HTT
   go_wp2_with fail
   have B1:=box_put6 HR3.out (.bool false) (.slice none 0 0) (.slice none 0 0) (.bool false) (.slice none 0 0) (.slice none 0 0)
   have G1:=below_put6 HW3.out w.heap.size (Nat.le_refl _) (.bool false) (.slice none 0 0) (.slice none 0 0) (.bool false) (.slice none 0 0) (.slice none 0 0)
   clear m0 m1 m2 m3 m4 m5 f0 f1 f2 f3 f4 f5
   exact bodyPost_ret (gres_run (by rfl) B1 _ rfl) rfl (gtoldc_zero (E:=E) (.inl ⟨by rw [HE.out]; decide,HE.out.symm⟩) G1)
 · have HE:=hid (HEB.out (fun h => hg (HGG.out.1 h)))
   have d1' : (code1 == 130) = false:=by simp [d1]
   clear d1
   clear HTT
   go_wp2_with fail
   have B1:=box_put6 HR3.out (.bool false) (.slice none 0 0) (.slice none 0 0) (.bool false) (.slice none 0 0) (.slice none 0 0)
   have G1:=below_put6 HW3.out w.heap.size (Nat.le_refl _) (.bool false) (.slice none 0 0) (.slice none 0 0) (.bool false) (.slice none 0 0) (.slice none 0 0)
   clear m0 m1 m2 m3 m4 m5 f0 f1 f2 f3 f4 f5
   exact bodyPost_ret (gres_run (by rfl) B1 _ rfl) rfl (gtoldc_zero (E:=E) (.inl ⟨by rw [HE.out]; decide,HE.out.symm⟩) G1)
 · have HE:=hid (HEG.out (HGG.out.2 hg))
   have d2' : (code2 == 130) = false:=by simp [d2]
   have HLo:=hid (HLL.out.2 hL)
   clear d2 hL hg
   clear HTT
   go_wp2_with fail
   have B1:=box_put6 HR3.out (.bool false) (.slice none 0 0) (.slice none 0 0) (.bool false) (.slice none 0 0) (.slice none 0 0)
   have G1:=below_put6 HW3.out w.heap.size (Nat.le_refl _) (.bool false) (.slice none 0 0) (.slice none 0 0) (.bool false) (.slice none 0 0) (.slice none 0 0)
   clear m0 m1 m2 m3 m4 m5 f0 f1 f2 f3 f4 f5
   exact bodyPost_ret (gres_run (by rfl) B1 _ rfl) rfl (gtoldc_zero (E:=E) (.inr ⟨HE.out,HLo.out,rfl⟩) G1)
 · have HE:=hid (HEG.out (HGG.out.2 hg))
   have HLo:=hid (HLL.out.2 hL)
   clear hL hg
   clear HTT
   go_wp2_with fail
   have B1:=box_put6 HR3.out (.bool false) (.slice none 0 0) (.slice none 0 0) (.bool false) (.slice none 0 0) (.slice none 0 0)
   have G1:=below_put6 HW3.out w.heap.size (Nat.le_refl _) (.bool false) (.slice none 0 0) (.slice none 0 0) (.bool false) (.slice none 0 0) (.slice none 0 0)
   clear m0 m1 m2 m3 m4 m5 f0 f1 f2 f3 f4 f5
   exact bodyPost_ret (gres_run (by rfl) B1 _ rfl) rfl (gtoldc_zero (E:=E) (.inr ⟨HE.out,HLo.out,rfl⟩) G1)
 · have HE:=hid (HEG.out (HGG.out.2 hg))
   have HLo:=hid (fun h => hL (HLL.out.1 h))
   have HKK:=hid hk
   have ka0 : Q.cell? ⟨w2.heap.size,0,none⟩ = some (.bool n):=HN3.out.cell 0
   have ka1 : Q.cell? ⟨w2.heap.size,1,none⟩ = some (.slice av1 xs.length cv1):=HN3.out.cell 1
   have ka2 : Q.cell? ⟨w2.heap.size,2,none⟩ = some (.slice au1 ys.length cu1):=HN3.out.cell 2
   have kb0 : Q.cell? ⟨w3.heap.size,0,none⟩ = some (.bool m):=HM.out.cell 0
   have kb1 : Q.cell? ⟨w3.heap.size,1,none⟩ = some (.slice av2 us.length cv2):=HM.out.cell 1
   have kb2 : Q.cell? ⟨w3.heap.size,2,none⟩ = some (.slice au2 vs.length cu2):=HM.out.cell 2
   clear HTT hL hk hg
   go_wp2_with fail
   have B1:=box_put6 HR3.out (.bool n) (.slice av1 xs.length cv1) (.slice au1 ys.length cu1) (.bool m) (.slice av2 us.length cv2) (.slice au2 vs.length cu2)
   have G1:=below_put6 HW3.out w.heap.size (Nat.le_refl _) (.bool n) (.slice av1 xs.length cv1) (.slice au1 ys.length cu1) (.bool m) (.slice av2 us.length cv2) (.slice au2 vs.length cu2)
   have hwX : w.heap.size < X.heap.size:=HX.out.lt
   have hX1 : w.heap.size < w1.heap.size:=HR1.out.lt
   have hput : ∀ {base k : Nat} {v : Value} {l : List Value},Q.ownsRow base 69 1 v k l -> (∀ g,v.ownBlock = some g -> w1.heap.size <= g) -> ((((((Q.setCell ⟨w.heap.size,0,none⟩ (.bool n)).setCell ⟨w.heap.size,1,none⟩ (.slice av1 xs.length cv1)).setCell ⟨w.heap.size,2,none⟩ (.slice au1 ys.length cu1)).setCell ⟨w.heap.size,3,none⟩ (.bool m)).setCell ⟨w.heap.size,4,none⟩ (.slice av2 us.length cv2)).setCell ⟨w.heap.size,5,none⟩ (.slice au2 vs.length cu2)).ownsRow base 69 1 v k l:=fun h hb => own_put6 h _ (fun g hg => by have:=hb g hg; omega) _ _ _ _ _ _
   clear m0 m1 m2 m3 m4 m5 f0 f1 f2 f3 f4 f5
   refine bodyPost_ret (gres_run (by rfl) B1 _ rfl) rfl ?_
   have hszQ : w.heap.size <= Z.heap.size:=by omega
   refine ⟨n,av1,cv1,xs,au1,cu1,ys,m,av2,cv2,us,au2,cu2,vs,0,rfl,⟨owns_base (hput HOO.out.1 (fun g hg => (HOO.out.1.lt g hg).1)) hsz1,owns_base (hput HOO.out.2.1 (fun g hg => (HOO.out.2.1.lt g hg).1)) hsz1,owns_base (hput HOO.out.2.2.1 (fun g hg => by have:=(HOO.out.2.2.1.lt g hg).1; omega)) hszQ,owns_base (hput HOO.out.2.2.2 (fun g hg => by have:=(HOO.out.2.2.2.lt g hg).1; omega)) hszQ⟩,⟨HWD.out,fun h => absurd HE.out h,fun _ h => absurd h HLo.out,fun _ _ => ⟨rfl,HKK.out⟩⟩,G1,w2,HC1.out.up hsz1 (Nat.le_refl _),HC2.out.up (Nat.le_refl _) (by simp [World.setCell])⟩
def ErrT (w : World) : Prop:=(∃ te pe,w.cell? ⟨4,0,none⟩ = some (.iface te pe)) /\ (∃ te pe,w.cell? ⟨5,0,none⟩ = some (.iface te pe))
theorem zcell_lt {w : World} {b j : Nat} {v : Value} (h : w.cell? ⟨b,j,none⟩ = some v) : b < w.heap.size:=by
 rcases Nat.lt_or_ge b w.heap.size with h' | h'
 · exact h'
 · unfold World.cell? at h
   rw [Array.getElem?_eq_none h'] at h
   simp at h
theorem ErrT.later {w w' : World} (h : ErrT w) (hb : Below w.heap.size w w') : ErrT w':=by
 obtain ⟨⟨a,b,h1⟩,c,d,h2⟩:=h
 exact ⟨⟨a,b,(hb.cell (p:=⟨_,0,none⟩) (zcell_lt h1)).trans h1⟩,c,d,(hb.cell (p:=⟨_,0,none⟩) (zcell_lt h2)).trans h2⟩
theorem zbytes_app (a b : List UInt8) : ((⟨a.toArray⟩ : ByteArray) ++ (⟨b.toArray⟩ : ByteArray)) = ⟨(a ++ b).toArray⟩:=by
 apply ByteArray.ext
 rw [ByteArray.data_append]
 simp
theorem zstr_other {s t : ByteArray} (h : ¬ s = t) : (s.toList == t.toList) = false:=by
 apply beq_eq_false_iff_ne.2
 intro e
 rw [Lib.toList_data,Lib.toList_data] at e
 exact h (ByteArray.ext (Array.toList_inj.1 e))
theorem zitoa_len (n : Int) (h0 : -2147483648 <= n) (h1 : n <= 2147483647) : (itoa n).length <= 21:=by
 unfold itoa
 split
 · rw [List.length_cons,decDigits_length]
   have:=nDigits_le20 n.natAbs (by omega)
   omega
 · rw [decDigits_length]
   have:=nDigits_le20 n.toNat (by omega)
   omega
theorem zitoa_any (n : Int) (w : World) (h0 : -9223372036854775808 <= n) (h1 : n <= 9223372036854775807) (htab : Tab w) :
 Calls Tryz.prog 192 #[.int .i64 n] w fun e w' => e = .returned (.string ⟨(itoa n).toArray⟩) /\ Below w.heap.size w w':=by
 refine Calls.mono (Tryz.strconv_Itoa n h0 h1 w htab) ?_
 rintro e w' ⟨rfl,k,os,rfl⟩
 refine ⟨rfl,rfl,rfl,rfl,?_,fun b hb => ?_⟩
 · show w.heap.size <= (w.heap ++ os).size
   rw [Array.size_append]; omega
 · show (w.heap ++ os)[b]? = w.heap[b]?
   rw [Array.getElem?_append_left hb]
set_option maxRecDepth 100000 in
theorem tdecimal_any (n : Int) (w : World) (h0 : -2147483648 <= n) (h1 : n <= 2147483647) (htab : Tab w) :
 Calls Tryz.prog 145 #[.int .i32 n] w fun e w' => e = .returned (.string ⟨(itoa n).toArray⟩) /\ Below w.heap.size w w':=by
 have HI:=hid (zitoa_any n w (by omega) (by omega) htab)
 have hw : IntKind.i64.wrap n = n:=by rw [IntKind.wrap_i64]; omega
 clear htab
 go_enter Tryz.func145,Tryz.ntmps145
 go_wp2_with fail
 refine Calls.mono HI.out ?_
 rintro e w1 ⟨rfl,hb⟩
 go_wp2_with fail
 go_ret
 exact ⟨rfl,hb⟩
def tnumOk (l : List UInt8) : Bool:=decide (l.length <= 5) && (match atoiAll l with | .ok v => decide (itoa v = l) | _ => false)
def tnumV (l : List UInt8) : Int:=if tnumOk l = true then (match atoiAll l with | .ok v => v | _ => 0) else 0
theorem itoa_small {v : Int} (h : (itoa v).length <= 5) : -99999 <= v /\ v <= 99999:=by
 unfold itoa at h
 by_cases hv : v < 0
 · rw [if_pos hv,List.length_cons,decDigits_length] at h
   have h1:=lt_pow_nDigits v.natAbs
   have h2 : (10 : Nat) ^ nDigits v.natAbs <= 10 ^ 5:=Nat.pow_le_pow_right (by decide) (by omega)
   omega
 · rw [if_neg hv,decDigits_length] at h
   have h1:=lt_pow_nDigits v.toNat
   have h2 : (10 : Nat) ^ nDigits v.toNat <= 10 ^ 5:=Nat.pow_le_pow_right (by decide) (by omega)
   omega
theorem tnumV_in (l : List UInt8) : -99999 <= tnumV l /\ tnumV l <= 99999:=by
 unfold tnumV
 by_cases h : tnumOk l = true
 · rw [if_pos h]
   unfold tnumOk at h
   cases hp : atoiAll l with
   | ok v =>
    rw [hp] at h
    simp at h
    simp only
    exact itoa_small (by rw [h.2]; exact h.1)
   | «syntax» => simp
   | range => simp
 · rw [if_neg h]; decide
set_option maxRecDepth 100000 in
theorem treadNumber_any (s : ByteArray) (w : World) (hs : s.size <= 65536) (htab : Tab w) (herr : ErrT w) :
 Calls Tryz.prog 247 #[.string s] w fun e w' => e = .returned (.tuple #[.int .i32 (tnumV s.data.toList),.bool (tnumOk s.data.toList)]) /\ Below w.heap.size w w':=by
 have hl : s.data.toList.length = s.size:=Array.length_toList
 by_cases h5 : 5 < (s.size : Int)
 · have e1 : tnumOk s.data.toList = false:=by unfold tnumOk; rw [decide_eq_false (by omega)]; rfl
   have e2 : tnumV s.data.toList = 0:=by unfold tnumV; rw [if_neg (by rw [e1]; decide)]
   rw [e1,e2]
   clear hl e1 e2
   go_enter Tryz.func247,Tryz.ntmps247
   go_wp2_with fail
   go_ret2
   exact ⟨rfl,Below.refl _ _⟩
 obtain ⟨⟨te,pe,h1⟩,te2,pe2,h2⟩:=herr
 have HT:=hid htab
 clear htab
 cases hp : atoiAll s.data.toList with
 | ok v =>
  have HC:=hid (Tryz.strconv_Atoi_ok s (by omega) v hp w)
  have hvb:=atoiAll_bounds hp
  have HI : Hid (∀ V,Below w.heap.size w V -> Calls Tryz.prog 192 #[.int .i64 v] V fun e w' => e = .returned (.string ⟨(itoa v).toArray⟩) /\ Below V.heap.size V w'):=fun V hv => zitoa_any v V hvb.1 hvb.2 (HT.out.later hv)
  by_cases hi : (⟨(itoa v).toArray⟩ : ByteArray) = s
  · have hi2 : itoa v = s.data.toList:=by rw [<- hi]
    have e1 : tnumOk s.data.toList = true:=by unfold tnumOk; rw [decide_eq_true (by omega),hp]; simp [hi2]
    have e2 : tnumV s.data.toList = v:=by unfold tnumV; rw [if_pos e1,hp]
    have e3:=tnumV_in s.data.toList
    rw [e1,e2]
    rw [e2] at e3
    have hw : IntKind.i32.wrap v = v:=by rw [IntKind.wrap_i32]; omega
    rw [hi] at HI
    clear e1 e2 e3 hi hi2 hp hl h1 h2 hvb
    go_enter Tryz.func247,Tryz.ntmps247
    go_wp2_with fail
    refine Calls.mono HC.out ?_
    rintro e w1 ⟨rfl,hw1⟩
    have HB : Hid (Below w.heap.size w w1):=by
     rcases hw1 with rfl | ⟨t,rfl⟩
     · exact Below.refl _ _
     · exact Lib.bytesWorld_below w _ t
    clear hw1
    go_wp2_with fail
    refine Calls.mono (HI.out _ HB.out) ?_
    rintro e w2 ⟨rfl,hb2⟩
    have HB2:=hid (bt HB.out hb2)
    clear hb2
    go_wp2_with fail
    go_ret2
    exact ⟨rfl,HB2.out⟩
  · have e1 : tnumOk s.data.toList = false:=by
     unfold tnumOk
     rw [hp]
     have : ¬ itoa v = s.data.toList:=fun e => hi (by rw [e])
     simp [this]
    have e2 : tnumV s.data.toList = 0:=by unfold tnumV; rw [if_neg (by rw [e1]; decide)]
    rw [e1,e2]
    have hne:=zstr_other hi
    clear e1 e2 hi hp hl h1 h2 hvb
    generalize (⟨(itoa v).toArray⟩ : ByteArray) = IT at *
    go_enter Tryz.func247,Tryz.ntmps247
    go_wp2_with fail
    refine Calls.mono HC.out ?_
    rintro e w1 ⟨rfl,hw1⟩
    have HB : Hid (Below w.heap.size w w1):=by
     rcases hw1 with rfl | ⟨t,rfl⟩
     · exact Below.refl _ _
     · exact Lib.bytesWorld_below w _ t
    clear hw1
    go_wp2_with fail
    refine Calls.mono (HI.out _ HB.out) ?_
    rintro e w2 ⟨rfl,hb2⟩
    have HB2:=hid (bt HB.out hb2)
    clear hb2
    go_wp2_with fail
    go_ret2
    exact ⟨rfl,HB2.out⟩
 | «syntax» =>
  have e1 : tnumOk s.data.toList = false:=by unfold tnumOk; rw [hp]; simp
  have e2 : tnumV s.data.toList = 0:=by unfold tnumV; rw [if_neg (by rw [e1]; decide)]
  rw [e1,e2]
  have HC:=hid (Tryz.strconv_Atoi_syntax s (by omega) hp _ w h1 (.inr ⟨te,pe,rfl⟩))
  clear hp hl e1 e2
  go_enter Tryz.func247,Tryz.ntmps247
  go_wp2_with fail
  refine Calls.mono HC.out ?_
  rintro e w1 ⟨N,rfl,hN,_,hb⟩
  go_wp2_with fail
  go_ret2
  exact ⟨rfl,hb⟩
 | range =>
  have e1 : tnumOk s.data.toList = false:=by unfold tnumOk; rw [hp]; simp
  have e2 : tnumV s.data.toList = 0:=by unfold tnumV; rw [if_neg (by rw [e1]; decide)]
  rw [e1,e2]
  have HC:=hid (Tryz.strconv_Atoi_range s (by omega) hp _ w h2 (.inr ⟨te2,pe2,rfl⟩))
  clear hp hl e1 e2
  go_enter Tryz.func247,Tryz.ntmps247
  go_wp2_with fail
  refine Calls.mono HC.out ?_
  rintro e w1 ⟨N,rfl,hN,_,hb⟩
  go_wp2_with fail
  go_ret2
  exact ⟨rfl,hb⟩
set_option maxRecDepth 100000 in
theorem treadRotor_any (s t : ByteArray) (w : World) (hs : s.size <= 65536) (ht : t.size <= 65536) (htab : Tab w) (herr : ErrT w) :
 Calls Tryz.prog 212 #[.string s,.string t] w fun e w' => e = .returned (.tuple #[.agg #[.int .i32 (tnumV s.data.toList),.int .i32 (tnumV t.data.toList)],.bool (tnumOk s.data.toList && tnumOk t.data.toList)]) /\ Below w.heap.size w w':=by
 have HX:=hid (boxes1 w 33 #[.int .i32 0,.int .i32 0])
 have H1:=hid (treadNumber_any s (w.alloc (.cells #[.int .i32 0,.int .i32 0] 33)) hs (htab.later HX.out.2) (herr.later HX.out.2))
 have H2 : Hid (∀ V,Below w.heap.size w V -> Calls Tryz.prog 247 #[.string t] V fun e w' => e = .returned (.tuple #[.int .i32 (tnumV t.data.toList),.bool (tnumOk t.data.toList)]) /\ Below V.heap.size V w'):=fun V hv => treadNumber_any t V ht (htab.later hv) (herr.later hv)
 generalize tnumV s.data.toList = A at *
 generalize tnumV t.data.toList = B at *
 generalize tnumOk s.data.toList = P at *
 generalize tnumOk t.data.toList = Q at *
 clear htab herr
 cases P <;> cases Q
 all_goals
  go_enter Tryz.func212,Tryz.ntmps212
  go_wp2_with fail
  generalize w.alloc (.cells #[.int .i32 0,.int .i32 0] 33) = X at *
  refine Calls.mono H1.out ?_
  rintro e w1 ⟨rfl,hb1⟩
  have HB1:=hid (bt HX.out.2 hb1)
  have HX1:=hid (HX.out.1.later hb1 HX.out.1.lt)
  clear hb1 H1
  go_wp2_with fail
  refine Calls.mono (H2.out _ HB1.out) ?_
  rintro e w2 ⟨rfl,hb2⟩
  have HB2:=hid (bt HB1.out hb2)
  have HX2:=hid (HX1.out.later hb2 HX1.out.lt)
  clear hb2 H2
  obtain ⟨c0,c1,g0,g1⟩:=fbox_facts HX2.out (Below.refl _ _)
  go_wp2_with fail
  refine bodyPost_ret (v:=.tuple #[.agg #[.int .i32 A,.int .i32 B],.bool _]) (by simp [results,Tryz.results212,go_sem,c0,c1]; rfl) rfl ?_
  exact ⟨rfl,fput2 HB2.out _ (by omega) _ _⟩
def ttext (l : List UInt8) (f r : Int) (g : List UInt8) : List UInt8:=l ++ 32 :: (itoa f ++ 32 :: (itoa r ++ 32 :: g))
def tpErr (E : Int) (l : List UInt8) (f r : Int) (G : Int) (g : List UInt8) : Int:=if E ≠ 0 then E else if G ≠ 0 then G else if 65536 < (ttext l f r g).length then 3 else 0
theorem tpErr_chk {E : Int} {l : List UInt8} {f r G : Int} {g : List UInt8} (h : E ≠ 0) : tpErr E l f r G g = E:=by unfold tpErr; rw [if_pos h]
theorem tpErr_num {E : Int} {l : List UInt8} {f r G : Int} {g : List UInt8} (h : E = 0) (h2 : G ≠ 0) : tpErr E l f r G g = G:=by unfold tpErr; rw [if_neg (by simp [h]),if_pos h2]
theorem tpErr_long {E : Int} {l : List UInt8} {f r G : Int} {g : List UInt8} (h : E = 0) (h2 : G = 0) (h3 : 65536 < (ttext l f r g).length) : tpErr E l f r G g = 3:=by unfold tpErr; rw [if_neg (by simp [h]),if_neg (by simp [h2]),if_pos h3]
theorem tpErr_ok {E : Int} {l : List UInt8} {f r G : Int} {g : List UInt8} (h : E = 0) (h2 : G = 0) (h3 : ¬ 65536 < (ttext l f r g).length) : tpErr E l f r G g = 0:=by unfold tpErr; rw [if_neg (by simp [h]),if_neg (by simp [h2]),if_neg h3]
theorem tsum_text (s : ByteArray) (f r : Int) (U : ByteArray) : s ++ (⟨#[32]⟩ : ByteArray) ++ (⟨(itoa f).toArray⟩ : ByteArray) ++ (⟨#[32]⟩ : ByteArray) ++ (⟨(itoa r).toArray⟩ : ByteArray) ++ (⟨#[32]⟩ : ByteArray) ++ U = ⟨(ttext s.data.toList f r U.data.toList).toArray⟩:=by
 have e : ∀ x : ByteArray,x = ⟨x.data.toList.toArray⟩:=fun x => by simp
 rw [e s,e U,show (⟨#[32]⟩ : ByteArray) = ⟨([32] : List UInt8).toArray⟩ from rfl,zbytes_app,zbytes_app,zbytes_app,zbytes_app,zbytes_app,zbytes_app]
 unfold ttext
 simp
theorem tname_ok {l : List UInt8} (h : tname l = true) : 1 <= l.length /\ l.length <= 20:=by
 unfold tname at h
 simp at h
 exact ⟨h.1.1.1,h.1.1.2⟩
theorem tchk_ok {l : List UInt8} {f n g : Int} (h : tchk l f n g = 0) : tname l = true /\ ochk f n = 0 /\ g = 0:=by
 unfold tchk at h
 by_cases hn : tname l = true
 · rw [if_pos hn] at h
   unfold fstE at h
   by_cases ho : ochk f n = 0
   · rw [if_pos ho] at h; exact ⟨hn,ho,h⟩
   · rw [if_neg ho] at h; exact absurd h ho
 · rw [if_neg hn] at h; exact absurd h (by decide)
set_option maxRecDepth 100000 in
theorem tPrint_any (s : ByteArray) (f r : Int) (n : Bool) (a : Option Addr) (ca : Nat) (xs : List Int) (b : Option Addr) (cb : Nat) (ys : List Int) (m : Bool) (c : Option Addr) (cc : Nat) (us : List Int) (d : Option Addr) (cd : Nat) (vs : List Int) (w : World) (hz : s.size <= 9223372036854775807) (hr : in32 f r) (sx : Sl w (.slice a xs.length ca) xs) (sy : Sl w (.slice b ys.length cb) ys) (su : Sl w (.slice c us.length cc) us) (sv : Sl w (.slice d vs.length cd) vs) (htab : Tab w) :
 Calls Tryz.prog 89 #[.agg #[.string s,.int .i32 f,.int .i32 r,.bool n,.slice a xs.length ca,.slice b ys.length cb,.bool m,.slice c us.length cc,.slice d vs.length cd]] w fun x w' => ∃ S : ByteArray,x = .returned (.tuple #[.string S,.int .i64 (tpErr (tchk s.data.toList f r (gchk n xs ys m us vs)) s.data.toList f r (gpErr n xs ys m us vs) (gtext n xs ys m us vs))]) /\ (tpErr (tchk s.data.toList f r (gchk n xs ys m us vs)) s.data.toList f r (gpErr n xs ys m us vs) (gtext n xs ys m us vs) = 0 -> S.data.toList = ttext s.data.toList f r (gtext n xs ys m us vs)) /\ (tpErr (tchk s.data.toList f r (gchk n xs ys m us vs)) s.data.toList f r (gpErr n xs ys m us vs) (gtext n xs ys m us vs) ≠ 0 -> S = ⟨#[]⟩) /\ Below w.heap.size w w':=by
 have HX:=hid (Box.made w 37 #[.string s,.int .i32 f,.int .i32 r,.bool n,.slice a xs.length ca,.slice b ys.length cb,.bool m,.slice c us.length cc,.slice d vs.length cd])
 have HB:=hid (alloc_later w (.cells #[.string s,.int .i32 f,.int .i32 r,.bool n,.slice a xs.length ca,.slice b ys.length cb,.bool m,.slice c us.length cc,.slice d vs.length cd] 37))
 obtain ⟨X,hX⟩ : ∃ X,w.alloc (.cells #[.string s,.int .i32 f,.int .i32 r,.bool n,.slice a xs.length ca,.slice b ys.length cb,.bool m,.slice c us.length cc,.slice d vs.length cd] 37) = X:=⟨_,rfl⟩
 rw [hX] at HX HB
 have HC:=hid (tCheck_any s f r n a ca xs b cb ys m c cc us d cd vs X hz hr (sx.later HB.out) (sy.later HB.out) (su.later HB.out) (sv.later HB.out))
 have HP : Hid (∀ V,Below w.heap.size w V -> Calls Tryz.prog 144 #[.agg #[.bool n,.slice a xs.length ca,.slice b ys.length cb,.bool m,.slice c us.length cc,.slice d vs.length cd]] V fun x w' => ∃ S : ByteArray,x = .returned (.tuple #[.string S,.int .i64 (gpErr n xs ys m us vs)]) /\ (gpErr n xs ys m us vs = 0 -> S.data.toList = gtext n xs ys m us vs) /\ (gpErr n xs ys m us vs ≠ 0 -> S = ⟨#[]⟩) /\ Below V.heap.size V w'):=fun V hv => gPrint_any n a ca xs b cb ys m c cc us d cd vs V (sx.later hv) (sy.later hv) (su.later hv) (sv.later hv) (htab.later hv)
 have HD : Hid (∀ z,-2147483648 <= z -> z <= 2147483647 -> ∀ V,Below w.heap.size w V -> Calls Tryz.prog 145 #[.int .i32 z] V fun e w' => e = .returned (.string ⟨(itoa z).toArray⟩) /\ Below V.heap.size V w'):=fun z z0 z1 V hv => tdecimal_any z V z0 z1 (htab.later hv)
 have D1:=hid (HD.out f hr.1.1 hr.1.2)
 have D2:=hid (HD.out r hr.2.1 hr.2.2)
 have lf:=zitoa_len f hr.1.1 hr.1.2
 have lr:=zitoa_len r hr.2.1 hr.2.2
 have hls : s.data.toList.length = s.size:=Array.length_toList
 have HTC : Hid (tchk s.data.toList f r (gchk n xs ys m us vs) = 0 -> s.size <= 20):=fun h => by have:=tname_ok (tchk_ok h).1; omega
 have HGL : Hid (gpErr n xs ys m us vs = 0 -> (gtext n xs ys m us vs).length <= 65536):=fun h => by
  unfold gpErr at h
  by_cases hg : gchk n xs ys m us vs = 0
  · rw [hg,fstE_zero] at h
    by_cases hl : 65536 < (gtext n xs ys m us vs).length
    · rw [if_pos hl] at h; exact absurd h (by decide)
    · omega
  · rw [fstE_err _ hg] at h; exact absurd h hg
 generalize gtext n xs ys m us vs = GT at *
 generalize gpErr n xs ys m us vs = GE at *
 generalize tchk s.data.toList f r (gchk n xs ys m us vs) = TC at *
 have HE1 : Hid (TC ≠ 0 -> tpErr TC s.data.toList f r GE GT = TC):=tpErr_chk
 have HE2 : Hid (TC = 0 -> GE ≠ 0 -> tpErr TC s.data.toList f r GE GT = GE):=tpErr_num
 have HE3 : Hid (TC = 0 -> GE = 0 -> 65536 < (ttext s.data.toList f r GT).length -> tpErr TC s.data.toList f r GE GT = 3):=tpErr_long
 have HE4 : Hid (TC = 0 -> GE = 0 -> ¬ 65536 < (ttext s.data.toList f r GT).length -> tpErr TC s.data.toList f r GE GT = 0):=tpErr_ok
 have HTX : Hid (∀ U : ByteArray,U.data.toList = GT -> s ++ (⟨#[32]⟩ : ByteArray) ++ (⟨(itoa f).toArray⟩ : ByteArray) ++ (⟨#[32]⟩ : ByteArray) ++ (⟨(itoa r).toArray⟩ : ByteArray) ++ (⟨#[32]⟩ : ByteArray) ++ U = ⟨(ttext s.data.toList f r GT).toArray⟩):=fun U hU => by rw [tsum_text,hU]
 have HTL : Hid (∀ U : ByteArray,U.data.toList = GT -> (ttext s.data.toList f r GT).length = s.size + 1 + (itoa f).length + 1 + (itoa r).length + 1 + U.size):=fun U hU => by
  have hu : U.data.toList.length = U.size:=Array.length_toList
  unfold ttext
  rw [<- hU]
  simp only [List.length_append,List.length_cons]
  omega
 generalize tpErr TC s.data.toList f r GE GT = TE at *
 generalize ttext s.data.toList f r GT = TT at *
 clear sx sy su sv htab hr HD hls
 have k0 : X.cell? ⟨w.heap.size,0,none⟩ = some (.string s):=HX.out.cell 0
 have k1 : X.cell? ⟨w.heap.size,1,none⟩ = some (.int .i32 f):=HX.out.cell 1
 have k2 : X.cell? ⟨w.heap.size,2,none⟩ = some (.int .i32 r):=HX.out.cell 2
 have k3 : X.cell? ⟨w.heap.size,3,none⟩ = some (.bool n):=HX.out.cell 3
 have k4 : X.cell? ⟨w.heap.size,4,none⟩ = some (.slice a xs.length ca):=HX.out.cell 4
 have k5 : X.cell? ⟨w.heap.size,5,none⟩ = some (.slice b ys.length cb):=HX.out.cell 5
 have k6 : X.cell? ⟨w.heap.size,6,none⟩ = some (.bool m):=HX.out.cell 6
 have k7 : X.cell? ⟨w.heap.size,7,none⟩ = some (.slice c us.length cc):=HX.out.cell 7
 have k8 : X.cell? ⟨w.heap.size,8,none⟩ = some (.slice d vs.length cd):=HX.out.cell 8
 go_enter Tryz.func89,Tryz.ntmps89
 go_wp2_with fail
 refine Calls.mono HC.out ?_
 rintro e w1 ⟨rfl,hb1⟩
 have HW1:=hid (bt HB.out hb1)
 have HX1:=hid (HX.out.later hb1 HX.out.lt)
 clear hb1 HC k0 k1 k2 k3 k4 k5 k6 k7 k8 HX HB hX
 by_cases hTC : TC = 0
 · have hsz:=HTC.out hTC
   have HZ1:=hid hTC
   subst hTC
   have k3 : w1.cell? ⟨w.heap.size,3,none⟩ = some (.bool n):=HX1.out.cell 3
   have k4 : w1.cell? ⟨w.heap.size,4,none⟩ = some (.slice a xs.length ca):=HX1.out.cell 4
   have k5 : w1.cell? ⟨w.heap.size,5,none⟩ = some (.slice b ys.length cb):=HX1.out.cell 5
   have k6 : w1.cell? ⟨w.heap.size,6,none⟩ = some (.bool m):=HX1.out.cell 6
   have k7 : w1.cell? ⟨w.heap.size,7,none⟩ = some (.slice c us.length cc):=HX1.out.cell 7
   have k8 : w1.cell? ⟨w.heap.size,8,none⟩ = some (.slice d vs.length cd):=HX1.out.cell 8
   go_wp2_with fail
   refine Calls.mono (HP.out _ HW1.out) ?_
   rintro x w2 ⟨U,rfl,hU,_,hb2⟩
   have HW2:=hid (bt HW1.out hb2)
   have HX2:=hid (HX1.out.later hb2 HX1.out.lt)
   have HU:=hid hU
   clear hU hb2 k3 k4 k5 k6 k7 k8
   by_cases hGE : GE = 0
   · have hU2:=HU.out hGE
     have hGL:=HGL.out hGE
     have hUl : U.size <= 65536:=by
      have e1 : U.data.toList.length = U.size:=Array.length_toList
      rw [hU2] at e1; omega
     have HT:=hid (HTX.out U hU2)
     have hTL:=HTL.out U hU2
     have HGZ:=hid hGE
     subst hGE
     clear hU2 hGL HU HTX HTL HGL HTC
     have hm1 : ¬ 9223372036854775807 < s.size + 1:=by omega
     have hm2 : ¬ 9223372036854775807 < s.size + 1 + (itoa f).length:=by omega
     have hm3 : ¬ 9223372036854775807 < s.size + 1 + (itoa f).length + 1:=by omega
     have hm4 : ¬ 9223372036854775807 < s.size + 1 + (itoa f).length + 1 + (itoa r).length:=by omega
     have hm5 : ¬ 9223372036854775807 < s.size + 1 + (itoa f).length + 1 + (itoa r).length + 1:=by omega
     have hm6 : ¬ 9223372036854775807 < s.size + 1 + (itoa f).length + 1 + (itoa r).length + 1 + U.size:=by omega
     have HTL:=hid hTL
     clear hTL hsz hUl lf lr
     have HF : Hid (∀ V,Below w2.heap.size w2 V -> V.cell? ⟨w.heap.size,0,none⟩ = some (.string s) /\ V.cell? ⟨w.heap.size,1,none⟩ = some (.int .i32 f) /\ V.cell? ⟨w.heap.size,2,none⟩ = some (.int .i32 r)):=fun V hv => by
      have h:=HX2.out.later hv HX2.out.lt
      exact ⟨h.cell 0,h.cell 1,h.cell 2⟩
     have hs0:=HF.out _ (Below.refl _ w2).drew
     have hd0:=hid (Below.refl w2.heap.size w2).drew
     have H1 : Hid (∀ V,Below w2.heap.size w2 V -> Calls Tryz.prog 145 #[.int .i32 f] V fun e w' => e = .returned (.string ⟨(itoa f).toArray⟩) /\ (w'.cell? ⟨w.heap.size,0,none⟩ = some (.string s) /\ w'.cell? ⟨w.heap.size,1,none⟩ = some (.int .i32 f) /\ w'.cell? ⟨w.heap.size,2,none⟩ = some (.int .i32 r)) /\ Below w2.heap.size w2 w'):=fun V hv => by
      refine Calls.mono (D1.out V (bt HW2.out hv)) ?_
      rintro e w' ⟨rfl,h⟩
      exact ⟨rfl,HF.out _ (bt hv h),bt hv h⟩
     have H2 : Hid (∀ V,Below w2.heap.size w2 V -> Calls Tryz.prog 145 #[.int .i32 r] V fun e w' => e = .returned (.string ⟨(itoa r).toArray⟩) /\ (w'.cell? ⟨w.heap.size,0,none⟩ = some (.string s) /\ w'.cell? ⟨w.heap.size,1,none⟩ = some (.int .i32 f) /\ w'.cell? ⟨w.heap.size,2,none⟩ = some (.int .i32 r)) /\ Below w2.heap.size w2 w'):=fun V hv => by
      refine Calls.mono (D2.out V (bt HW2.out hv)) ?_
      rintro e w' ⟨rfl,h⟩
      exact ⟨rfl,HF.out _ (bt hv h),bt hv h⟩
     clear HF HX1 HX2 D1 D2 HP
     go_wp2_with fail
     go_region_held3 (fun V : World => V.cell? ⟨w.heap.size,0,none⟩ = some (.string s) /\ V.cell? ⟨w.heap.size,1,none⟩ = some (.int .i32 f) /\ V.cell? ⟨w.heap.size,2,none⟩ = some (.int .i32 r)) (first | exact hs2 | exact hs1 | exact hs0)
      (first
       | (go_at_call 145; with_reducible refine Calls.mono (H2.out _ hb2) ?_; rintro e w4 ⟨rfl,hs2,hb3⟩)
       | (go_at_call 145; with_reducible refine Calls.mono (H1.out _ hd0.out) ?_; rintro e w3 ⟨rfl,hs1,hb2⟩))
     all_goals
      have HB3:=hid (bt HW2.out hb3)
      clear hs0 hs1 hs2 hb2 hb3 H1 H2 hd0
      have HSZ : Hid ((⟨TT.toArray⟩ : ByteArray).size = TT.length):=by show TT.toArray.size = TT.length; simp
      have HTB : Hid ((⟨TT.toArray⟩ : ByteArray).data.toList = TT):=by show _ = _; simp
      rw [HT.out]
      clear HT hm1 hm2 hm3 hm4 hm5 hm6
      generalize (⟨TT.toArray⟩ : ByteArray) = TB at *
      by_cases hl : (65536 : Int) < (TB.size : Int)
      · have HTE:=hid (HE3.out trivial trivial (by have:=HSZ.out; omega))
        go_wp2_with fail
        go_ret2
        rw [HTE.out]
        exact ⟨_,rfl,fun h => absurd h (by decide),fun _ => rfl,HB3.out⟩
      · have HTE:=hid (HE4.out trivial trivial (by have:=HSZ.out; omega))
        go_wp2_with fail
        go_ret2
        rw [HTE.out]
        exact ⟨_,rfl,fun _ => HTB.out,fun h => absurd rfl h,HB3.out⟩
   · have HTE:=hid (HE2.out trivial hGE)
     have h2' : (GE == 0) = false:=by simp [hGE]
     have h2n : (GE != 0) = true:=by simp [hGE]
     clear HP D1 D2 HTX HTL HGL HTC HE3 HE4 HE1
     go_wp2_with fail
     go_ret2
     rw [HTE.out]
     exact ⟨_,rfl,fun h => absurd h hGE,fun _ => rfl,HW2.out⟩
 · have HTE:=hid (HE1.out hTC)
   have h2' : (TC == 0) = false:=by simp [hTC]
   have h2n : (TC != 0) = true:=by simp [hTC]
   clear HP D1 D2 HTX HTL HGL HTC HE3 HE4 HE2
   go_wp2_with fail
   go_ret2
   rw [HTE.out]
   exact ⟨_,rfl,fun h => absurd h hTC,fun _ => rfl,HW1.out⟩
theorem box_put9 {U : World} {b t : Nat} {u0 u1 u2 u3 u4 u5 u6 u7 u8 : Value} (h : Box U b t #[u0,u1,u2,u3,u4,u5,u6,u7,u8]) (v0 v1 v2 v3 v4 v5 v6 v7 v8 : Value) : Box (((((((((U.setCell ⟨b,0,none⟩ v0).setCell ⟨b,1,none⟩ v1).setCell ⟨b,2,none⟩ v2).setCell ⟨b,3,none⟩ v3).setCell ⟨b,4,none⟩ v4).setCell ⟨b,5,none⟩ v5).setCell ⟨b,6,none⟩ v6).setCell ⟨b,7,none⟩ v7).setCell ⟨b,8,none⟩ v8) b t #[v0,v1,v2,v3,v4,v5,v6,v7,v8]:=by
 have h0 : Box _ b t #[v0,u1,u2,u3,u4,u5,u6,u7,u8]:=h.set 0 v0
 have h1 : Box _ b t #[v0,v1,u2,u3,u4,u5,u6,u7,u8]:=h0.set 1 v1
 have h2 : Box _ b t #[v0,v1,v2,u3,u4,u5,u6,u7,u8]:=h1.set 2 v2
 have h3 : Box _ b t #[v0,v1,v2,v3,u4,u5,u6,u7,u8]:=h2.set 3 v3
 have h4 : Box _ b t #[v0,v1,v2,v3,v4,u5,u6,u7,u8]:=h3.set 4 v4
 have h5 : Box _ b t #[v0,v1,v2,v3,v4,v5,u6,u7,u8]:=h4.set 5 v5
 have h6 : Box _ b t #[v0,v1,v2,v3,v4,v5,v6,u7,u8]:=h5.set 6 v6
 have h7 : Box _ b t #[v0,v1,v2,v3,v4,v5,v6,v7,u8]:=h6.set 7 v7
 exact h7.set 8 v8
theorem below_put9 {B : Nat} {x U : World} (h : Below B x U) (b : Nat) (hb : B <= b) (v0 v1 v2 v3 v4 v5 v6 v7 v8 : Value) : Below B x (((((((((U.setCell ⟨b,0,none⟩ v0).setCell ⟨b,1,none⟩ v1).setCell ⟨b,2,none⟩ v2).setCell ⟨b,3,none⟩ v3).setCell ⟨b,4,none⟩ v4).setCell ⟨b,5,none⟩ v5).setCell ⟨b,6,none⟩ v6).setCell ⟨b,7,none⟩ v7).setCell ⟨b,8,none⟩ v8) :=
 ((((((((h.setCell (p:=⟨b,0,none⟩) hb _).setCell (p:=⟨b,1,none⟩) hb _).setCell (p:=⟨b,2,none⟩) hb _).setCell (p:=⟨b,3,none⟩) hb _).setCell (p:=⟨b,4,none⟩) hb _).setCell (p:=⟨b,5,none⟩) hb _).setCell (p:=⟨b,6,none⟩) hb _).setCell (p:=⟨b,7,none⟩) hb _).setCell (p:=⟨b,8,none⟩) hb _
theorem own_put9 {w : World} {base e n : Nat} {v : Value} {xs : List Value} (h : w.ownsRow base e 1 v n xs) (b : Nat) (hb : ∀ g,v.ownBlock = some g -> g ≠ b) (v0 v1 v2 v3 v4 v5 v6 v7 v8 : Value) : (((((((((w.setCell ⟨b,0,none⟩ v0).setCell ⟨b,1,none⟩ v1).setCell ⟨b,2,none⟩ v2).setCell ⟨b,3,none⟩ v3).setCell ⟨b,4,none⟩ v4).setCell ⟨b,5,none⟩ v5).setCell ⟨b,6,none⟩ v6).setCell ⟨b,7,none⟩ v7).setCell ⟨b,8,none⟩ v8).ownsRow base e 1 v n xs :=
 own_put1 (own_put1 (own_put1 (own_put1 (own_put1 (own_put1 (own_put1 (own_put1 (own_put1 h b hb 0 v0) b hb 1 v1) b hb 2 v2) b hb 3 v3) b hb 4 v4) b hb 5 v5) b hb 6 v6) b hb 7 v7) b hb 8 v8
theorem tres_run {fn : Func} {W : World} {b q u : Nat} {cs : Array Value} (hr : fn.results = #[.cell q 37,.tmp u]) (hb : Box W b 37 cs) (tmps : Array Value) (h4 : tmps.getD q undef = .pointer (some ⟨b,0,none⟩)) (hi : (Tryz.prog.info? 37).map (·.size) = some cs.size:=by kernel_rfl) : (results fn tmps).run Tryz.prog W = .ok (.tuple #[.agg cs,tmps.getD u undef]) W:=by
 have h:=run_loadVar_row (P:=Tryz.prog) W b 37 37 cs (0,0) _ hb Tryz.underlying37 rfl hi
 rw [results_cell_tmp hr,h4]
 simp [asAddr,h]
theorem tchain9 {W : World} {b t : Nat} {u0 u1 u2 u3 u4 u5 u6 u7 u8 : Value} (h : Box W b t #[u0,u1,u2,u3,u4,u5,u6,u7,u8]) (v0 v1 v2 v3 v4 v5 v6 v7 v8 : Value) : ∃ A0 A1 A2 A3 A4 A5 A6 A7 A8,W.setCell ⟨b,0,none⟩ v0 = A0 /\ A0.setCell ⟨b,1,none⟩ v1 = A1 /\ A1.setCell ⟨b,2,none⟩ v2 = A2 /\ A2.setCell ⟨b,3,none⟩ v3 = A3 /\ A3.setCell ⟨b,4,none⟩ v4 = A4 /\ A4.setCell ⟨b,5,none⟩ v5 = A5 /\ A5.setCell ⟨b,6,none⟩ v6 = A6 /\ A6.setCell ⟨b,7,none⟩ v7 = A7 /\ A7.setCell ⟨b,8,none⟩ v8 = A8 /\ (W.cell? ⟨b,0,none⟩ = some u0 /\ A0.cell? ⟨b,1,none⟩ = some u1 /\ A1.cell? ⟨b,2,none⟩ = some u2 /\ A2.cell? ⟨b,3,none⟩ = some u3 /\ A3.cell? ⟨b,4,none⟩ = some u4 /\ A4.cell? ⟨b,5,none⟩ = some u5 /\ A5.cell? ⟨b,6,none⟩ = some u6 /\ A6.cell? ⟨b,7,none⟩ = some u7 /\ A7.cell? ⟨b,8,none⟩ = some u8) /\ (W.frozen? ⟨b,0,none⟩ = false /\ A0.frozen? ⟨b,1,none⟩ = false /\ A1.frozen? ⟨b,2,none⟩ = false /\ A2.frozen? ⟨b,3,none⟩ = false /\ A3.frozen? ⟨b,4,none⟩ = false /\ A4.frozen? ⟨b,5,none⟩ = false /\ A5.frozen? ⟨b,6,none⟩ = false /\ A6.frozen? ⟨b,7,none⟩ = false /\ A7.frozen? ⟨b,8,none⟩ = false):=by
 have h0 : Box _ b t #[v0,u1,u2,u3,u4,u5,u6,u7,u8]:=h.set 0 v0
 have h1 : Box _ b t #[v0,v1,u2,u3,u4,u5,u6,u7,u8]:=h0.set 1 v1
 have h2 : Box _ b t #[v0,v1,v2,u3,u4,u5,u6,u7,u8]:=h1.set 2 v2
 have h3 : Box _ b t #[v0,v1,v2,v3,u4,u5,u6,u7,u8]:=h2.set 3 v3
 have h4 : Box _ b t #[v0,v1,v2,v3,v4,u5,u6,u7,u8]:=h3.set 4 v4
 have h5 : Box _ b t #[v0,v1,v2,v3,v4,v5,u6,u7,u8]:=h4.set 5 v5
 have h6 : Box _ b t #[v0,v1,v2,v3,v4,v5,v6,u7,u8]:=h5.set 6 v6
 have h7 : Box _ b t #[v0,v1,v2,v3,v4,v5,v6,v7,u8]:=h6.set 7 v7
 exact ⟨_,_,_,_,_,_,_,_,_,rfl,rfl,rfl,rfl,rfl,rfl,rfl,rfl,rfl,⟨h.cell 0,h0.cell 1,h1.cell 2,h2.cell 3,h3.cell 4,h4.cell 5,h5.cell 6,h6.cell 7,h7.cell 8⟩,h.free 0,h0.free 1,h1.free 2,h2.free 3,h3.free 4,h4.free 5,h5.free 6,h6.free 7,h7.free 8⟩
theorem tchain_far {W A0 A1 A2 A3 A4 A5 A6 A7 A8 : World} {b b' t' : Nat} {cs : Array Value} {v0 v1 v2 v3 v4 v5 v6 v7 v8 : Value} (h : Box W b' t' cs) (hne : b' ≠ b) (hA0 : W.setCell ⟨b,0,none⟩ v0 = A0) (hA1 : A0.setCell ⟨b,1,none⟩ v1 = A1) (hA2 : A1.setCell ⟨b,2,none⟩ v2 = A2) (hA3 : A2.setCell ⟨b,3,none⟩ v3 = A3) (hA4 : A3.setCell ⟨b,4,none⟩ v4 = A4) (hA5 : A4.setCell ⟨b,5,none⟩ v5 = A5) (hA6 : A5.setCell ⟨b,6,none⟩ v6 = A6) (hA7 : A6.setCell ⟨b,7,none⟩ v7 = A7) (hA8 : A7.setCell ⟨b,8,none⟩ v8 = A8) : Box A8 b' t' cs:=by
 subst hA0 hA1 hA2 hA3 hA4 hA5 hA6 hA7 hA8
 exact (((((((((h.other ⟨b,0,none⟩ v0 hne).other ⟨b,1,none⟩ v1 hne).other ⟨b,2,none⟩ v2 hne).other ⟨b,3,none⟩ v3 hne).other ⟨b,4,none⟩ v4 hne).other ⟨b,5,none⟩ v5 hne).other ⟨b,6,none⟩ v6 hne).other ⟨b,7,none⟩ v7 hne).other ⟨b,8,none⟩ v8 hne)
structure TTells (E : Int) (L : Prop) (l : List UInt8) (f r : Int) (q1 q2 : Rat) (S : ByteArray) (F R : Int) (n : Bool) (xs ys : List Int) (m : Bool) (us vs : List Int) (code : Int) : Prop where
 num : GTells E L q1 q2 n xs ys m us vs code
 bad : code ≠ 0 -> S = ⟨#[]⟩ /\ F = 0 /\ R = 0
 good : code = 0 -> S.data.toList = l /\ F = f /\ R = r
def TToldC (w : World) (E : Int) (L : Prop) (l : List UInt8) (f r : Int) (q1 q2 : Rat) (x : Ending) (w' : World) : Prop :=
 ∃ S F R n a ca xs b cb ys m c cc us d cd vs code,x = .returned (.tuple #[.agg #[.string S,.int .i32 F,.int .i32 R,.bool n,.slice a (List.length xs) ca,.slice b (List.length ys) cb,.bool m,.slice c (List.length us) cc,.slice d (List.length vs) cd],.int .i64 code]) /\ (w'.ownsRow w.heap.size 69 1 (.slice a xs.length ca) xs.length (xs.map (Value.int .u32)) /\ w'.ownsRow w.heap.size 69 1 (.slice b ys.length cb) ys.length (ys.map (Value.int .u32)) /\ w'.ownsRow w.heap.size 69 1 (.slice c us.length cc) us.length (us.map (Value.int .u32)) /\ w'.ownsRow w.heap.size 69 1 (.slice d vs.length cd) vs.length (vs.map (Value.int .u32))) /\ TTells E L l f r q1 q2 S F R n xs ys m us vs code /\ Below w.heap.size w w' /\ ∃ W1,Cut w (.slice a xs.length ca) (.slice b ys.length cb) W1 /\ Cut W1 (.slice c us.length cc) (.slice d vs.length cd) w'
theorem ttoldc_zero {w W : World} {E : Int} {L : Prop} {l : List UInt8} {f r : Int} {q1 q2 : Rat} {code : Int} (h : E ≠ 0 /\ code = E \/ E = 0 /\ L /\ code = 3) (hb : Below w.heap.size w W) : TToldC w E L l f r q1 q2 (.returned (.tuple #[.agg #[.string ⟨#[]⟩,.int .i32 0,.int .i32 0,.bool false,.slice none 0 0,.slice none 0 0,.bool false,.slice none 0 0,.slice none 0 0],.int .i64 code])) W:=by
 have hc : code ≠ 0:=by rcases h with h | h <;> omega
 refine ⟨⟨#[]⟩,0,0,false,none,0,[],none,0,[],false,none,0,[],none,0,[],code,rfl,⟨World.ownsRow_nil _ _ _ _,World.ownsRow_nil _ _ _ _,World.ownsRow_nil _ _ _ _,World.ownsRow_nil _ _ _ _⟩,⟨⟨⟨Wd.nil,Wd.nil,Wd.nil,Wd.nil⟩,fun he => ⟨⟨rfl,rfl,rfl,rfl,rfl,rfl⟩,?_⟩,fun he hl => ⟨⟨rfl,rfl,rfl,rfl,rfl,rfl⟩,?_⟩,fun he hl => ?_⟩,fun _ => ⟨rfl,rfl,rfl⟩,fun e => absurd e hc⟩,hb,W,cut_nil _ _ hb.size,cut_nil _ _ (Nat.le_refl _)⟩
 · rcases h with h | h
   · exact h.2
   · exact absurd h.1 he
 · rcases h with h | h
   · exact absurd he h.1
   · exact h.2.2
 · rcases h with h | h
   · exact absurd he h.1
   · exact absurd h.2.1 hl
def trest (l : List UInt8) : List UInt8:=(Lib.cut l [32]).2.1
def tword (l : List UInt8) : List UInt8:=(Lib.cut l [32]).1
def tgood (l : List UInt8) : Prop:=tname (tword l) = true /\ tnumOk (tword (trest l)) = true /\ tnumOk (tword (trest (trest l))) = true /\ ggood (trest (trest (trest l)))
open Classical in
noncomputable def tpE (s : ByteArray) : Int:=if 65536 < s.size then 3 else if tgood s.data.toList then ochk (tnumV (tword (trest s.data.toList))) (tnumV (tword (trest (trest s.data.toList)))) else 230
theorem tpE_long {s : ByteArray} (h : 65536 < s.size) : tpE s = 3:=by unfold tpE; rw [if_pos h]
theorem tpE_good {s : ByteArray} (hs : s.size <= 65536) (h : tgood s.data.toList) : tpE s = ochk (tnumV (tword (trest s.data.toList))) (tnumV (tword (trest (trest s.data.toList)))):=by unfold tpE; rw [if_neg (by omega),if_pos h]
theorem tpE_bad {s : ByteArray} (hs : s.size <= 65536) (h : ¬ tgood s.data.toList) : tpE s = 230:=by unfold tpE; rw [if_neg (by omega),if_neg h]
theorem gpar_or {T : ByteArray} (hs : T.size <= 65536) {L : Prop} {q1 q2 : Rat} {n m : Bool} {xs ys us vs : List Int} {code : Int} (h : GTells (gpE T) L q1 q2 n xs ys m us vs code) :
 (code = 140 /\ ¬ ggood T.data.toList) \/ (ggood T.data.toList /\ L /\ code = 3) \/ (ggood T.data.toList /\ ¬ L /\ code = 0 /\ GTells 0 L q1 q2 n xs ys m us vs 0):=by
 by_cases hg : ggood T.data.toList
 · rw [gpE_good hs hg] at h
   by_cases hL : L
   · exact .inr (.inl ⟨hg,hL,(h.long rfl hL).2⟩)
   · have e:=(h.good rfl hL).1
     subst e
     exact .inr (.inr ⟨hg,hL,rfl,h⟩)
 · rw [gpE_bad hs hg] at h
   exact .inl ⟨(h.bad (by decide)).2,hg⟩
theorem tclone_any (s : ByteArray) (w : World) (h : s.size <= 281474976710656) : Calls Tryz.prog 167 #[.string s] w fun e w' => e = .returned (.string s) /\ Below w.heap.size w w':=by
 have HC:=hid (Tryz.stringslite_Clone s w h)
 go_enter Tryz.func167,Tryz.ntmps167
 go_wp2_with fail
 refine Calls.mono HC.out ?_
 rintro e w1 ⟨rfl,hb⟩
 go_wp2_with fail
 go_ret
 exact ⟨rfl,hb⟩
set_option maxRecDepth 100000 in
theorem tParse_long (s : ByteArray) (w : World) (hs : 65536 < s.size) (hm : s.size <= 281474976710656) (L : Prop) (l : List UInt8) (f r : Int) (q1 q2 : Rat) : Calls Tryz.prog 168 #[.string s] w (TToldC w 3 L l f r q1 q2):=by
 have HX:=hid (Box.made w 37 #[.string ⟨#[]⟩,.int .i32 0,.int .i32 0,.bool false,.slice none 0 0,.slice none 0 0,.bool false,.slice none 0 0,.slice none 0 0])
 have HB:=hid (alloc_later w (.cells #[.string ⟨#[]⟩,.int .i32 0,.int .i32 0,.bool false,.slice none 0 0,.slice none 0 0,.bool false,.slice none 0 0,.slice none 0 0] 37))
 obtain ⟨X,hX⟩ : ∃ X,w.alloc (.cells #[.string ⟨#[]⟩,.int .i32 0,.int .i32 0,.bool false,.slice none 0 0,.slice none 0 0,.bool false,.slice none 0 0,.slice none 0 0] 37) = X:=⟨_,rfl⟩
 rw [hX] at HX HB
 have m0 : X.cell? ⟨w.heap.size,0,none⟩ = some (.string ⟨#[]⟩):=HX.out.cell 0
 have m1 : X.cell? ⟨w.heap.size,1,none⟩ = some (.int .i32 0):=HX.out.cell 1
 have m2 : X.cell? ⟨w.heap.size,2,none⟩ = some (.int .i32 0):=HX.out.cell 2
 have m3 : X.cell? ⟨w.heap.size,3,none⟩ = some (.bool false):=HX.out.cell 3
 have m4 : X.cell? ⟨w.heap.size,4,none⟩ = some (.slice none 0 0):=HX.out.cell 4
 have m5 : X.cell? ⟨w.heap.size,5,none⟩ = some (.slice none 0 0):=HX.out.cell 5
 have m6 : X.cell? ⟨w.heap.size,6,none⟩ = some (.bool false):=HX.out.cell 6
 have m7 : X.cell? ⟨w.heap.size,7,none⟩ = some (.slice none 0 0):=HX.out.cell 7
 have m8 : X.cell? ⟨w.heap.size,8,none⟩ = some (.slice none 0 0):=HX.out.cell 8
 have f0:=HX.out.free 0
 have f1:=HX.out.free 1
 have f2:=HX.out.free 2
 have f3:=HX.out.free 3
 have f4:=HX.out.free 4
 have f5:=HX.out.free 5
 have f6:=HX.out.free 6
 have f7:=HX.out.free 7
 have f8:=HX.out.free 8
 have hs' : (65536 : Int) < (s.size : Int):=by omega
 clear hs
 go_enter Tryz.func168,Tryz.ntmps168
 go_wp2_with fail
 have B1:=box_put9 HX.out (.string ⟨#[]⟩) (.int .i32 0) (.int .i32 0) (.bool false) (.slice none 0 0) (.slice none 0 0) (.bool false) (.slice none 0 0) (.slice none 0 0)
 have G1:=below_put9 HB.out w.heap.size (Nat.le_refl _) (.string ⟨#[]⟩) (.int .i32 0) (.int .i32 0) (.bool false) (.slice none 0 0) (.slice none 0 0) (.bool false) (.slice none 0 0) (.slice none 0 0)
 clear m0 m1 m2 m3 m4 m5 m6 m7 m8 f0 f1 f2 f3 f4 f5 f6 f7 f8
 exact bodyPost_ret (tres_run (by rfl) B1 _ rfl) rfl (ttoldc_zero (E:=3) (.inl ⟨by decide,rfl⟩) G1)
end Go.Proofs.YtnhmaijmmkplkaaGreatDoor
namespace Go.Proofs.YtnhmaijmmkplkaaGreatDoor
set_option maxHeartbeats 6400000
open Go.RowKit
set_option linter.unusedVariables false
structure TL where
 s : ByteArray
 f : Int
 r : Int
 n : Bool
 a : Option Addr
 ca : Nat
 xs : List Int
 b : Option Addr
 cb : Nat
 ys : List Int
 m : Bool
 c : Option Addr
 cc : Nat
 us : List Int
 d : Option Addr
 cd : Nat
 vs : List Int
def TL.cells (t : TL) : Array Value:=#[.string t.s,.int .i32 t.f,.int .i32 t.r,.bool t.n,.slice t.a t.xs.length t.ca,.slice t.b t.ys.length t.cb,.bool t.m,.slice t.c t.us.length t.cc,.slice t.d t.vs.length t.cd]
structure TL.ok (t : TL) (w : World) : Prop where
 size : t.s.size <= maxLen
 rot : in32 t.f t.r
 sx : Sl w (.slice t.a t.xs.length t.ca) t.xs
 sy : Sl w (.slice t.b t.ys.length t.cb) t.ys
 su : Sl w (.slice t.c t.us.length t.cc) t.us
 sv : Sl w (.slice t.d t.vs.length t.cd) t.vs
theorem TL.ok.later {t : TL} {w w' : World} (h : t.ok w) (hb : Below w.heap.size w w') : t.ok w':=⟨h.size,h.rot,h.sx.later hb,h.sy.later hb,h.su.later hb,h.sv.later hb⟩
def TL.chk (t : TL) : Int:=tchk t.s.data.toList t.f t.r (gchk t.n t.xs t.ys t.m t.us t.vs)
def TL.nm (t : TL) : List UInt8:=t.s.data.toList
def TL.ro (t : TL) : Int × Int:=(t.f,t.r)
theorem tlcheck_any (t : TL) (w : World) (h : t.ok w) : Calls Tryz.prog 41 #[.agg t.cells] w fun e w' => e = .returned (.int .i64 t.chk) /\ Below w.heap.size w w' :=
 tCheck_any t.s t.f t.r t.n t.a t.ca t.xs t.b t.cb t.ys t.m t.c t.cc t.us t.d t.cd t.vs w h.size h.rot h.sx h.sy h.su h.sv
def RdT (w : World) (a : Option Addr) (ts : List TL) : Prop:=(∀ t ∈ ts,t.ok w) /\ (ts = [] \/ ∃ b o,a = some ⟨b,o,none⟩ /\ b < w.heap.size /\ ∀ (j : Nat) (t : TL),ts[j]? = some t -> ∀ k,k < 9 -> w.cell? ⟨b,o + j * 9 + k,none⟩ = t.cells[k]?)
theorem RdT.later {w w' : World} {a : Option Addr} {ts : List TL} (h : RdT w a ts) (hb : Below w.heap.size w w') : RdT w' a ts:=by
 refine ⟨fun t ht => (h.1 t ht).later hb,?_⟩
 rcases h.2 with e | ⟨b,o,e,hl,hc⟩
 · exact .inl e
 · exact .inr ⟨b,o,e,Nat.lt_of_lt_of_le hl hb.size,fun j t hj k hk => (hb.cell (p:=⟨b,o + j * 9 + k,none⟩) hl).trans (hc j t hj k hk)⟩
def phd (l : List UInt8) (rc : Int) (k : Nat) : Int:=if tname l = true then fstE rc (if 24 < k then 3 else 0) else 4
theorem phd_name {l : List UInt8} (rc : Int) (k : Nat) (h : tname l = false) : phd l rc k = 4:=by unfold phd; rw [if_neg (by rw [h]; decide)]
theorem phd_rest {l : List UInt8} (rc : Int) (k : Nat) (h : tname l = true) : phd l rc k = fstE rc (if 24 < k then 3 else 0):=by unfold phd; rw [if_pos h]
set_option maxRecDepth 100000 in
theorem pHead_any (s : ByteArray) (n : Bool) (a : Option Addr) (ca : Nat) (xs : List Int) (b : Option Addr) (cb : Nat) (ys : List Int) (t : Option Addr) (k ct : Nat) (w : World) (hz : s.size <= maxLen) (sx : Sl w (.slice a xs.length ca) xs) (sy : Sl w (.slice b ys.length cb) ys) :
 Calls Tryz.prog 45 #[.agg #[.string s,.bool n,.slice a xs.length ca,.slice b ys.length cb,.slice t k ct]] w fun e w' => e = .returned (.int .i64 (phd s.data.toList (rchk n xs ys) k)) /\ Below w.heap.size w w':=by
 have HX:=hid (Box.made w 27 #[.string s,.bool n,.slice a xs.length ca,.slice b ys.length cb,.slice t k ct])
 have HB:=hid (alloc_later w (.cells #[.string s,.bool n,.slice a xs.length ca,.slice b ys.length cb,.slice t k ct] 27))
 obtain ⟨X,hX⟩ : ∃ X,w.alloc (.cells #[.string s,.bool n,.slice a xs.length ca,.slice b ys.length cb,.slice t k ct] 27) = X:=⟨_,rfl⟩
 rw [hX] at HX HB
 have HN:=hid (tName_any s X hz)
 have HR : Hid (∀ V,Below w.heap.size w V -> Calls Tryz.prog 102 #[.agg #[.bool n,.slice a xs.length ca,.slice b ys.length cb]] V fun e w' => e = .returned (.int .i64 (rchk n xs ys)) /\ Below V.heap.size V w'):=fun V hv => rcheck_any n _ xs _ ys V (sx.later hv) (sy.later hv)
 generalize rchk n xs ys = E at *
 have HK1:=hid (phd_name (l:=s.data.toList) E k)
 have HK2:=hid (phd_rest (l:=s.data.toList) E k)
 generalize phd s.data.toList E k = T at *
 generalize tname s.data.toList = NM at *
 clear sx sy
 have k0 : X.cell? ⟨w.heap.size,0,none⟩ = some (.string s):=HX.out.cell 0
 have k1 : X.cell? ⟨w.heap.size,1,none⟩ = some (.bool n):=HX.out.cell 1
 have k2 : X.cell? ⟨w.heap.size,2,none⟩ = some (.slice a xs.length ca):=HX.out.cell 2
 have k3 : X.cell? ⟨w.heap.size,3,none⟩ = some (.slice b ys.length cb):=HX.out.cell 3
 cases NM with
 | false =>
  have HT:=hid (HK1.out rfl)
  go_enter Tryz.func45,Tryz.ntmps45
  go_wp2_with fail
  refine Calls.mono HN.out ?_
  rintro e w1 ⟨rfl,rfl⟩
  go_wp2_with fail
  go_ret
  exact ⟨ret_int HT.out.symm,HB.out⟩
 | true =>
  have HT:=hid (HK2.out rfl)
  by_cases hE : E = 0
  · subst hE
    have HT2:=hid (HT.out.trans (fstE_zero _))
    clear HT
    by_cases hk : 24 < k
    · have HT3 : Hid (T = 3):=HT2.out.trans (if_pos hk)
      have hk' : (24 : Int) < (k : Int):=by omega
      clear HT2 hk
      go_enter Tryz.func45,Tryz.ntmps45
      go_wp2_with fail
      refine Calls.mono HN.out ?_
      rintro e w1 ⟨rfl,rfl⟩
      go_wp2_with fail
      refine Calls.mono (HR.out _ HB.out) ?_
      rintro e w1 ⟨rfl,hb1⟩
      have HB1:=hid (bt HB.out hb1)
      have k4 : w1.cell? ⟨w.heap.size,4,none⟩ = some (.slice t k ct):=(HX.out.later hb1 HX.out.lt).cell 4
      clear hb1 k0 k1 k2 k3
      go_wp2_with fail
      go_ret
      exact ⟨ret_int HT3.out.symm,HB1.out⟩
    · have HT3 : Hid (T = 0):=HT2.out.trans (if_neg hk)
      have hk' : ¬ (24 : Int) < (k : Int):=by omega
      clear HT2 hk
      go_enter Tryz.func45,Tryz.ntmps45
      go_wp2_with fail
      refine Calls.mono HN.out ?_
      rintro e w1 ⟨rfl,rfl⟩
      go_wp2_with fail
      refine Calls.mono (HR.out _ HB.out) ?_
      rintro e w1 ⟨rfl,hb1⟩
      have HB1:=hid (bt HB.out hb1)
      have k4 : w1.cell? ⟨w.heap.size,4,none⟩ = some (.slice t k ct):=(HX.out.later hb1 HX.out.lt).cell 4
      clear hb1 k0 k1 k2 k3
      go_wp2_with fail
      go_ret
      exact ⟨ret_int HT3.out.symm,HB1.out⟩
  · have HT2:=hid (HT.out.trans (fstE_err _ hE))
    have hE' : (E == 0) = false:=by simp [hE]
    have hE2 : (E != 0) = true:=by simp [hE]
    clear HT
    go_enter Tryz.func45,Tryz.ntmps45
    go_wp2_with fail
    refine Calls.mono HN.out ?_
    rintro e w1 ⟨rfl,rfl⟩
    go_wp2_with fail
    refine Calls.mono (HR.out _ HB.out) ?_
    rintro e w1 ⟨rfl,hb1⟩
    have HB1:=hid (bt HB.out hb1)
    clear hb1 k0 k1 k2 k3
    go_wp2_with fail
    go_ret
    exact ⟨ret_int HT2.out.symm,HB1.out⟩
end Go.Proofs.YtnhmaijmmkplkaaGreatDoor
namespace Go.Proofs.YtnhmaijmmkplkaaGreatDoor
set_option maxHeartbeats 6400000
open Go.RowKit Go.Maps
set_option linter.unusedVariables false
instance : Inhabited TL:=⟨⟨⟨#[]⟩,0,0,false,none,0,[],none,0,[],false,none,0,[],none,0,[]⟩⟩
def tT (ts : List TL) (j : Nat) : TL:=ts[j]?.getD default
theorem tT_at {ts : List TL} {j : Nat} (h : j < ts.length) : ts[j]? = some (tT ts j):=by
 unfold tT
 rw [List.getElem?_eq_getElem h]; rfl
theorem tT_mem {ts : List TL} {j : Nat} (h : j < ts.length) : tT ts j ∈ ts:=List.mem_of_getElem? (tT_at h)
def MetN (ts : List TL) (i : Nat) : Prop:=∃ k,k < i /\ (tT ts k).nm = (tT ts i).nm
def MetR (ts : List TL) (i : Nat) : Prop:=∃ k,k < i /\ (tT ts k).ro = (tT ts i).ro
def TOkTo (ts : List TL) (i : Nat) : Prop:=∀ j,j < i -> (tT ts j).chk = 0 /\ ¬ MetN ts j /\ ¬ MetR ts j
theorem TOkTo.next {ts : List TL} {i : Nat} (h : TOkTo ts i) (h0 : (tT ts i).chk = 0) (h1 : ¬ MetN ts i) (h2 : ¬ MetR ts i) : TOkTo ts (i + 1):=fun j hj => by
 rcases Nat.lt_or_ge j i with g | g
 · exact h j g
 · obtain rfl : j = i:=by omega
   exact ⟨h0,h1,h2⟩
def PCk (ts : List TL) (e at_ : Int) : Prop :=
 (∃ i : Nat,i < ts.length /\ TOkTo ts i /\ at_ = i /\ (((tT ts i).chk ≠ 0 /\ e = (tT ts i).chk) \/ ((tT ts i).chk = 0 /\ (MetN ts i \/ MetR ts i) /\ e = 5))) \/ (TOkTo ts ts.length /\ e = 0 /\ at_ = 0)
theorem PCk.one {ts : List TL} {e a e' a' : Int} (h : PCk ts e a) (h' : PCk ts e' a') : e = e' /\ a = a':=by
 have bad : ∀ (i : Nat) (c : Int),(((tT ts i).chk ≠ 0 /\ c = (tT ts i).chk) \/ ((tT ts i).chk = 0 /\ (MetN ts i \/ MetR ts i) /\ c = 5)) -> ∀ k,i < k -> ¬ TOkTo ts k:=by
  intro i c hc k hk hT
  obtain ⟨h0,h1,h2⟩:=hT i hk
  rcases hc with ⟨q,_⟩ | ⟨_,q | q,_⟩
  · exact q h0
  · exact h1 q
  · exact h2 q
 rcases h with ⟨i,hi,hT,rfl,hc⟩ | ⟨hT,rfl,rfl⟩ <;> rcases h' with ⟨j,hj,hT',rfl,hc'⟩ | ⟨hT',rfl,rfl⟩
 · have hij : i = j:=by
    rcases Nat.lt_trichotomy i j with g | g | g
    · exact absurd hT' (bad i _ hc j g)
    · exact g
    · exact absurd hT (bad j _ hc' i g)
   subst hij
   refine ⟨?_,rfl⟩
   rcases hc with ⟨q,rfl⟩ | ⟨q,_,rfl⟩ <;> rcases hc' with ⟨q',rfl⟩ | ⟨q',_,rfl⟩
   · rfl
   · exact absurd q' q
   · exact absurd q q'
   · rfl
 · exact absurd hT' (bad i _ hc _ hi)
 · exact absurd hT (bad j _ hc' _ hj)
 · exact ⟨rfl,rfl⟩
theorem nmlaw : Keyed Tryz.prog 9:=string_keyed Tryz.underlying9
theorem nmkey_of {t : TL} (h : t.s.size <= maxLen) : keyOf Tryz.prog 9 (.string t.s) = some (.string t.nm):=WideMaps.keyOf_string_mk Tryz.underlying9 h
def nmSet (ts : List TL) (k : Nat) : DataW Unit:=setOf (.agg []) ((List.range k).map fun j => Lit.string (tT ts j).nm)
theorem nmSet_zero (ts : List TL) : nmSet ts 0 = .map []:=rfl
theorem nmSet_succ (ts : List TL) (k : Nat) : nmSet ts (k + 1) = (nmSet ts k).put (.string (tT ts k).nm) (.agg []):=by
 unfold nmSet
 rw [List.range_succ,List.map_append]
 exact setOf_snoc _ _ _
theorem nmSet_has (ts : List TL) (k : Nat) : Maps.has (nmSet ts k) (.string (tT ts k).nm) = true ↔ MetN ts k:=by
 unfold nmSet
 rw [has_setOf _ _ _ (fun y hy => by obtain ⟨j,_,rfl⟩:=List.mem_map.1 hy; trivial)]
 rw [List.any_eq_true]
 constructor
 · rintro ⟨y,hy,hs⟩
   obtain ⟨j,hj,rfl⟩:=List.mem_map.1 hy
   have e:=WideAt.sameKey_eq hs
   injection e with e
   first | exact ⟨j,List.mem_range.1 hj,e⟩ | exact ⟨j,List.mem_range.1 hj,e.symm⟩
 · rintro ⟨j,hj,e⟩
   refine ⟨.string (tT ts j).nm,List.mem_map.2 ⟨j,List.mem_range.2 hj,rfl⟩,?_⟩
   rw [e]
   exact WideAt.sameKey_self trivial
theorem xO_ro (ts : List TL) (j : Nat) : xO (ts.map TL.ro) j = (tT ts j).ro:=by
 unfold xO tT
 rw [List.getElem?_map]
 cases ts[j]? <;> rfl
theorem metR_iff (ts : List TL) (i : Nat) : Met (ts.map TL.ro) i ↔ MetR ts i:=by
 unfold Met MetR
 simp only [xO_ro]
theorem tlbox (w : World) (t : TL) : ∃ A0 A1 A2 A3 A4 A5 A6 A7 A8,
 (w.alloc (.cells #[.string ⟨#[]⟩,.int .i32 0,.int .i32 0,.bool false,.slice none 0 0,.slice none 0 0,.bool false,.slice none 0 0,.slice none 0 0] 37)).setCell ⟨w.heap.size,0,none⟩ (.string t.s) = A0 /\ A0.setCell ⟨w.heap.size,1,none⟩ (.int .i32 t.f) = A1 /\ A1.setCell ⟨w.heap.size,2,none⟩ (.int .i32 t.r) = A2 /\ A2.setCell ⟨w.heap.size,3,none⟩ (.bool t.n) = A3 /\ A3.setCell ⟨w.heap.size,4,none⟩ (.slice t.a t.xs.length t.ca) = A4 /\ A4.setCell ⟨w.heap.size,5,none⟩ (.slice t.b t.ys.length t.cb) = A5 /\ A5.setCell ⟨w.heap.size,6,none⟩ (.bool t.m) = A6 /\ A6.setCell ⟨w.heap.size,7,none⟩ (.slice t.c t.us.length t.cc) = A7 /\ A7.setCell ⟨w.heap.size,8,none⟩ (.slice t.d t.vs.length t.cd) = A8 /\
 ((w.alloc (.cells #[.string ⟨#[]⟩,.int .i32 0,.int .i32 0,.bool false,.slice none 0 0,.slice none 0 0,.bool false,.slice none 0 0,.slice none 0 0] 37)).cell? ⟨w.heap.size,0,none⟩ = some (.string ⟨#[]⟩) /\ A0.cell? ⟨w.heap.size,1,none⟩ = some (.int .i32 0) /\ A1.cell? ⟨w.heap.size,2,none⟩ = some (.int .i32 0) /\ A2.cell? ⟨w.heap.size,3,none⟩ = some (.bool false) /\ A3.cell? ⟨w.heap.size,4,none⟩ = some (.slice none 0 0) /\ A4.cell? ⟨w.heap.size,5,none⟩ = some (.slice none 0 0) /\ A5.cell? ⟨w.heap.size,6,none⟩ = some (.bool false) /\ A6.cell? ⟨w.heap.size,7,none⟩ = some (.slice none 0 0) /\ A7.cell? ⟨w.heap.size,8,none⟩ = some (.slice none 0 0)) /\
 ((w.alloc (.cells #[.string ⟨#[]⟩,.int .i32 0,.int .i32 0,.bool false,.slice none 0 0,.slice none 0 0,.bool false,.slice none 0 0,.slice none 0 0] 37)).frozen? ⟨w.heap.size,0,none⟩ = false /\ A0.frozen? ⟨w.heap.size,1,none⟩ = false /\ A1.frozen? ⟨w.heap.size,2,none⟩ = false /\ A2.frozen? ⟨w.heap.size,3,none⟩ = false /\ A3.frozen? ⟨w.heap.size,4,none⟩ = false /\ A4.frozen? ⟨w.heap.size,5,none⟩ = false /\ A5.frozen? ⟨w.heap.size,6,none⟩ = false /\ A6.frozen? ⟨w.heap.size,7,none⟩ = false /\ A7.frozen? ⟨w.heap.size,8,none⟩ = false) /\
 Hid (Box A8 w.heap.size 37 t.cells /\ Below w.heap.size w A8):=by
 have hB:=Box.made w 37 #[.string ⟨#[]⟩,.int .i32 0,.int .i32 0,.bool false,.slice none 0 0,.slice none 0 0,.bool false,.slice none 0 0,.slice none 0 0]
 obtain ⟨A0,A1,A2,A3,A4,A5,A6,A7,A8,e0,e1,e2,e3,e4,e5,e6,e7,e8,hk,hf⟩:=tchain9 hB (.string t.s) (.int .i32 t.f) (.int .i32 t.r) (.bool t.n) (.slice t.a t.xs.length t.ca) (.slice t.b t.ys.length t.cb) (.bool t.m) (.slice t.c t.us.length t.cc) (.slice t.d t.vs.length t.cd)
 refine ⟨A0,A1,A2,A3,A4,A5,A6,A7,A8,e0,e1,e2,e3,e4,e5,e6,e7,e8,hk,hf,?_⟩
 clear hk hf
 subst e0 e1 e2 e3 e4 e5 e6 e7 e8
 exact ⟨box_put9 hB _ _ _ _ _ _ _ _ _,below_put9 (alloc_later w _) w.heap.size (Nat.le_refl _) _ _ _ _ _ _ _ _ _⟩
set_option linter.unusedSimpArgs false
def PChk (h : Int) (ts : List TL) (e at_ : Int) : Prop:=(h ≠ 0 /\ e = h /\ at_ = -1) \/ (h = 0 /\ PCk ts e at_)
theorem qbox_gby {w w' : World} {o : Option Nat} {b t : Nat} {vs : Array Value} (h : Box w b t vs) (hg : w.grownBy w' o) (ha : o ≠ some b) : Box w' b t vs:=(hg.block b h.lt (fun q => ha q.symm)).trans h
structure PIn (w wr : World) (K : Int × Int -> Lit) (ts : List TL) (p q g i : Nat) : Prop where
 nm : wr.ownsMap Tryz.prog 9 (unitElem (H:=Unit)) p i (nmSet ts i)
 ro : wr.ownsMap Tryz.prog 33 (unitElem (H:=Unit)) q i (roSet K (ts.map TL.ro) i)
 box : Box wr g 40 #[.int .i64 0,.int .i64 0]
 bel : Below w.heap.size w wr
 ord : w.heap.size < g /\ g < p /\ p < q
theorem PIn.later {w wr wr' : World} {K : Int × Int -> Lit} {ts : List TL} {p q g i : Nat} (h : PIn w wr K ts p q g i) (hb : Below wr.heap.size wr wr') : PIn w wr' K ts p q g i:=by
 refine ⟨?_,roMap_later h.ro hb,h.box.later hb h.box.lt,bt h.bel hb,h.ord⟩
 obtain ⟨es,clock,h1,F,hs,hD⟩:=h.nm
 exact ⟨es,clock,(hb.block _ h.nm.lt).trans h1,F,hs,hD⟩
theorem PIn.put {w wr : World} {K : Int × Int -> Lit} {ts : List TL} {p q g i : Nat} (h : PIn w wr K ts p q g i) (hi : i < 1000) {s : ByteArray} {rv : Value} (hk : keyOf Tryz.prog 9 (.string s) = some (.string (tT ts i).nm)) (hr : keyOf Tryz.prog 33 rv = some (K (xO (ts.map TL.ro) i))) :
 ∃ W4 W5,(Instr.mapUpdate 71 (.map (some p)) (.string s) (.agg #[])).run Tryz.prog wr = .ok () W4 /\ (Instr.mapUpdate 72 (.map (some q)) rv (.agg #[])).run Tryz.prog W4 = .ok () W5 /\ wr.grownBy W4 (some p) /\ W4.grownBy W5 (some q) /\ PIn w W5 K ts p q g (i + 1):=by
 obtain ⟨W4,u4,o4,g4⟩:=h.nm.update nmlaw Tryz.underlying71 (by unfold maxLen; omega) hk unitElem_mk
 have r4:=h.ro.kept g4 (fun e => by injection e with e; have:=h.ord; omega)
 obtain ⟨W5,u5,o5,g5⟩:=r4.update rolaw Tryz.underlying72 (by unfold maxLen; omega) hr unitElem_mk
 refine ⟨W4,W5,u4,u5,g4,g5,?_,?_,?_,?_,h.ord⟩
 · have:=o4.kept g5 (fun e => by injection e with e; have:=h.ord; omega)
   rw [<- nmSet_succ] at this
   exact this
 · rw [<- roSet_succ] at o5
   exact o5
 · exact qbox_gby (qbox_gby h.box g4 (fun e => by injection e with e; have:=h.ord; omega)) g5 (fun e => by injection e with e; have:=h.ord; omega)
 · exact (h.bel.grown g4 h.bel.size (fun k e => by cases e; have:=h.ord; omega)).grown g5 (Nat.le_trans h.bel.size g4.size) (fun k e => by cases e; have:=h.ord; omega)
theorem PIn.lookN {w wr : World} {K : Int × Int -> Lit} {ts : List TL} {p q g i : Nat} (h : PIn w wr K ts p q g i) {s : ByteArray} {l : List UInt8} (hk : keyOf Tryz.prog 9 (.string s) = some (.string l)) :
 (Instr.lookup 71 (.map (some p)) (.string s) true).run Tryz.prog wr = .ok (.tuple #[.agg #[],.bool (Maps.has (nmSet ts i) (.string l))]) wr:=by
 obtain ⟨v,ps,hr,hv⟩:=h.nm.look_ok nmlaw Tryz.underlying71 (rozero wr) (zd:=.agg []) (zp:=[]) unitElem_mk hk
 obtain ⟨rfl,_⟩:=unitElem_inv hv
 exact hr
theorem PIn.lookR {w wr : World} {K : Int × Int -> Lit} {ts : List TL} {p q g i : Nat} (h : PIn w wr K ts p q g i) {rv : Value} {kr : Lit} (hk : keyOf Tryz.prog 33 rv = some kr) :
 (Instr.lookup 72 (.map (some q)) rv true).run Tryz.prog wr = .ok (.tuple #[.agg #[],.bool (Maps.has (roSet K (ts.map TL.ro) i) kr)]) wr:=by
 obtain ⟨v,ps,hr,hv⟩:=h.ro.look_ok rolaw Tryz.underlying72 (rozero wr) (zd:=.agg []) (zp:=[]) unitElem_mk hk
 obtain ⟨rfl,_⟩:=unitElem_inv hv
 exact hr
set_option maxRecDepth 100000 in
theorem pCheck_any (s : ByteArray) (n : Bool) (a : Option Addr) (ca : Nat) (xs : List Int) (b : Option Addr) (cb : Nat) (ys : List Int) (t : Option Addr) (ct : Nat) (ts : List TL) (w : World) (hz : s.size <= maxLen) (sx : Sl w (.slice a xs.length ca) xs) (sy : Sl w (.slice b ys.length cb) ys) (ht : RdT w t ts) :
 Calls Tryz.prog 10 #[.agg #[.string s,.bool n,.slice a xs.length ca,.slice b ys.length cb,.slice t ts.length ct]] w fun e w' => ∃ c p,e = .returned (.agg #[.int .i64 c,.int .i64 p]) /\ PChk (phd s.data.toList (rchk n xs ys) ts.length) ts c p /\ Below w.heap.size w w':=by
 have HX:=hid (Box.made w 27 #[.string s,.bool n,.slice a xs.length ca,.slice b ys.length cb,.slice t ts.length ct])
 have HB:=hid (alloc_later w (.cells #[.string s,.bool n,.slice a xs.length ca,.slice b ys.length cb,.slice t ts.length ct] 27))
 obtain ⟨X,hX⟩ : ∃ X,w.alloc (.cells #[.string s,.bool n,.slice a xs.length ca,.slice b ys.length cb,.slice t ts.length ct] 27) = X:=⟨_,rfl⟩
 rw [hX] at HX HB
 have HY:=hid (HX.out.later (alloc_later X (.cells #[.int .i64 0,.int .i64 0] 40)) HX.out.lt)
 have HF:=hid (Box.made X 40 #[.int .i64 0,.int .i64 0])
 have HBY:=hid (bt HB.out (alloc_later X (.cells #[.int .i64 0,.int .i64 0] 40)))
 obtain ⟨Y,hY⟩ : ∃ Y,X.alloc (.cells #[.int .i64 0,.int .i64 0] 40) = Y:=⟨_,rfl⟩
 rw [hY] at HY HF HBY
 have HXS : Hid (w.heap.size < X.heap.size):=HX.out.lt
 obtain ⟨g,hg⟩ : ∃ g,X.heap.size = g:=⟨_,rfl⟩
 rw [hg] at HF HXS
 have HH:=hid (pHead_any s n a ca xs b cb ys t ts.length ct Y hz (sx.later HBY.out) (sy.later HBY.out))
 have HTS : Hid (∀ V,Below w.heap.size w V -> RdT V t ts):=fun V hV => ht.later hV
 obtain ⟨E,hE⟩ : ∃ E,phd s.data.toList (rchk n xs ys) ts.length = E:=⟨_,rfl⟩
 rw [hE] at HH ⊢
 have h24 : Hid (E = 0 -> ts.length <= 24):=fun h0 => by
  rw [<- hE] at h0
  unfold phd at h0
  split at h0
  · unfold fstE at h0
    split at h0
    · split at h0
      · omega
      · omega
    · rename_i q; exact absurd h0 q
  · omega
 clear hE sx sy ht
 obtain ⟨K,hK⟩:=ro_keys
 obtain ⟨N,hN⟩ : ∃ N,ts.length = N:=⟨_,rfl⟩
 have HLN:=hid hN
 rw [hN] at h24 HX hX HY HH
 rw [hN]
 clear hN
 have hmm:=@run_makeMap Tryz.prog
 have k0 : Y.cell? ⟨w.heap.size,0,none⟩ = some (.string s):=HY.out.cell 0
 have k1 : Y.cell? ⟨w.heap.size,1,none⟩ = some (.bool n):=HY.out.cell 1
 have k2 : Y.cell? ⟨w.heap.size,2,none⟩ = some (.slice a xs.length ca):=HY.out.cell 2
 have k3 : Y.cell? ⟨w.heap.size,3,none⟩ = some (.slice b ys.length cb):=HY.out.cell 3
 have k4 : Y.cell? ⟨w.heap.size,4,none⟩ = some (.slice t N ct):=HY.out.cell 4
 by_cases h0 : E = 0
 · have h24':=h24.out h0
   subst h0
   clear h24
   go_enter Tryz.func10,Tryz.ntmps10
   go_wp2_with fail
   refine Calls.mono HH.out ?_
   rintro e w1 ⟨rfl,hb1⟩
   have HB1:=hid (bt HBY.out hb1)
   have HX1:=hid (HY.out.later hb1 HY.out.lt)
   have HF1:=hid (HF.out.later hb1 HF.out.lt)
   have f0 : w1.cell? ⟨g,0,none⟩ = some (.int .i64 0):=HF1.out.cell 0
   have f1 : w1.cell? ⟨g,1,none⟩ = some (.int .i64 0):=HF1.out.cell 1
   have k4 : w1.cell? ⟨w.heap.size,4,none⟩ = some (.slice t N ct):=HX1.out.cell 4
   clear hb1 k0 k1 k2 k3 HH HX HB HY HF
   obtain ⟨V1,hV1⟩ : ∃ V1,w1.alloc (.map #[] 0) = V1:=⟨_,rfl⟩
   obtain ⟨W2,hW2⟩ : ∃ W2,V1.alloc (.map #[] 0) = W2:=⟨_,rfl⟩
   have HP0 : Hid (PIn w W2 K ts w1.heap.size V1.heap.size g 0):=by
    subst hW2 hV1
    refine ⟨?_,?_,HF1.out.later (bt (alloc_later _ _) (alloc_later _ _)) HF1.out.lt,bt HB1.out (bt (alloc_later _ _) (alloc_later _ _)),HXS.out,HF1.out.lt,by simp⟩
    · rw [nmSet_zero]; exact (World.ownsMap_made _ _ _ _).alloc _
    · rw [roSet_zero]; exact World.ownsMap_made _ _ _ _
   have k4 : W2.cell? ⟨w.heap.size,4,none⟩ = some (.slice t N ct):=by
    subst hW2 hV1
    exact (HX1.out.later (bt (alloc_later _ _) (alloc_later _ _)) HX1.out.lt : Box _ _ _ _).cell 4
   clear HX1 HF1 HB1 f0 f1 HXS hX hY HBY
   go_wp2_with fail
   generalize w1.heap.size = p at *
   generalize V1.heap.size = q at *
   clear hV1 hW2 k4
   go_loopw [24] (fun x wr => ∃ i : Nat,x = .int .i64 (i : Int) /\ i <= N /\ Hid (TOkTo ts i) /\ Hid (PIn w wr K ts p q g i)) (fun x _ => N - (intOf x).toNat)
   case atStart => exact ⟨0,rfl,by omega,(fun j hj => by omega : ∀ j,j < 0 -> _),HP0⟩
   case round =>
    obtain ⟨i,rfl,hi,HO,HP⟩:=hrel
    by_cases hin : i < N
    · have hil : i < ts.length:=by rw [HLN.out]; exact hin
      have HT:=hid (HTS.out _ HP.out.bel)
      rcases HT.out.2 with e | ⟨bb,o,rfl,hbb,hc⟩
      · rw [e] at hil; exact absurd hil (by simp)
      have HCi : Hid (∀ V,Below w.heap.size w V -> Calls Tryz.prog 41 #[.agg (tT ts i).cells] V fun e w' => e = .returned (.int .i64 (tT ts i).chk) /\ Below V.heap.size V w'):=fun V hV => tlcheck_any _ V ((HTS.out V hV).1 _ (tT_mem hil))
      have hci:=hc i _ (tT_at hil)
      have e0:=hci 0 (by decide)
      have e1:=hci 1 (by decide)
      have e2:=hci 2 (by decide)
      have e3:=hci 3 (by decide)
      have e4:=hci 4 (by decide)
      have e5:=hci 5 (by decide)
      have e6:=hci 6 (by decide)
      have e7:=hci 7 (by decide)
      have e8:=hci 8 (by decide)
      have HNX:=hid (HO.out.next (ts:=ts) (i:=i))
      have HP1 : Hid ((tT ts i).chk ≠ 0 -> PCk ts (tT ts i).chk i):=fun h => .inl ⟨i,hil,HO.out,rfl,.inl ⟨h,rfl⟩⟩
      have HP2 : Hid ((tT ts i).chk = 0 -> MetN ts i \/ MetR ts i -> PCk ts 5 i):=fun h g => .inl ⟨i,hil,HO.out,rfl,.inr ⟨h,g,rfl⟩⟩
      have h32 : in32 (tT ts i).f (tT ts i).r:=(HT.out.1 _ (tT_mem hil)).rot
      have HNK : Hid (keyOf Tryz.prog 9 (.string (tT ts i).s) = some (.string (tT ts i).nm)):=nmkey_of (HT.out.1 _ (tT_mem hil)).size
      have HRK : Hid (keyOf Tryz.prog 33 (.agg #[.int .i32 (tT ts i).f,.int .i32 (tT ts i).r]) = some (K (xO (ts.map TL.ro) i))):=by rw [xO_ro]; exact hK.1 (tT ts i).ro h32
      have HNH:=hid (nmSet_has ts i)
      have HRH : Hid (Maps.has (roSet K (ts.map TL.ro) i) (K (xO (ts.map TL.ro) i)) = true ↔ MetR ts i):=by
       show _
       rw [<- metR_iff]
       by_cases hall : ∀ j,in32 (xO (ts.map TL.ro) j).1 (xO (ts.map TL.ro) j).2
       · exact roSet_has hK _ hall i
       · refine absurd (fun j => ?_) hall
         rw [xO_ro]
         by_cases hj : j < ts.length
         · exact (HT.out.1 _ (tT_mem hj)).rot
         · have : tT ts j = default:=by unfold tT; rw [List.getElem?_eq_none (by omega)]; rfl
           rw [this]
           exact (by unfold in32; decide : in32 0 0)
      have HPUT : Hid (∀ wr',PIn w wr' K ts p q g i -> ∃ W4 W5,(Instr.mapUpdate 71 (.map (some p)) (.string (tT ts i).s) (.agg #[])).run Tryz.prog wr' = .ok () W4 /\ (Instr.mapUpdate 72 (.map (some q)) (.agg #[.int .i32 (tT ts i).f,.int .i32 (tT ts i).r]) (.agg #[])).run Tryz.prog W4 = .ok () W5 /\ wr'.grownBy W4 (some p) /\ W4.grownBy W5 (some q) /\ PIn w W5 K ts p q g (i + 1)):=fun wr' h => h.put (by omega) HNK.out HRK.out
      clear HT hc hci h32
      generalize tT ts i = tt at *
      generalize K (xO (ts.map TL.ro) i) = kr at *
      have c0 : wr.cell? ⟨bb,o + i * 9,none⟩ = some (.string tt.s):=e0
      have c1 : wr.cell? ⟨bb,o + i * 9 + 1,none⟩ = some (.int .i32 tt.f):=e1
      have c2 : wr.cell? ⟨bb,o + i * 9 + 2,none⟩ = some (.int .i32 tt.r):=e2
      have c3 : wr.cell? ⟨bb,o + i * 9 + 3,none⟩ = some (.bool tt.n):=e3
      have c4 : wr.cell? ⟨bb,o + i * 9 + 4,none⟩ = some (.slice tt.a tt.xs.length tt.ca):=e4
      have c5 : wr.cell? ⟨bb,o + i * 9 + 5,none⟩ = some (.slice tt.b tt.ys.length tt.cb):=e5
      have c6 : wr.cell? ⟨bb,o + i * 9 + 6,none⟩ = some (.bool tt.m):=e6
      have c7 : wr.cell? ⟨bb,o + i * 9 + 7,none⟩ = some (.slice tt.c tt.us.length tt.cc):=e7
      have c8 : wr.cell? ⟨bb,o + i * 9 + 8,none⟩ = some (.slice tt.d tt.vs.length tt.cd):=e8
      clear e0 e1 e2 e3 e4 e5 e6 e7 e8
      obtain ⟨A0,A1,A2,A3,A4,A5,A6,A7,A8,q0,q1,q2,q3,q4,q5,q6,q7,q8,⟨r0,r1,r2,r3,r4,r5,r6,r7,r8⟩,⟨f0,f1,f2,f3,f4,f5,f6,f7,f8⟩,HA⟩:=tlbox wr tt
      have HPA:=hid (HP.out.later HA.out.2)
      have HD:=hid (HCi.out A8 HPA.out.bel)
      have HXA:=hid HA.out.1
      have m0 : A8.cell? ⟨wr.heap.size,0,none⟩ = some (.string tt.s):=HXA.out.cell 0
      have m1 : A8.cell? ⟨wr.heap.size,1,none⟩ = some (.int .i32 tt.f):=HXA.out.cell 1
      have m2 : A8.cell? ⟨wr.heap.size,2,none⟩ = some (.int .i32 tt.r):=HXA.out.cell 2
      have m3 : A8.cell? ⟨wr.heap.size,3,none⟩ = some (.bool tt.n):=HXA.out.cell 3
      have m4 : A8.cell? ⟨wr.heap.size,4,none⟩ = some (.slice tt.a tt.xs.length tt.ca):=HXA.out.cell 4
      have m5 : A8.cell? ⟨wr.heap.size,5,none⟩ = some (.slice tt.b tt.ys.length tt.cb):=HXA.out.cell 5
      have m6 : A8.cell? ⟨wr.heap.size,6,none⟩ = some (.bool tt.m):=HXA.out.cell 6
      have m7 : A8.cell? ⟨wr.heap.size,7,none⟩ = some (.slice tt.c tt.us.length tt.cc):=HXA.out.cell 7
      have m8 : A8.cell? ⟨wr.heap.size,8,none⟩ = some (.slice tt.d tt.vs.length tt.cd):=HXA.out.cell 8
      have hi0 : (0 : Int) <= (i : Int):=by omega
      have hi1 : (i : Int) < (N : Int):=by omega
      have hqb : q < wr.heap.size:=HP.out.ro.lt
      clear HCi HP HA hbb
      go_wp2_with fail
      clear q0 q1 q2 q3 q4 q5 q6 q7 q8 r0 r1 r2 r3 r4 r5 r6 r7 r8 f0 f1 f2 f3 f4 f5 f6 f7 f8 m0 m1 m2 m3 m4 m5 m6 m7 m8 c0 c1 c2 c3 c4 c5 c6 c7 c8
      refine Calls.mono HD.out ?_
      rintro e w3 ⟨rfl,hb3⟩
      have HP3:=hid (HPA.out.later hb3)
      have HX3:=hid (HXA.out.later hb3 HXA.out.lt)
      clear HD hb3 HPA HXA
      generalize wr.heap.size = bx at *
      generalize hE : tt.chk = E at *
      by_cases hE0 : E = 0
      · subst hE0
        obtain ⟨C1,hC1⟩ : ∃ C1,w3.alloc (.cells #[] 73) = C1:=⟨_,rfl⟩
        obtain ⟨C2,hC2⟩ : ∃ C2,C1.alloc (.cells #[] 73) = C2:=⟨_,rfl⟩
        have HX4 : Hid (Box C1 bx 37 tt.cells):=by subst hC1; exact HX3.out.later (alloc_later _ _) HX3.out.lt
        have HP4 : Hid (PIn w C1 K ts p q g i):=by subst hC1; exact HP3.out.later (alloc_later _ _)
        have HX5 : Hid (Box C2 bx 37 tt.cells):=by subst hC2; exact HX4.out.later (alloc_later _ _) HX4.out.lt
        have HP5 : Hid (PIn w C2 K ts p q g i):=by subst hC2; exact HP4.out.later (alloc_later _ _)
        have m0 : w3.cell? ⟨bx,0,none⟩ = some (.string tt.s):=HX3.out.cell 0
        have n1 : C1.cell? ⟨bx,1,none⟩ = some (.int .i32 tt.f):=HX4.out.cell 1
        have n2 : C1.cell? ⟨bx,2,none⟩ = some (.int .i32 tt.r):=HX4.out.cell 2
        have l0:=HP3.out.lookN HNK.out
        have l1:=HP4.out.lookR HRK.out
        have hbn:=hid HNH.out
        have hbr:=hid HRH.out
        generalize Maps.has (nmSet ts i) (.string tt.nm) = bn at *
        generalize Maps.has (roSet K (ts.map TL.ro) i) kr = br at *
        cases bn with
        | true =>
         have HR : Hid (PCk ts 5 i):=HP2.out rfl (.inl (hbn.out.1 rfl))
         obtain ⟨A0,A1,q0,q1,⟨r0,r1⟩,⟨v0,v1⟩,HA⟩:=rchain2 HP5.out.box (by decide) (.int .i64 5) (.int .i64 (i : Int))
         have HBA:=hid (HA.out.2.2.2.1 _ _ (Nat.le_of_lt HP5.out.ord.1) HP5.out.bel)
         have y0 : A1.cell? ⟨g,0,none⟩ = some (.int .i64 5):=HA.out.1.cell 0
         have y1 : A1.cell? ⟨g,1,none⟩ = some (.int .i64 (i : Int)):=HA.out.1.cell 1
         clear HP1 HP2 HNX HNH HRH HPUT HA HX3 HX4 HX5 HP3 HP4 HP5 HNK HRK hbn hbr
         go_wp2_with fail
         (try simp only [Exit.inBlock,Exit.then])
         refine bodyPost_ret (by simp [results,Tryz.results10,go_sem,y0,y1]; try rfl) rfl ?_
         exact ⟨_,_,rfl,.inr ⟨rfl,HR.out⟩,HBA.out⟩
        | false =>
         cases br with
         | true =>
          have HR : Hid (PCk ts 5 i):=HP2.out rfl (.inr (hbr.out.1 rfl))
          obtain ⟨A0,A1,q0,q1,⟨r0,r1⟩,⟨v0,v1⟩,HA⟩:=rchain2 HP5.out.box (by decide) (.int .i64 5) (.int .i64 (i : Int))
          have HBA:=hid (HA.out.2.2.2.1 _ _ (Nat.le_of_lt HP5.out.ord.1) HP5.out.bel)
          have y0 : A1.cell? ⟨g,0,none⟩ = some (.int .i64 5):=HA.out.1.cell 0
          have y1 : A1.cell? ⟨g,1,none⟩ = some (.int .i64 (i : Int)):=HA.out.1.cell 1
          clear HP1 HP2 HNX HNH HRH HPUT HA HX3 HX4 HX5 HP3 HP4 HP5 HNK HRK hbn hbr
          go_wp2_with fail
          (try simp only [Exit.inBlock,Exit.then])
          refine bodyPost_ret (by simp [results,Tryz.results10,go_sem,y0,y1]; try rfl) rfl ?_
          exact ⟨_,_,rfl,.inr ⟨rfl,HR.out⟩,HBA.out⟩
         | false =>
          have hN1 : ¬ MetN ts i:=fun h => by have:=hbn.out.2 h; cases this
          have hR1 : ¬ MetR ts i:=fun h => by have:=hbr.out.2 h; cases this
          have HO1:=hid (HNX.out rfl hN1 hR1)
          have HPD : Hid (PIn w C2.drew K ts p q g i):=⟨HP5.out.nm,HP5.out.ro,HP5.out.box,Below.drew HP5.out.bel,HP5.out.ord⟩
          obtain ⟨W4,W5,u4,u5,g4,g5,hp6⟩:=HPUT.out _ HPD.out
          have HP6:=hid hp6
          have HX6 : Hid (Box C2.drew bx 37 tt.cells):=HX5.out
          have hpq:=HP5.out.ord
          have B4 : Box W4 bx 37 tt.cells:=qbox_gby HX6.out g4 (fun e => by injection e with e; omega)
          have B5 : Box W5 bx 37 tt.cells:=qbox_gby B4 g5 (fun e => by injection e with e; omega)
          have hs0 : C2.drew.cell? ⟨bx,0,none⟩ = some (.string tt.s) /\ C2.drew.cell? ⟨bx,1,none⟩ = some (.int .i32 tt.f) /\ C2.drew.cell? ⟨bx,2,none⟩ = some (.int .i32 tt.r):=⟨HX6.out.cell 0,HX6.out.cell 1,HX6.out.cell 2⟩
          have hs4 : W4.cell? ⟨bx,0,none⟩ = some (.string tt.s) /\ W4.cell? ⟨bx,1,none⟩ = some (.int .i32 tt.f) /\ W4.cell? ⟨bx,2,none⟩ = some (.int .i32 tt.r):=⟨B4.cell 0,B4.cell 1,B4.cell 2⟩
          have hs5 : W5.cell? ⟨bx,0,none⟩ = some (.string tt.s) /\ W5.cell? ⟨bx,1,none⟩ = some (.int .i32 tt.f) /\ W5.cell? ⟨bx,2,none⟩ = some (.int .i32 tt.r):=⟨B5.cell 0,B5.cell 1,B5.cell 2⟩
          clear HP1 HP2 HNX HNH HRH HPUT HX3 HX4 HX5 HX6 HP3 HP4 HP5 HNK HRK hbn hbr HPD hp6 B4 B5 g4 g5 hpq hN1 hR1
          go_wp2_with fail
          go_region_held3 (fun V : World => V.cell? ⟨bx,0,none⟩ = some (.string tt.s) /\ V.cell? ⟨bx,1,none⟩ = some (.int .i32 tt.f) /\ V.cell? ⟨bx,2,none⟩ = some (.int .i32 tt.r)) (first | exact hs0 | exact hs4 | exact hs5 | go_keep) (fail)
          all_goals (
           clear hs0 hs4 hs5 u4 u5 l0 l1
           go_wp2_with fail
           go_roundw
           case rel => exact ⟨i + 1,by go_num,by omega,HO1,HP6⟩
           case measure => simp [intOf]; omega)
      · have h0' : (E == 0) = false:=by simp [hE0]
        have h0'' : (E != 0) = true:=by simp [hE0]
        obtain ⟨A0,A1,q0,q1,⟨r0,r1⟩,⟨v0,v1⟩,HA⟩:=rchain2 HP3.out.box (by decide) (.int .i64 E) (.int .i64 (i : Int))
        have HBA:=hid (HA.out.2.2.2.1 _ _ (Nat.le_of_lt HP3.out.ord.1) HP3.out.bel)
        have y0 : A1.cell? ⟨g,0,none⟩ = some (.int .i64 E):=HA.out.1.cell 0
        have y1 : A1.cell? ⟨g,1,none⟩ = some (.int .i64 (i : Int)):=HA.out.1.cell 1
        have HR:=hid (HP1.out hE0)
        clear HP1 HP2 HNX HNK HRK HNH HRH HPUT HA HX3 HP3
        go_wp2_with fail
        (try simp only [Exit.inBlock,Exit.then])
        refine bodyPost_ret (by simp [results,Tryz.results10,go_sem,y0,y1]; try rfl) rfl ?_
        exact ⟨_,_,rfl,.inr ⟨rfl,HR.out⟩,HBA.out⟩
    · obtain rfl : i = N:=by omega
      have hi1 : ¬ (i : Int) < (i : Int):=by omega
      obtain ⟨A0,A1,q0,q1,⟨r0,r1⟩,⟨v0,v1⟩,HA⟩:=rchain2 HP.out.box (by decide) (.int .i64 0) (.int .i64 0)
      have HBA:=hid (HA.out.2.2.2.1 _ _ (Nat.le_of_lt HP.out.ord.1) HP.out.bel)
      have y0 : A1.cell? ⟨g,0,none⟩ = some (.int .i64 0):=HA.out.1.cell 0
      have y1 : A1.cell? ⟨g,1,none⟩ = some (.int .i64 0):=HA.out.1.cell 1
      have HR : Hid (PCk ts 0 0):=.inr ⟨by rw [HLN.out]; exact HO.out,rfl,rfl⟩
      clear HA HP HO
      go_wp2_with fail
      (try simp only [Exit.inBlock,Exit.then])
      refine bodyPost_ret (by simp [results,Tryz.results10,go_sem,y0,y1]; try rfl) rfl ?_
      exact ⟨_,_,rfl,.inr ⟨rfl,HR.out⟩,HBA.out⟩
 · have h0' : (E == 0) = false:=by simp [h0]
   have h0'' : (E != 0) = true:=by simp [h0]
   clear h24
   go_enter Tryz.func10,Tryz.ntmps10
   go_wp2_with fail
   refine Calls.mono HH.out ?_
   rintro e w1 ⟨rfl,hb1⟩
   have HB1:=hid (bt HBY.out hb1)
   have HF1:=hid (HF.out.later hb1 HF.out.lt)
   clear hb1 k0 k1 k2 k3 k4
   obtain ⟨A0,A1,q0,q1,⟨r0,r1⟩,⟨v0,v1⟩,HA⟩:=rchain2 HF1.out (by decide) (.int .i64 E) (.int .i64 (-1))
   have HBA:=hid (HA.out.2.2.2.1 _ _ (Nat.le_of_lt HXS.out) HB1.out)
   have f0 : A1.cell? ⟨g,0,none⟩ = some (.int .i64 E):=HA.out.1.cell 0
   have f1 : A1.cell? ⟨g,1,none⟩ = some (.int .i64 (-1)):=HA.out.1.cell 1
   go_wp2_with fail
   (try simp only [Exit.inBlock,Exit.then])
   refine bodyPost_ret (by simp [results,Tryz.results10,go_sem,f0,f1]; try rfl) rfl ?_
   exact ⟨E,-1,rfl,.inl ⟨h0,rfl,rfl⟩,HBA.out⟩
end Go.Proofs.YtnhmaijmmkplkaaGreatDoor
namespace Go.Proofs.YtnhmaijmmkplkaaGreatDoor
set_option maxHeartbeats 6400000
open Go.RowKit Go.ChangeShapes Go.WideShapes Go.ChangeAt Go.Joins Go.Deep
set_option linter.unusedVariables false
structure PL where
 s : ByteArray
 n : Bool
 a : Option Addr
 ca : Nat
 xs : List Int
 b : Option Addr
 cb : Nat
 ys : List Int
 t : Option Addr
 ct : Nat
 ts : List TL
def PL.cells (p : PL) : Array Value:=#[.string p.s,.bool p.n,.slice p.a p.xs.length p.ca,.slice p.b p.ys.length p.cb,.slice p.t p.ts.length p.ct]
structure PL.ok (p : PL) (w : World) : Prop where
 size : p.s.size <= maxLen
 sx : Sl w (.slice p.a p.xs.length p.ca) p.xs
 sy : Sl w (.slice p.b p.ys.length p.cb) p.ys
 len : p.ts.length <= p.ct /\ p.ct <= maxLen /\ (p.t = none -> p.ts.length = 0 /\ p.ct = 0)
 ts : RdT w p.t p.ts
theorem PL.ok.later {p : PL} {w w' : World} (h : p.ok w) (hb : Below w.heap.size w w') : p.ok w':=⟨h.size,h.sx.later hb,h.sy.later hb,h.len,h.ts.later hb⟩
def PL.hd (p : PL) : Int:=phd p.s.data.toList (rchk p.n p.xs p.ys) p.ts.length
theorem plcheck_any (p : PL) (w : World) (h : p.ok w) : Calls Tryz.prog 10 #[.agg p.cells] w fun e w' => ∃ c q,e = .returned (.agg #[.int .i64 c,.int .i64 q]) /\ PChk p.hd p.ts c q /\ Below w.heap.size w w' :=
 pCheck_any p.s p.n p.a p.ca p.xs p.b p.cb p.ys p.t p.ct p.ts w h.size h.sx h.sy h.ts
end Go.Proofs.YtnhmaijmmkplkaaGreatDoor
namespace Go.Proofs.YtnhmaijmmkplkaaGreatDoor
set_option maxHeartbeats 6400000
open Go.RowKit
set_option linter.unusedVariables false
set_option linter.unusedSimpArgs false
theorem qown_later {w w' : World} {base e s : Nat} {v : Value} {n : Nat} {xs : List Value} (h : w.ownsRow base e s v n xs) (hb : Below w.heap.size w w') : w'.ownsRow base e s v n xs:=by
 refine ⟨h.1,h.2.imp id ?_⟩
 rintro ⟨g,cap,cur,rfl,h1,h2,r⟩
 exact ⟨g,cap,cur,rfl,h1,(hb.block g (Array.getElem?_eq_some_iff.1 h2).1).trans h2,r⟩
theorem qown_base {w : World} {base base' e s : Nat} {v : Value} {n : Nat} {xs : List Value} (h : w.ownsRow base e s v n xs) (hb : base' <= base) : w.ownsRow base' e s v n xs:=by
 refine ⟨h.1,h.2.imp id ?_⟩
 rintro ⟨g,cap,cur,rfl,h1,r⟩
 exact ⟨g,cap,cur,rfl,by omega,r⟩
theorem qown_unlike {w : World} {b1 b2 e1 e2 s1 s2 n1 n2 : Nat} {v1 v2 : Value} {x1 x2 : List Value} (h : w.ownsRow b1 e1 s1 v1 n1 x1) (g : w.ownsRow b2 e2 s2 v2 n2 x2) (hne : e1 ≠ e2) : v1.ownBlock = none \/ v1.ownBlock ≠ v2.ownBlock:=by
 rcases h.2 with ⟨rfl,_⟩ | ⟨g1,c1,cur1,rfl,_,hh1,_⟩
 · exact .inl rfl
 · rcases g.2 with ⟨rfl,_⟩ | ⟨g2,c2,cur2,rfl,_,hh2,_⟩
   · exact .inr (by simp [Value.ownBlock])
   · refine .inr (fun e => ?_)
     simp only [Value.ownBlock,Option.some.injEq] at e
     subst e
     rw [hh1] at hh2
     injection hh2 with hh2
     injection hh2 with _ h3
     exact hne h3
structure TV where
 s : ByteArray
 f : Int
 r : Int
 n : Bool
 xs : List Int
 ys : List Int
 m : Bool
 us : List Int
 vs : List Int
def TL.v (t : TL) : TV:=⟨t.s,t.f,t.r,t.n,t.xs,t.ys,t.m,t.us,t.vs⟩
def TL.g (t : TL) : G6:=⟨t.n,t.a,t.ca,t.xs,t.b,t.cb,t.ys,t.m,t.c,t.cc,t.us,t.d,t.cd,t.vs⟩
def TV.ok (t : TV) : Prop:=t.s.size <= maxLen /\ in32 t.f t.r /\ Wd t.xs /\ Wd t.ys /\ Wd t.us /\ Wd t.vs
def TV.few (t : TV) : Prop:=t.xs.length <= 1099511627776 /\ t.ys.length <= 1099511627776 /\ t.us.length <= 1099511627776 /\ t.vs.length <= 1099511627776
theorem TL.ok.v {t : TL} {w : World} (h : t.ok w) : t.v.ok:=⟨h.size,h.rot,h.sx.wd,h.sy.wd,h.su.wd,h.sv.wd⟩
theorem TL.ok_of {t : TL} {w : World} {base : Nat} (h : t.v.ok) (ho : t.g.Ow w base) : t.ok w:=⟨h.1,h.2.1,Sl.own ho.1 h.2.2.1,Sl.own ho.2.1 h.2.2.2.1,Sl.own ho.2.2.1 h.2.2.2.2.1,Sl.own ho.2.2.2 h.2.2.2.2.2⟩
def flatT (L : List TL) : List Value:=L.flatMap fun t => t.cells.toList
theorem flatT_snoc (L : List TL) (t : TL) : flatT (L ++ [t]) = flatT L ++ t.cells.toList:=by unfold flatT; rw [List.flatMap_append,List.flatMap_cons,List.flatMap_nil,List.append_nil]
theorem flatT_cons (t : TL) (L : List TL) : flatT (t :: L) = t.cells.toList ++ flatT L:=rfl
theorem flatT_at {L : List TL} {j : Nat} {t : TL} (h : L[j]? = some t) {k : Nat} (hk : k < 9) : (flatT L)[j * 9 + k]? = t.cells[k]?:=by
 induction L generalizing j with
 | nil => simp at h
 | cons u L ih =>
  rw [flatT_cons]
  have hs : u.cells.toList.length = 9:=rfl
  cases j with
  | zero =>
   injection h with h
   subst h
   rw [List.getElem?_append_left (by omega),Nat.zero_mul,Nat.zero_add,Array.getElem?_toList]
  | succ j =>
   rw [List.getElem?_append_right (by omega),show (j + 1) * 9 + k - u.cells.toList.length = j * 9 + k by omega]
   exact ih h
theorem rdT_own {w : World} {base ct : Nat} {a : Option Addr} {L : List TL} (h : w.ownsRow base 37 9 (.slice a L.length ct) L.length (flatT L)) (hL : ∀ t ∈ L,t.ok w) : RdT w a L:=by
 refine ⟨hL,?_⟩
 have h':=h
 rcases h'.2 with ⟨h1,h0⟩ | ⟨g,cap,cur,hv,h1,h2,_⟩
 · exact .inl (List.eq_nil_of_length_eq_zero h0)
 · injection hv with e1 e2 e3
   subst e1
   refine .inr ⟨g,0,rfl,(Array.getElem?_eq_some_iff.1 h2).1,fun j t hj k hk => ?_⟩
   have hjl : j < L.length:=(List.getElem?_eq_some_iff.1 hj).1
   rw [Nat.zero_add,h.cellAt (j * 9 + k) (by omega),flatT_at hj hk]
theorem len_own {w : World} {base e s n ct : Nat} {a : Option Addr} {xs : List Value} (h : w.ownsRow base e s (.slice a n ct) n xs) : n <= ct /\ ct <= maxLen /\ (a = none -> n = 0 /\ ct = 0):=by
 rcases h.2 with ⟨h1,h0⟩ | ⟨g,cap,cur,hv,h1,h2,h3,h4,_⟩
 · injection h1 with e1 e2 e3
   subst e3
   rw [h0]
   exact ⟨Nat.le_refl _,Nat.zero_le _,fun _ => ⟨rfl,rfl⟩⟩
 · injection hv with e1 e2 e3
   subst e3
   exact ⟨h3,h4,fun e => by rw [e] at e1; cases e1⟩
structure PV where
 s : ByteArray
 n : Bool
 xs : List Int
 ys : List Int
 ts : List TV
def PL.v (p : PL) : PV:=⟨p.s,p.n,p.xs,p.ys,p.ts.map TL.v⟩
def PV.ok (p : PV) : Prop:=p.s.size <= maxLen /\ Wd p.xs /\ Wd p.ys /\ ∀ t ∈ p.ts,t.ok
def PV.few (p : PV) : Prop:=p.xs.length <= 1099511627776 /\ p.ys.length <= 1099511627776 /\ p.ts.length <= 1000000 /\ ∀ t ∈ p.ts,t.few
theorem PL.ok.v {p : PL} {w : World} (h : p.ok w) : p.v.ok:=⟨h.size,h.sx.wd,h.sy.wd,fun t ht => by
 obtain ⟨u,hu,rfl⟩:=List.mem_map.1 ht
 exact (h.ts.1 u hu).v⟩
structure PL.Ow (p : PL) (W : World) (base : Nat) : Prop where
 mx : W.ownsRow base 69 1 (.slice p.a p.xs.length p.ca) p.xs.length (p.xs.map (Value.int .u32))
 my : W.ownsRow base 69 1 (.slice p.b p.ys.length p.cb) p.ys.length (p.ys.map (Value.int .u32))
 row : W.ownsRow base 37 9 (.slice p.t p.ts.length p.ct) p.ts.length (flatT p.ts)
 els : ∀ t ∈ p.ts,t.g.Ow W base
theorem PL.Ow.later {p : PL} {W W' : World} {base : Nat} (h : p.Ow W base) (hb : Below W.heap.size W W') : p.Ow W' base:=⟨qown_later h.mx hb,qown_later h.my hb,qown_later h.row hb,fun t ht => (h.els t ht).later hb⟩
theorem PL.Ow.base {p : PL} {W : World} {base base' : Nat} (h : p.Ow W base) (hb : base' <= base) : p.Ow W base':=⟨qown_base h.mx hb,qown_base h.my hb,qown_base h.row hb,fun t ht => (h.els t ht).base hb⟩
theorem PL.ok_of {p : PL} {w : World} {base : Nat} (h : p.v.ok) (ho : p.Ow w base) : p.ok w :=
 ⟨h.1,Sl.own ho.mx h.2.1,Sl.own ho.my h.2.2.1,len_own ho.row,rdT_own ho.row fun t ht => TL.ok_of (h.2.2.2 _ (List.mem_map.2 ⟨t,ht,rfl⟩)) (ho.els t ht)⟩
def TSq : Nat -> Nat -> List TL -> Prop
 | lo,hi,[] => lo <= hi
 | lo,hi,t :: r => ∃ x y,lo <= x /\ x <= y /\ t.g.In x y /\ TSq y hi r
theorem TSq.wide : ∀ {L : List TL} {lo hi lo' hi' : Nat},TSq lo hi L -> lo' <= lo -> hi <= hi' -> TSq lo' hi' L
 | [],_,_,_,_,h,h1,h2 => by unfold TSq at *; omega
 | _ :: _,_,_,_,_,⟨x,y,g1,g2,g3,g4⟩,h1,h2 => ⟨x,y,by omega,g2,g3,g4.wide (Nat.le_refl _) h2⟩
theorem TSq.snoc {t : TL} {x y hi : Nat} : ∀ {L : List TL} {lo m : Nat},TSq lo m L -> m <= x -> x <= y -> t.g.In x y -> y <= hi -> TSq lo hi (L ++ [t])
 | [],lo,m,h,h1,h2,h3,h4 => by unfold TSq at h; exact ⟨x,y,by omega,h2,h3,h4⟩
 | _ :: _,_,_,⟨a,b,g1,g2,g3,g4⟩,h1,h2,h3,h4 => ⟨a,b,g1,g2,g3,g4.snoc h1 h2 h3 h4⟩
def PL.In (p : PL) (lo hi : Nat) : Prop:=∃ c d,lo <= c /\ c <= d /\ Lies (.slice p.a p.xs.length p.ca) lo c /\ Lies (.slice p.b p.ys.length p.cb) c d /\ TSq d hi p.ts
structure Made (p : PL) (v : PV) (w w' : World) : Prop where
 v : p.v = v
 ow : p.Ow w' w.heap.size
 sep : p.In w.heap.size w'.heap.size
 bel : Below w.heap.size w w'
set_option maxRecDepth 100000 in
theorem pcopyR_any (n : Bool) (a : Option Addr) (ca : Nat) (xs : List Int) (b : Option Addr) (cb : Nat) (ys : List Int) (w : World) (sx : Sl w (.slice a xs.length ca) xs) (sy : Sl w (.slice b ys.length cb) ys) (hlx : xs.length <= 1099511627776) (hly : ys.length <= 1099511627776) :
 Calls Tryz.prog 100 #[.agg #[.bool n,.slice a xs.length ca,.slice b ys.length cb]] w fun e w' => ∃ a1 c1 a2 c2,e = .returned (.agg #[.bool n,.slice a1 xs.length c1,.slice a2 ys.length c2]) /\ w'.ownsRow w.heap.size 69 1 (.slice a1 xs.length c1) xs.length (xs.map (Value.int .u32)) /\ w'.ownsRow w.heap.size 69 1 (.slice a2 ys.length c2) ys.length (ys.map (Value.int .u32)) /\ Below w.heap.size w w' /\ Cut w (.slice a1 xs.length c1) (.slice a2 ys.length c2) w':=by
 have HX:=hid (boxes2r w 24 #[.bool n,.slice a xs.length ca,.slice b ys.length cb] #[.bool false,.slice none 0 0,.slice none 0 0])
 obtain ⟨X,hX⟩ : ∃ X,(w.alloc (.cells #[.bool n,.slice a xs.length ca,.slice b ys.length cb] 24)).alloc (.cells #[.bool false,.slice none 0 0,.slice none 0 0] 24) = X:=⟨_,rfl⟩
 rw [hX] at HX
 have HSX : Hid (∀ V,Below X.heap.size X V -> Sl V (.slice a xs.length ca) xs):=fun V hv => sx.later (bt HX.out.2.2 hv)
 have HSY : Hid (∀ V,Below X.heap.size X V -> Sl V (.slice b ys.length cb) ys):=fun V hv => sy.later (bt HX.out.2.2 hv)
 have HK : Hid (∀ V,Below X.heap.size X V -> V.cell? ⟨w.heap.size,0,none⟩ = some (.bool n) /\ V.cell? ⟨w.heap.size,1,none⟩ = some (.slice a xs.length ca) /\ V.cell? ⟨w.heap.size,2,none⟩ = some (.slice b ys.length cb)):=fun V hv => by
  have h:=HX.out.1.later hv HX.out.1.lt
  exact ⟨h.cell 0,h.cell 1,h.cell 2⟩
 have HKP : Hid (∀ V,Below X.heap.size X V -> ∀ (v0 v1 v2 : Value),((((V.setCell ⟨w.heap.size + 1,0,none⟩ v0).setCell ⟨w.heap.size + 1,1,none⟩ v1).setCell ⟨w.heap.size + 1,2,none⟩ v2).cell? ⟨w.heap.size,0,none⟩ = some (.bool n) /\ (((V.setCell ⟨w.heap.size + 1,0,none⟩ v0).setCell ⟨w.heap.size + 1,1,none⟩ v1).setCell ⟨w.heap.size + 1,2,none⟩ v2).cell? ⟨w.heap.size,1,none⟩ = some (.slice a xs.length ca) /\ (((V.setCell ⟨w.heap.size + 1,0,none⟩ v0).setCell ⟨w.heap.size + 1,1,none⟩ v1).setCell ⟨w.heap.size + 1,2,none⟩ v2).cell? ⟨w.heap.size,2,none⟩ = some (.slice b ys.length cb))):=fun V hv v0 v1 v2 => by
  have h:=box_far3 (HX.out.1.later hv HX.out.1.lt) (show w.heap.size ≠ w.heap.size + 1 by omega) v0 v1 v2
  exact ⟨h.cell 0,h.cell 1,h.cell 2⟩
 have HM : Hid (∀ V,Below X.heap.size X V -> V.cell? ⟨w.heap.size + 1,0,none⟩ = some (.bool false) /\ V.cell? ⟨w.heap.size + 1,1,none⟩ = some (.slice none 0 0) /\ V.cell? ⟨w.heap.size + 1,2,none⟩ = some (.slice none 0 0) /\ V.frozen? ⟨w.heap.size + 1,0,none⟩ = false /\ V.frozen? ⟨w.heap.size + 1,1,none⟩ = false /\ V.frozen? ⟨w.heap.size + 1,2,none⟩ = false):=fun V hv => by
  have h:=HX.out.2.1.later hv HX.out.2.1.lt
  exact ⟨h.cell 0,h.cell 1,h.cell 2,h.free 0,h.free 1,h.free 2⟩
 have hd0:=hid (Below.refl X.heap.size X).drew
 have hs0:=HK.out _ hd0.out
 clear sx sy
 go_enter Tryz.func100,Tryz.ntmps100
 go_wp2_with fail
 go_region_held3 (fun V : World => V.cell? ⟨w.heap.size,0,none⟩ = some (.bool n) /\ V.cell? ⟨w.heap.size,1,none⟩ = some (.slice a xs.length ca) /\ V.cell? ⟨w.heap.size,2,none⟩ = some (.slice b ys.length cb)) (first | exact hsB | exact hsA | exact hs0 | exact HKP.out _ hbB _ _ _ | exact HKP.out _ hbA _ _ _)
  (first
   | (refine step_copy rfl (.const (.slice none 0 0)) (.tmp 6) rfl (.slice a xs.length ca) xs rfl rfl (HSX.out _ hbB) hlx ?_; intro a1 c1 w1 o1 b1; have hbA:=bt hbB b1; have hsA:=HK.out _ hbA; obtain ⟨m0,m1,m2,f0,f1,f2⟩:=HM.out _ hbA; have HA:=hid (And.intro o1 b1))
   | (refine step_copy rfl (.const (.slice none 0 0)) (.tmp 6) rfl (.slice a xs.length ca) xs rfl rfl (HSX.out _ hd0.out) hlx ?_; intro a1 c1 w1 o1 b1; have hbA:=bt hd0.out b1; have hsA:=HK.out _ hbA; obtain ⟨m0,m1,m2,f0,f1,f2⟩:=HM.out _ hbA; have HA:=hid (And.intro o1 b1))
   | (refine step_copy rfl (.const (.slice none 0 0)) (.tmp 9) rfl (.slice b ys.length cb) ys rfl rfl (HSY.out _ hbA) hly ?_; intro a2 c2 w2 o2 b2; have hbB:=bt hbA b2; have hsB:=HK.out _ hbB; obtain ⟨m0,m1,m2,f0,f1,f2⟩:=HM.out _ hbB; have HB:=hid (And.intro o2 b2))
   | (refine step_copy rfl (.const (.slice none 0 0)) (.tmp 9) rfl (.slice b ys.length cb) ys rfl rfl (HSY.out _ hd0.out) hly ?_; intro a2 c2 w2 o2 b2; have hbB:=bt hd0.out b2; have hsB:=HK.out _ hbB; obtain ⟨m0,m1,m2,f0,f1,f2⟩:=HM.out _ hbB; have HB:=hid (And.intro o2 b2)))
 have HBX:=hid (HX.out.2.1.later hbB HX.out.2.1.lt)
 have HBW:=hid (bt HX.out.2.2 hbB)
 have HO1:=hid (owns_later o1 b2)
 have HO2:=hid o2
 have HL1 : Hid (Lies (.slice a1 xs.length c1) w.heap.size w1.heap.size):=fun g hg => ⟨Nat.le_trans HX.out.2.2.size (o1.lt g hg).1,(o1.lt g hg).2⟩
 have HL2 : Hid (Lies (.slice a2 ys.length c2) w1.heap.size w2.heap.size):=fun g hg => ⟨(o2.lt g hg).1,(o2.lt g hg).2⟩
 have hXs : w.heap.size + 1 < X.heap.size:=HX.out.2.1.lt
 have h1s : X.heap.size <= w1.heap.size:=hbA.size
 have h2s : w1.heap.size <= w2.heap.size:=b2.size
 have hwX : w.heap.size <= X.heap.size:=HX.out.2.2.size
 clear HA HB hs0 hsA hsB hd0 o1 o2 b1 b2 hbA hbB HK HKP HM HSX HSY
 go_wp2_with fail
 have B1:=box_put3 HBX.out (.bool n) (.slice a1 xs.length c1) (.slice a2 ys.length c2)
 have e1 : ∀ g,(Value.slice a1 xs.length c1).ownBlock = some g -> g ≠ w.heap.size + 1:=fun g hg => by have:=(HO1.out.lt g hg).1; have e : X.drew.heap.size = X.heap.size:=rfl; omega
 have e2 : ∀ g,(Value.slice a2 ys.length c2).ownBlock = some g -> g ≠ w.heap.size + 1:=fun g hg => by have:=(HO2.out.lt g hg).1; omega
 have V1:=own_put3' HO1.out _ e1 (.bool n) (.slice a1 xs.length c1) (.slice a2 ys.length c2)
 have U1:=own_put3' HO2.out _ e2 (.bool n) (.slice a1 xs.length c1) (.slice a2 ys.length c2)
 have G1:=below_put3 HBW.out (w.heap.size + 1) (by omega) (.bool n) (.slice a1 xs.length c1) (.slice a2 ys.length c2)
 refine bodyPost_ret (results_cell_row (by rfl) _ _ (w.heap.size + 1) 24 _ (0,0) _ (by rfl) B1 Tryz.underlying24 rfl (by kernel_rfl)) rfl ?_
 refine ⟨_,_,_,_,rfl,owns_base V1 hwX,owns_base U1 (by omega),G1,?_⟩
 exact ⟨w1.heap.size,by omega,by simp [World.setCell]; omega,HL1.out,fun g hg => ⟨(HL2.out g hg).1,by have:=(HL2.out g hg).2; simp [World.setCell]; omega⟩⟩
set_option maxRecDepth 100000 in
theorem tcopyR_any (n : Bool) (a : Option Addr) (ca : Nat) (xs : List Int) (b : Option Addr) (cb : Nat) (ys : List Int) (w : World) (sx : Sl w (.slice a xs.length ca) xs) (sy : Sl w (.slice b ys.length cb) ys) (hlx : xs.length <= 1099511627776) (hly : ys.length <= 1099511627776) :
 Calls Tryz.prog 156 #[.agg #[.bool n,.slice a xs.length ca,.slice b ys.length cb]] w fun e w' => ∃ a1 c1 a2 c2,e = .returned (.agg #[.bool n,.slice a1 xs.length c1,.slice a2 ys.length c2]) /\ w'.ownsRow w.heap.size 69 1 (.slice a1 xs.length c1) xs.length (xs.map (Value.int .u32)) /\ w'.ownsRow w.heap.size 69 1 (.slice a2 ys.length c2) ys.length (ys.map (Value.int .u32)) /\ Below w.heap.size w w' /\ Cut w (.slice a1 xs.length c1) (.slice a2 ys.length c2) w':=by
 have HX:=hid (boxes2r w 24 #[.bool n,.slice a xs.length ca,.slice b ys.length cb] #[.bool false,.slice none 0 0,.slice none 0 0])
 obtain ⟨X,hX⟩ : ∃ X,(w.alloc (.cells #[.bool n,.slice a xs.length ca,.slice b ys.length cb] 24)).alloc (.cells #[.bool false,.slice none 0 0,.slice none 0 0] 24) = X:=⟨_,rfl⟩
 rw [hX] at HX
 have HSX : Hid (∀ V,Below X.heap.size X V -> Sl V (.slice a xs.length ca) xs):=fun V hv => sx.later (bt HX.out.2.2 hv)
 have HSY : Hid (∀ V,Below X.heap.size X V -> Sl V (.slice b ys.length cb) ys):=fun V hv => sy.later (bt HX.out.2.2 hv)
 have HK : Hid (∀ V,Below X.heap.size X V -> V.cell? ⟨w.heap.size,0,none⟩ = some (.bool n) /\ V.cell? ⟨w.heap.size,1,none⟩ = some (.slice a xs.length ca) /\ V.cell? ⟨w.heap.size,2,none⟩ = some (.slice b ys.length cb)):=fun V hv => by
  have h:=HX.out.1.later hv HX.out.1.lt
  exact ⟨h.cell 0,h.cell 1,h.cell 2⟩
 have HKP : Hid (∀ V,Below X.heap.size X V -> ∀ (v0 v1 v2 : Value),((((V.setCell ⟨w.heap.size + 1,0,none⟩ v0).setCell ⟨w.heap.size + 1,1,none⟩ v1).setCell ⟨w.heap.size + 1,2,none⟩ v2).cell? ⟨w.heap.size,0,none⟩ = some (.bool n) /\ (((V.setCell ⟨w.heap.size + 1,0,none⟩ v0).setCell ⟨w.heap.size + 1,1,none⟩ v1).setCell ⟨w.heap.size + 1,2,none⟩ v2).cell? ⟨w.heap.size,1,none⟩ = some (.slice a xs.length ca) /\ (((V.setCell ⟨w.heap.size + 1,0,none⟩ v0).setCell ⟨w.heap.size + 1,1,none⟩ v1).setCell ⟨w.heap.size + 1,2,none⟩ v2).cell? ⟨w.heap.size,2,none⟩ = some (.slice b ys.length cb))):=fun V hv v0 v1 v2 => by
  have h:=box_far3 (HX.out.1.later hv HX.out.1.lt) (show w.heap.size ≠ w.heap.size + 1 by omega) v0 v1 v2
  exact ⟨h.cell 0,h.cell 1,h.cell 2⟩
 have HM : Hid (∀ V,Below X.heap.size X V -> V.cell? ⟨w.heap.size + 1,0,none⟩ = some (.bool false) /\ V.cell? ⟨w.heap.size + 1,1,none⟩ = some (.slice none 0 0) /\ V.cell? ⟨w.heap.size + 1,2,none⟩ = some (.slice none 0 0) /\ V.frozen? ⟨w.heap.size + 1,0,none⟩ = false /\ V.frozen? ⟨w.heap.size + 1,1,none⟩ = false /\ V.frozen? ⟨w.heap.size + 1,2,none⟩ = false):=fun V hv => by
  have h:=HX.out.2.1.later hv HX.out.2.1.lt
  exact ⟨h.cell 0,h.cell 1,h.cell 2,h.free 0,h.free 1,h.free 2⟩
 have hd0:=hid (Below.refl X.heap.size X).drew
 have hs0:=HK.out _ hd0.out
 clear sx sy
 go_enter Tryz.func156,Tryz.ntmps156
 go_wp2_with fail
 go_region_held3 (fun V : World => V.cell? ⟨w.heap.size,0,none⟩ = some (.bool n) /\ V.cell? ⟨w.heap.size,1,none⟩ = some (.slice a xs.length ca) /\ V.cell? ⟨w.heap.size,2,none⟩ = some (.slice b ys.length cb)) (first | exact hsB | exact hsA | exact hs0 | exact HKP.out _ hbB _ _ _ | exact HKP.out _ hbA _ _ _)
  (first
   | (refine step_copy rfl (.const (.slice none 0 0)) (.tmp 6) rfl (.slice a xs.length ca) xs rfl rfl (HSX.out _ hbB) hlx ?_; intro a1 c1 w1 o1 b1; have hbA:=bt hbB b1; have hsA:=HK.out _ hbA; obtain ⟨m0,m1,m2,f0,f1,f2⟩:=HM.out _ hbA; have HA:=hid (And.intro o1 b1))
   | (refine step_copy rfl (.const (.slice none 0 0)) (.tmp 6) rfl (.slice a xs.length ca) xs rfl rfl (HSX.out _ hd0.out) hlx ?_; intro a1 c1 w1 o1 b1; have hbA:=bt hd0.out b1; have hsA:=HK.out _ hbA; obtain ⟨m0,m1,m2,f0,f1,f2⟩:=HM.out _ hbA; have HA:=hid (And.intro o1 b1))
   | (refine step_copy rfl (.const (.slice none 0 0)) (.tmp 9) rfl (.slice b ys.length cb) ys rfl rfl (HSY.out _ hbA) hly ?_; intro a2 c2 w2 o2 b2; have hbB:=bt hbA b2; have hsB:=HK.out _ hbB; obtain ⟨m0,m1,m2,f0,f1,f2⟩:=HM.out _ hbB; have HB:=hid (And.intro o2 b2))
   | (refine step_copy rfl (.const (.slice none 0 0)) (.tmp 9) rfl (.slice b ys.length cb) ys rfl rfl (HSY.out _ hd0.out) hly ?_; intro a2 c2 w2 o2 b2; have hbB:=bt hd0.out b2; have hsB:=HK.out _ hbB; obtain ⟨m0,m1,m2,f0,f1,f2⟩:=HM.out _ hbB; have HB:=hid (And.intro o2 b2)))
 have HBX:=hid (HX.out.2.1.later hbB HX.out.2.1.lt)
 have HBW:=hid (bt HX.out.2.2 hbB)
 have HO1:=hid (owns_later o1 b2)
 have HO2:=hid o2
 have HL1 : Hid (Lies (.slice a1 xs.length c1) w.heap.size w1.heap.size):=fun g hg => ⟨Nat.le_trans HX.out.2.2.size (o1.lt g hg).1,(o1.lt g hg).2⟩
 have HL2 : Hid (Lies (.slice a2 ys.length c2) w1.heap.size w2.heap.size):=fun g hg => ⟨(o2.lt g hg).1,(o2.lt g hg).2⟩
 have hXs : w.heap.size + 1 < X.heap.size:=HX.out.2.1.lt
 have h1s : X.heap.size <= w1.heap.size:=hbA.size
 have h2s : w1.heap.size <= w2.heap.size:=b2.size
 have hwX : w.heap.size <= X.heap.size:=HX.out.2.2.size
 clear HA HB hs0 hsA hsB hd0 o1 o2 b1 b2 hbA hbB HK HKP HM HSX HSY
 go_wp2_with fail
 have B1:=box_put3 HBX.out (.bool n) (.slice a1 xs.length c1) (.slice a2 ys.length c2)
 have e1 : ∀ g,(Value.slice a1 xs.length c1).ownBlock = some g -> g ≠ w.heap.size + 1:=fun g hg => by have:=(HO1.out.lt g hg).1; have e : X.drew.heap.size = X.heap.size:=rfl; omega
 have e2 : ∀ g,(Value.slice a2 ys.length c2).ownBlock = some g -> g ≠ w.heap.size + 1:=fun g hg => by have:=(HO2.out.lt g hg).1; omega
 have V1:=own_put3' HO1.out _ e1 (.bool n) (.slice a1 xs.length c1) (.slice a2 ys.length c2)
 have U1:=own_put3' HO2.out _ e2 (.bool n) (.slice a1 xs.length c1) (.slice a2 ys.length c2)
 have G1:=below_put3 HBW.out (w.heap.size + 1) (by omega) (.bool n) (.slice a1 xs.length c1) (.slice a2 ys.length c2)
 refine bodyPost_ret (results_cell_row (by rfl) _ _ (w.heap.size + 1) 24 _ (0,0) _ (by rfl) B1 Tryz.underlying24 rfl (by kernel_rfl)) rfl ?_
 refine ⟨_,_,_,_,rfl,owns_base V1 hwX,owns_base U1 (by omega),G1,?_⟩
 exact ⟨w1.heap.size,by omega,by simp [World.setCell]; omega,HL1.out,fun g hg => ⟨(HL2.out g hg).1,by have:=(HL2.out g hg).2; simp [World.setCell]; omega⟩⟩
set_option maxRecDepth 100000 in
theorem ncopy_any (n : Bool) (a : Option Addr) (ca : Nat) (xs : List Int) (b : Option Addr) (cb : Nat) (ys : List Int) (m : Bool) (c : Option Addr) (cc : Nat) (us : List Int) (d : Option Addr) (cd : Nat) (vs : List Int) (w : World) (sx : Sl w (.slice a xs.length ca) xs) (sy : Sl w (.slice b ys.length cb) ys) (su : Sl w (.slice c us.length cc) us) (sv : Sl w (.slice d vs.length cd) vs) (hlx : xs.length <= 1099511627776) (hly : ys.length <= 1099511627776) (hlu : us.length <= 1099511627776) (hlv : vs.length <= 1099511627776) :
 Calls Tryz.prog 101 #[.agg #[.bool n,.slice a xs.length ca,.slice b ys.length cb,.bool m,.slice c us.length cc,.slice d vs.length cd]] w fun e w' => ∃ a1 c1 a2 c2 a3 c3 a4 c4,e = .returned (.agg #[.bool n,.slice a1 xs.length c1,.slice a2 ys.length c2,.bool m,.slice a3 us.length c3,.slice a4 vs.length c4]) /\ (w'.ownsRow w.heap.size 69 1 (.slice a1 xs.length c1) xs.length (xs.map (Value.int .u32)) /\ w'.ownsRow w.heap.size 69 1 (.slice a2 ys.length c2) ys.length (ys.map (Value.int .u32)) /\ w'.ownsRow w.heap.size 69 1 (.slice a3 us.length c3) us.length (us.map (Value.int .u32)) /\ w'.ownsRow w.heap.size 69 1 (.slice a4 vs.length c4) vs.length (vs.map (Value.int .u32))) /\ Below w.heap.size w w' /\ ∃ W1,Cut w (.slice a1 xs.length c1) (.slice a2 ys.length c2) W1 /\ Cut W1 (.slice a3 us.length c3) (.slice a4 vs.length c4) w':=by
 obtain ⟨X,hX⟩ : ∃ X,w.alloc (.cells #[.bool n,.slice a xs.length ca,.slice b ys.length cb,.bool m,.slice c us.length cc,.slice d vs.length cd] 128) = X:=⟨_,rfl⟩
 obtain ⟨Y,hY⟩ : ∃ Y,X.alloc (.cells #[.bool false,.slice none 0 0,.slice none 0 0,.bool false,.slice none 0 0,.slice none 0 0] 35) = Y:=⟨_,rfl⟩
 have HX : Hid (Box Y w.heap.size 128 #[.bool n,.slice a xs.length ca,.slice b ys.length cb,.bool m,.slice c us.length cc,.slice d vs.length cd]):=by
  subst hY hX
  exact (Box.made w _ _).later (alloc_later _ _) (Box.made w 128 _).lt
 have HR : Hid (Box Y X.heap.size 35 #[.bool false,.slice none 0 0,.slice none 0 0,.bool false,.slice none 0 0,.slice none 0 0]):=by
  subst hY
  exact Box.made X _ _
 have HXs : X.heap.size = w.heap.size + 1:=by subst hX; simp
 have HB : Hid (Below w.heap.size w Y):=by
  subst hY hX
  exact bt (alloc_later _ _) (alloc_later _ _)
 rw [HXs] at HR
 have hg1 : X.heap.size = w.heap.size + 1:=HXs
 have HYs : Hid (w.heap.size + 1 < Y.heap.size):=HR.out.lt
 have H1 : Hid (∀ V,Below Y.heap.size Y V -> Calls Tryz.prog 156 #[.agg #[.bool n,.slice a xs.length ca,.slice b ys.length cb]] V fun e w' => ∃ a1 c1 a2 c2,e = .returned (.agg #[.bool n,.slice a1 xs.length c1,.slice a2 ys.length c2]) /\ w'.ownsRow V.heap.size 69 1 (.slice a1 xs.length c1) xs.length (xs.map (Value.int .u32)) /\ w'.ownsRow V.heap.size 69 1 (.slice a2 ys.length c2) ys.length (ys.map (Value.int .u32)) /\ Below V.heap.size V w' /\ Cut V (.slice a1 xs.length c1) (.slice a2 ys.length c2) w'):=fun V hV => tcopyR_any n a ca xs b cb ys V (sx.later (bt HB.out hV)) (sy.later (bt HB.out hV)) hlx hly
 have H2 : Hid (∀ V,Below Y.heap.size Y V -> Calls Tryz.prog 156 #[.agg #[.bool m,.slice c us.length cc,.slice d vs.length cd]] V fun e w' => ∃ a1 c1 a2 c2,e = .returned (.agg #[.bool m,.slice a1 us.length c1,.slice a2 vs.length c2]) /\ w'.ownsRow V.heap.size 69 1 (.slice a1 us.length c1) us.length (us.map (Value.int .u32)) /\ w'.ownsRow V.heap.size 69 1 (.slice a2 vs.length c2) vs.length (vs.map (Value.int .u32)) /\ Below V.heap.size V w' /\ Cut V (.slice a1 us.length c1) (.slice a2 vs.length c2) w'):=fun V hV => tcopyR_any m c cc us d cd vs V (su.later (bt HB.out hV)) (sv.later (bt HB.out hV)) hlu hlv
 have HS : Hid (∀ V,Below Y.heap.size Y V -> V.cell? ⟨w.heap.size,0,none⟩ = some (.bool n) /\ V.cell? ⟨w.heap.size,1,none⟩ = some (.slice a xs.length ca) /\ V.cell? ⟨w.heap.size,2,none⟩ = some (.slice b ys.length cb) /\ V.cell? ⟨w.heap.size,3,none⟩ = some (.bool m) /\ V.cell? ⟨w.heap.size,4,none⟩ = some (.slice c us.length cc) /\ V.cell? ⟨w.heap.size,5,none⟩ = some (.slice d vs.length cd)):=fun V hV => by
  have h:=HX.out.later hV HX.out.lt
  exact ⟨h.cell 0,h.cell 1,h.cell 2,h.cell 3,h.cell 4,h.cell 5⟩
 have HF : Hid (∀ V A0 A1 A2 A3 A4 A5 v0 v1 v2 v3 v4 v5,Below Y.heap.size Y V -> V.setCell ⟨w.heap.size + 1,0,none⟩ v0 = A0 -> A0.setCell ⟨w.heap.size + 1,1,none⟩ v1 = A1 -> A1.setCell ⟨w.heap.size + 1,2,none⟩ v2 = A2 -> A2.setCell ⟨w.heap.size + 1,3,none⟩ v3 = A3 -> A3.setCell ⟨w.heap.size + 1,4,none⟩ v4 = A4 -> A4.setCell ⟨w.heap.size + 1,5,none⟩ v5 = A5 -> A5.cell? ⟨w.heap.size,0,none⟩ = some (.bool n) /\ A5.cell? ⟨w.heap.size,1,none⟩ = some (.slice a xs.length ca) /\ A5.cell? ⟨w.heap.size,2,none⟩ = some (.slice b ys.length cb) /\ A5.cell? ⟨w.heap.size,3,none⟩ = some (.bool m) /\ A5.cell? ⟨w.heap.size,4,none⟩ = some (.slice c us.length cc) /\ A5.cell? ⟨w.heap.size,5,none⟩ = some (.slice d vs.length cd)):=fun V A0 A1 A2 A3 A4 A5 v0 v1 v2 v3 v4 v5 hV e0 e1 e2 e3 e4 e5 => by
  subst e0 e1 e2 e3 e4 e5
  have hne : w.heap.size ≠ w.heap.size + 1:=by omega
  have h:=(((((((HX.out.later hV HX.out.lt : Box _ _ _ _).other ⟨w.heap.size + 1,0,none⟩ v0 hne).other ⟨w.heap.size + 1,1,none⟩ v1 hne).other ⟨w.heap.size + 1,2,none⟩ v2 hne).other ⟨w.heap.size + 1,3,none⟩ v3 hne).other ⟨w.heap.size + 1,4,none⟩ v4 hne).other ⟨w.heap.size + 1,5,none⟩ v5 hne)
  exact ⟨h.cell 0,h.cell 1,h.cell 2,h.cell 3,h.cell 4,h.cell 5⟩
 have hd0:=hid (Below.refl Y.heap.size Y).drew
 have hs0:=HS.out _ hd0.out
 clear sx sy su sv
 go_enter Tryz.func101,Tryz.ntmps101
 go_wp2_with fail
 go_region_held3 (fun V : World => V.cell? ⟨w.heap.size,0,none⟩ = some (.bool n) /\ V.cell? ⟨w.heap.size,1,none⟩ = some (.slice a xs.length ca) /\ V.cell? ⟨w.heap.size,2,none⟩ = some (.slice b ys.length cb) /\ V.cell? ⟨w.heap.size,3,none⟩ = some (.bool m) /\ V.cell? ⟨w.heap.size,4,none⟩ = some (.slice c us.length cc) /\ V.cell? ⟨w.heap.size,5,none⟩ = some (.slice d vs.length cd)) (first | exact hs3 | exact hs2 | exact hs1 | exact hs0 | go_keep)
  (first
   | (go_at_call 156; (with_reducible refine Calls.mono (H1.out _ hd0.out) ?_); rintro e w1 ⟨a1,c1,a2,c2,rfl,o1,o2,b1,ct1⟩; have hbA:=hid (bt hd0.out b1); have hs1:=HS.out _ hbA.out; have HA:=hid (And.intro o1 (And.intro o2 (And.intro b1 ct1))))
   | (go_at_call 156; (with_reducible refine Calls.mono (H2.out _ hbA.out) ?_); rintro e w2 ⟨a3,c3,a4,c4,rfl,o3,o4,b2,ct2⟩; have hbB:=hid (bt hbA.out b2); have hs2:=HS.out _ hbB.out; have HB2:=hid (And.intro o3 (And.intro o4 (And.intro b2 ct2))); have HQ:=hid (HR.out.later hbB.out HR.out.lt); obtain ⟨A0,A1,A2,A3,A4,A5,hA0,hA1,hA2,hA3,hA4,hA5,⟨q0,q1,q2,q3,q4,q5⟩,f0,f1,f2,f3,f4,f5⟩:=gchain6 HQ.out (.bool n) (.slice a1 xs.length c1) (.slice a2 ys.length c2) (.bool m) (.slice a3 us.length c3) (.slice a4 vs.length c4); have hs3:=HF.out _ _ _ _ _ _ _ _ _ _ _ _ _ hbB.out hA0 hA1 hA2 hA3 hA4 hA5))
 have HYw : Hid (w.heap.size <= Y.heap.size):=HB.out.size
 have HE : Hid (Box A5 (w.heap.size + 1) 35 #[.bool n,.slice a1 xs.length c1,.slice a2 ys.length c2,.bool m,.slice a3 us.length c3,.slice a4 vs.length c4] /\ Below w.heap.size w A5 /\ A5.heap.size = w2.heap.size /\ ∀ (base k : Nat) (v : Value) (l : List Value),w.heap.size + 1 < base -> w2.ownsRow base 69 1 v k l -> A5.ownsRow base 69 1 v k l):=by
  have hBw:=bt HB.out hbB.out
  have hq:=HQ.out
  clear q0 q1 q2 q3 q4 q5 f0 f1 f2 f3 f4 f5 hs0 hs1 hs2 hs3 HQ
  subst hA0 hA1 hA2 hA3 hA4 hA5
  exact ⟨box_put6 hq _ _ _ _ _ _,below_put6 hBw _ (by omega) _ _ _ _ _ _,by simp [World.setCell],fun base k v l hb h => own_put6 h _ (fun g hg => by have:=(h.lt g hg).1; omega) _ _ _ _ _ _⟩
 have HY1 : Hid (Y.drew.heap.size = Y.heap.size):=rfl
 have HW1 : Hid (Y.heap.size <= w1.heap.size):=hbA.out.size
 clear hs0 hs1 hs2 hs3 hA0 hA1 hA2 hA3 hA4 hA5 q0 q1 q2 q3 q4 q5 f0 f1 f2 f3 f4 f5 HS HF H1 H2 HQ
 go_wp2_with fail
 refine bodyPost_ret (results_cell_row (by rfl) _ _ (w.heap.size + 1) 35 _ (0,0) _ (by rfl) HE.out.1 Tryz.underlying35 rfl (by kernel_rfl)) rfl ?_
 have r1 : Y.drew.heap.size = Y.heap.size:=HY1.out
 have r2:=HYs.out
 have r3:=HW1.out
 have r4:=HYw.out
 obtain ⟨o1,o2,b1,ct1⟩:=HA.out
 obtain ⟨o3,o4,b2,ct2⟩:=HB2.out
 refine ⟨_,_,_,_,_,_,_,_,rfl,⟨?_,?_,?_,?_⟩,HE.out.2.1,w1,ct1.up (by omega) (Nat.le_refl _),ct2.up (Nat.le_refl _) (Nat.le_of_eq HE.out.2.2.1.symm)⟩
 · exact owns_base (HE.out.2.2.2 _ _ _ _ (by omega) (owns_later o1 b2)) (by omega)
 · exact owns_base (HE.out.2.2.2 _ _ _ _ (by omega) (owns_later o2 b2)) (by omega)
 · exact owns_base (HE.out.2.2.2 _ _ _ _ (by omega) o3) (by omega)
 · exact owns_base (HE.out.2.2.2 _ _ _ _ (by omega) o4) (by omega)
theorem tchain6 {W : World} {b t : Nat} {u0 u1 u2 u3 u4 u5 u6 u7 u8 : Value} (h : Box W b t #[u0,u1,u2,u3,u4,u5,u6,u7,u8]) (v3 v4 v5 v6 v7 v8 : Value) : ∃ A0 A1 A2 A3 A4 A5,W.setCell ⟨b,3,none⟩ v3 = A0 /\ A0.setCell ⟨b,4,none⟩ v4 = A1 /\ A1.setCell ⟨b,5,none⟩ v5 = A2 /\ A2.setCell ⟨b,6,none⟩ v6 = A3 /\ A3.setCell ⟨b,7,none⟩ v7 = A4 /\ A4.setCell ⟨b,8,none⟩ v8 = A5 /\ (W.cell? ⟨b,3,none⟩ = some u3 /\ A0.cell? ⟨b,4,none⟩ = some u4 /\ A1.cell? ⟨b,5,none⟩ = some u5 /\ A2.cell? ⟨b,6,none⟩ = some u6 /\ A3.cell? ⟨b,7,none⟩ = some u7 /\ A4.cell? ⟨b,8,none⟩ = some u8) /\ (W.frozen? ⟨b,3,none⟩ = false /\ A0.frozen? ⟨b,4,none⟩ = false /\ A1.frozen? ⟨b,5,none⟩ = false /\ A2.frozen? ⟨b,6,none⟩ = false /\ A3.frozen? ⟨b,7,none⟩ = false /\ A4.frozen? ⟨b,8,none⟩ = false) /\
 Hid (Box A5 b t #[u0,u1,u2,v3,v4,v5,v6,v7,v8] /\ (∀ p t' vs,p ≠ b -> Box W p t' vs -> Box A5 p t' vs) /\ (∀ base k v l,(∀ g,v.ownBlock = some g -> g ≠ b) -> W.ownsRow base 69 1 v k l -> A5.ownsRow base 69 1 v k l) /\ (∀ B x,B <= b -> Below B x W -> Below B x A5) /\ A5.heap.size = W.heap.size):=by
 have h3 : Box _ b t #[u0,u1,u2,v3,u4,u5,u6,u7,u8]:=h.set 3 v3
 have h4 : Box _ b t #[u0,u1,u2,v3,v4,u5,u6,u7,u8]:=h3.set 4 v4
 have h5 : Box _ b t #[u0,u1,u2,v3,v4,v5,u6,u7,u8]:=h4.set 5 v5
 have h6 : Box _ b t #[u0,u1,u2,v3,v4,v5,v6,u7,u8]:=h5.set 6 v6
 have h7 : Box _ b t #[u0,u1,u2,v3,v4,v5,v6,v7,u8]:=h6.set 7 v7
 have h8 : Box _ b t #[u0,u1,u2,v3,v4,v5,v6,v7,v8]:=h7.set 8 v8
 refine ⟨_,_,_,_,_,_,rfl,rfl,rfl,rfl,rfl,rfl,⟨h.cell 3,h3.cell 4,h4.cell 5,h5.cell 6,h6.cell 7,h7.cell 8⟩,⟨h.free 3,h3.free 4,h4.free 5,h5.free 6,h6.free 7,h7.free 8⟩,h8,?_,?_,?_,by simp [World.setCell]⟩
 · intro p t' vs hne hp
   exact (((((hp.other ⟨b,3,none⟩ v3 hne).other ⟨b,4,none⟩ v4 hne).other ⟨b,5,none⟩ v5 hne).other ⟨b,6,none⟩ v6 hne).other ⟨b,7,none⟩ v7 hne).other ⟨b,8,none⟩ v8 hne
 · intro base k v l hb ho
   exact own_put1 (own_put1 (own_put1 (own_put1 (own_put1 (own_put1 ho b hb 3 v3) b hb 4 v4) b hb 5 v5) b hb 6 v6) b hb 7 v7) b hb 8 v8
 · intro B x hB hb
   exact (((((hb.setCell (p:=⟨b,3,none⟩) hB _).setCell (p:=⟨b,4,none⟩) hB _).setCell (p:=⟨b,5,none⟩) hB _).setCell (p:=⟨b,6,none⟩) hB _).setCell (p:=⟨b,7,none⟩) hB _).setCell (p:=⟨b,8,none⟩) hB _
set_option maxRecDepth 100000 in
theorem tCopy_any (s : ByteArray) (f r : Int) (n : Bool) (a : Option Addr) (ca : Nat) (xs : List Int) (b : Option Addr) (cb : Nat) (ys : List Int) (m : Bool) (c : Option Addr) (cc : Nat) (us : List Int) (d : Option Addr) (cd : Nat) (vs : List Int) (w : World) (sx : Sl w (.slice a xs.length ca) xs) (sy : Sl w (.slice b ys.length cb) ys) (su : Sl w (.slice c us.length cc) us) (sv : Sl w (.slice d vs.length cd) vs) (hlx : xs.length <= 1099511627776) (hly : ys.length <= 1099511627776) (hlu : us.length <= 1099511627776) (hlv : vs.length <= 1099511627776) :
 Calls Tryz.prog 44 #[.agg #[.string s,.int .i32 f,.int .i32 r,.bool n,.slice a xs.length ca,.slice b ys.length cb,.bool m,.slice c us.length cc,.slice d vs.length cd]] w fun e w' => ∃ a1 c1 a2 c2 a3 c3 a4 c4,e = .returned (.agg #[.string s,.int .i32 f,.int .i32 r,.bool n,.slice a1 xs.length c1,.slice a2 ys.length c2,.bool m,.slice a3 us.length c3,.slice a4 vs.length c4]) /\ (w'.ownsRow w.heap.size 69 1 (.slice a1 xs.length c1) xs.length (xs.map (Value.int .u32)) /\ w'.ownsRow w.heap.size 69 1 (.slice a2 ys.length c2) ys.length (ys.map (Value.int .u32)) /\ w'.ownsRow w.heap.size 69 1 (.slice a3 us.length c3) us.length (us.map (Value.int .u32)) /\ w'.ownsRow w.heap.size 69 1 (.slice a4 vs.length c4) vs.length (vs.map (Value.int .u32))) /\ Below w.heap.size w w' /\ ∃ W1,Cut w (.slice a1 xs.length c1) (.slice a2 ys.length c2) W1 /\ Cut W1 (.slice a3 us.length c3) (.slice a4 vs.length c4) w':=by
 obtain ⟨X,hX⟩ : ∃ X,w.alloc (.cells #[.string s,.int .i32 f,.int .i32 r,.bool n,.slice a xs.length ca,.slice b ys.length cb,.bool m,.slice c us.length cc,.slice d vs.length cd] 37) = X:=⟨_,rfl⟩
 obtain ⟨Y,hY⟩ : ∃ Y,X.alloc (.cells #[.string ⟨#[]⟩,.int .i32 0,.int .i32 0,.bool false,.slice none 0 0,.slice none 0 0,.bool false,.slice none 0 0,.slice none 0 0] 37) = Y:=⟨_,rfl⟩
 have HX : Hid (Box Y w.heap.size 37 #[.string s,.int .i32 f,.int .i32 r,.bool n,.slice a xs.length ca,.slice b ys.length cb,.bool m,.slice c us.length cc,.slice d vs.length cd]):=by
  subst hY hX
  exact (Box.made w _ _).later (alloc_later _ _) (Box.made w 37 _).lt
 have HR : Hid (Box Y X.heap.size 37 #[.string ⟨#[]⟩,.int .i32 0,.int .i32 0,.bool false,.slice none 0 0,.slice none 0 0,.bool false,.slice none 0 0,.slice none 0 0]):=by
  subst hY
  exact Box.made X _ _
 have HXs : X.heap.size = w.heap.size + 1:=by subst hX; simp
 have HB : Hid (Below w.heap.size w Y):=by
  subst hY hX
  exact bt (alloc_later _ _) (alloc_later _ _)
 rw [HXs] at HR
 have HYs : Hid (w.heap.size + 1 < Y.heap.size):=HR.out.lt
 have HC : Hid (∀ V,Below Y.heap.size Y V -> Calls Tryz.prog 101 #[.agg #[.bool n,.slice a xs.length ca,.slice b ys.length cb,.bool m,.slice c us.length cc,.slice d vs.length cd]] V fun e w' => ∃ a1 c1 a2 c2 a3 c3 a4 c4,e = .returned (.agg #[.bool n,.slice a1 xs.length c1,.slice a2 ys.length c2,.bool m,.slice a3 us.length c3,.slice a4 vs.length c4]) /\ (w'.ownsRow V.heap.size 69 1 (.slice a1 xs.length c1) xs.length (xs.map (Value.int .u32)) /\ w'.ownsRow V.heap.size 69 1 (.slice a2 ys.length c2) ys.length (ys.map (Value.int .u32)) /\ w'.ownsRow V.heap.size 69 1 (.slice a3 us.length c3) us.length (us.map (Value.int .u32)) /\ w'.ownsRow V.heap.size 69 1 (.slice a4 vs.length c4) vs.length (vs.map (Value.int .u32))) /\ Below V.heap.size V w' /\ ∃ W1,Cut V (.slice a1 xs.length c1) (.slice a2 ys.length c2) W1 /\ Cut W1 (.slice a3 us.length c3) (.slice a4 vs.length c4) w'):=fun V hV => ncopy_any n a ca xs b cb ys m c cc us d cd vs V (sx.later (bt HB.out hV)) (sy.later (bt HB.out hV)) (su.later (bt HB.out hV)) (sv.later (bt HB.out hV)) hlx hly hlu hlv
 have k3 : Y.cell? ⟨w.heap.size,3,none⟩ = some (.bool n):=HX.out.cell 3
 have k4 : Y.cell? ⟨w.heap.size,4,none⟩ = some (.slice a xs.length ca):=HX.out.cell 4
 have k5 : Y.cell? ⟨w.heap.size,5,none⟩ = some (.slice b ys.length cb):=HX.out.cell 5
 have k6 : Y.cell? ⟨w.heap.size,6,none⟩ = some (.bool m):=HX.out.cell 6
 have k7 : Y.cell? ⟨w.heap.size,7,none⟩ = some (.slice c us.length cc):=HX.out.cell 7
 have k8 : Y.cell? ⟨w.heap.size,8,none⟩ = some (.slice d vs.length cd):=HX.out.cell 8
 clear sx sy su sv
 go_enter Tryz.func44,Tryz.ntmps44
 go_wp2_with fail
 refine Calls.mono (HC.out Y (Below.refl _ _)) ?_
 rintro e w1 ⟨a1,c1,a2,c2,a3,c3,a4,c4,rfl,ho,b1,ct⟩
 have HX1:=hid (HX.out.later b1 HX.out.lt)
 have HR1:=hid (HR.out.later b1 HR.out.lt)
 have HB1:=hid (bt HB.out b1)
 have HO:=hid (And.intro ho ct)
 clear ho ct k3 k4 k5 k6 k7 k8
 obtain ⟨A0,A1,A2,A3,A4,A5,hA0,hA1,hA2,hA3,hA4,hA5,⟨q3,q4,q5,q6,q7,q8⟩,⟨f3,f4,f5,f6,f7,f8⟩,HA⟩:=tchain6 HX1.out (.bool n) (.slice a1 xs.length c1) (.slice a2 ys.length c2) (.bool m) (.slice a3 us.length c3) (.slice a4 vs.length c4)
 have HR2:=hid (HA.out.2.1 _ _ _ (show w.heap.size + 1 ≠ w.heap.size by omega) HR1.out)
 have HX2:=hid HA.out.1
 have k0 : A5.cell? ⟨w.heap.size,0,none⟩ = some (.string s):=HX2.out.cell 0
 have k1 : A5.cell? ⟨w.heap.size,1,none⟩ = some (.int .i32 f):=HX2.out.cell 1
 have k2 : A5.cell? ⟨w.heap.size,2,none⟩ = some (.int .i32 r):=HX2.out.cell 2
 have k3 : A5.cell? ⟨w.heap.size,3,none⟩ = some (.bool n):=HX2.out.cell 3
 have k4 : A5.cell? ⟨w.heap.size,4,none⟩ = some (.slice a1 xs.length c1):=HX2.out.cell 4
 have k5 : A5.cell? ⟨w.heap.size,5,none⟩ = some (.slice a2 ys.length c2):=HX2.out.cell 5
 have k6 : A5.cell? ⟨w.heap.size,6,none⟩ = some (.bool m):=HX2.out.cell 6
 have k7 : A5.cell? ⟨w.heap.size,7,none⟩ = some (.slice a3 us.length c3):=HX2.out.cell 7
 have k8 : A5.cell? ⟨w.heap.size,8,none⟩ = some (.slice a4 vs.length c4):=HX2.out.cell 8
 obtain ⟨B0,B1,B2,B3,B4,B5,B6,B7,B8,hB0,hB1,hB2,hB3,hB4,hB5,hB6,hB7,hB8,⟨q0_,q1_,q2_,q3_,q4_,q5_,q6_,q7_,q8_⟩,⟨f0_,f1_,f2_,f3_,f4_,f5_,f6_,f7_,f8_⟩⟩:=tchain9 HR2.out (.string s) (.int .i32 f) (.int .i32 r) (.bool n) (.slice a1 xs.length c1) (.slice a2 ys.length c2) (.bool m) (.slice a3 us.length c3) (.slice a4 vs.length c4)
 have HE : Hid (Box B8 (w.heap.size + 1) 37 #[.string s,.int .i32 f,.int .i32 r,.bool n,.slice a1 xs.length c1,.slice a2 ys.length c2,.bool m,.slice a3 us.length c3,.slice a4 vs.length c4] /\ Below w.heap.size w B8 /\ B8.heap.size = w1.heap.size /\ ∀ (base k : Nat) (v : Value) (l : List Value),w.heap.size + 1 < base -> w1.ownsRow base 69 1 v k l -> B8.ownsRow base 69 1 v k l):=by
  have hr:=HR2.out
  have hbw:=HA.out.2.2.2.1 _ _ (Nat.le_refl _) HB1.out
  have hs:=HA.out.2.2.2.2
  have hw:=HA.out.2.2.1
  clear hA0 hA1 hA2 hA3 hA4 hA5 q0_ f0_ q1_ f1_ q2_ f2_ q3_ f3_ q4_ f4_ q5_ f5_ q6_ f6_ q7_ f7_ q8_ f8_ q3 f3 q4 f4 q5 f5 q6 f6 q7 f7 q8 f8 k0 k1 k2 k3 k4 k5 k6 k7 k8
  subst hB0 hB1 hB2 hB3 hB4 hB5 hB6 hB7 hB8
  refine ⟨box_put9 hr _ _ _ _ _ _ _ _ _,below_put9 hbw _ (by omega) _ _ _ _ _ _ _ _ _,by simp only [World.size_setCell]; exact hs,fun base k v l hb h => ?_⟩
  have h5:=hw base k v l (fun g hg => by have:=(h.lt g hg).1; omega) h
  have hne : ∀ g,v.ownBlock = some g -> g ≠ w.heap.size + 1:=fun g hg => by have:=(h.lt g hg).1; omega
  exact own_put1 (own_put1 (own_put1 (own_put1 (own_put1 (own_put1 (own_put1 (own_put1 (own_put1 (h5) _ hne 0 _) _ hne 1 _) _ hne 2 _) _ hne 3 _) _ hne 4 _) _ hne 5 _) _ hne 6 _) _ hne 7 _) _ hne 8 _
 go_wp2_with fail
 refine bodyPost_ret (results_cell_row (by rfl) _ _ (w.heap.size + 1) 37 _ (0,0) _ (by rfl) HE.out.1 Tryz.underlying37 rfl (by kernel_rfl)) rfl ?_
 have r2:=HYs.out
 have r4:=HB.out.size
 obtain ⟨⟨o1,o2,o3,o4⟩,W1,ct1,ct2⟩:=HO.out
 refine ⟨_,_,_,_,_,_,_,_,rfl,⟨?_,?_,?_,?_⟩,HE.out.2.1,W1,ct1.up (by omega) (Nat.le_refl _),ct2.up (Nat.le_refl _) (Nat.le_of_eq HE.out.2.2.1.symm)⟩
 · exact owns_base (HE.out.2.2.2 _ _ _ _ (by omega) o1) (by omega)
 · exact owns_base (HE.out.2.2.2 _ _ _ _ (by omega) o2) (by omega)
 · exact owns_base (HE.out.2.2.2 _ _ _ _ (by omega) o3) (by omega)
 · exact owns_base (HE.out.2.2.2 _ _ _ _ (by omega) o4) (by omega)
theorem Tryz.infoT : (Tryz.prog.info? 37).map (fun i => (i.zero,i.size,i.bytes)) = some (some (.agg #[.string ⟨#[]⟩,.int .i32 0,.int .i32 0,.bool false,.slice none 0 0,.slice none 0 0,.bool false,.slice none 0 0,.slice none 0 0]),9,136):=by kernel_rfl
theorem qcells_new (w : World) (cs : Array Value) (t : TypeId) : ∀ j u,cs.toList[j]? = some u -> (w.alloc (.cells cs t)).cell? ((⟨w.heap.size,0,none⟩ : Addr).add j) = some u:=by
 intro j u hj
 have h:=(Box.made w t cs).cell j
 rw [Array.getElem?_toList] at hj
 rw [hj] at h
 have e : (⟨w.heap.size,0,none⟩ : Addr).add j = ⟨w.heap.size,j,none⟩:=by unfold Addr.add; split <;> simp_all
 rw [e]
 exact h
theorem TL.one (t : TL) : ∀ u ∈ t.cells.toList,u.oneCell' = true:=by
 intro u hu
 simp only [TL.cells,List.mem_cons,List.not_mem_nil,or_false] at hu
 rcases hu with rfl | rfl | rfl | rfl | rfl | rfl | rfl | rfl | rfl <;> rfl
theorem qown_box {U : World} {base e n b t s : Nat} {v : Value} {xs : List Value} {vs : Array Value} (h : U.ownsRow base e s v n xs) (hb : Box U b t vs) (hne : e ≠ t) : ∀ g,v.ownBlock = some g -> g ≠ b:=fun g hg => by
 rcases h.2 with ⟨rfl,_⟩ | ⟨g1,c1,u1,rfl,_,hg1,_⟩
 · simp [Value.ownBlock] at hg
 · simp [Value.ownBlock] at hg
   subst hg
   intro e2
   subst e2
   unfold Box at hb
   rw [hg1] at hb
   injection hb with hb
   injection hb with _ h2
   exact hne h2
theorem qown_put {w : World} {base e n s : Nat} {v : Value} {xs : List Value} (h : w.ownsRow base e s v n xs) (b : Nat) (hb : ∀ g,v.ownBlock = some g -> g ≠ b) (j : Nat) (v0 : Value) : (w.setCell ⟨b,j,none⟩ v0).ownsRow base e s v n xs:=by
 have hne : v.ownBlock = none \/ v.ownBlock ≠ some b:=by
  cases hv : v.ownBlock with
  | none => exact .inl rfl
  | some g => right; intro e; exact hb g hv (Option.some.inj e)
 exact World.ownsRow.kept h (grown_set w ⟨b,j,none⟩ v0) hne
theorem qown_slice {w : World} {base e n s : Nat} {v : Value} {xs : List Value} (h : w.ownsRow base e s v n xs) : ∃ a cap,v = .slice a n cap:=by
 rcases h.2 with ⟨h1,h0⟩ | ⟨g,cap,cur,hv,_⟩
 · subst h0; exact ⟨_,_,h1⟩
 · exact ⟨_,_,hv⟩
theorem TL.Ow_put {g : G6} {W : World} {base : Nat} (h : g.Ow W base) {b t : Nat} {vs : Array Value} (hb : Box W b t vs) (ht : 69 ≠ t) (j : Nat) (v0 : Value) : g.Ow (W.setCell ⟨b,j,none⟩ v0) base :=
 ⟨qown_put h.1 b (qown_box h.1 hb ht) j v0,qown_put h.2.1 b (qown_box h.2.1 hb ht) j v0,qown_put h.2.2.1 b (qown_box h.2.2.1 hb ht) j v0,qown_put h.2.2.2 b (qown_box h.2.2.2 hb ht) j v0⟩
theorem TL.Ow_kept {g : G6} {W W' : World} {base b e s n : Nat} {v : Value} {xs : List Value} (h : g.Ow W base) (hv : W.ownsRow b e s v n xs) (he : 69 ≠ e) (hg : W.grownBy W' v.ownBlock) : g.Ow W' base :=
 ⟨h.1.kept hg (qown_unlike h.1 hv he),h.2.1.kept hg (qown_unlike h.2.1 hv he),h.2.2.1.kept hg (qown_unlike h.2.2.1 hv he),h.2.2.2.kept hg (qown_unlike h.2.2.2 hv he)⟩
structure CpI (p : PV) (w : World) (B : Nat) (a1 : Option Addr) (c1 : Nat) (a2 : Option Addr) (c2 : Nat) (L E : List TL) (a : Option Addr) (ct : Nat) (W : World) : Prop where
 box : Box W B 27 #[.string p.s,.bool p.n,.slice a1 p.xs.length c1,.slice a2 p.ys.length c2,.slice a L.length ct]
 mx : W.ownsRow w.heap.size 69 1 (.slice a1 p.xs.length c1) p.xs.length (p.xs.map (Value.int .u32))
 my : W.ownsRow w.heap.size 69 1 (.slice a2 p.ys.length c2) p.ys.length (p.ys.map (Value.int .u32))
 row : W.ownsRow w.heap.size 37 9 (.slice a L.length ct) L.length (flatT L)
 els : ∀ t ∈ E,t.g.Ow W w.heap.size
 sq : ∃ c d,w.heap.size <= c /\ c <= d /\ Lies (.slice a1 p.xs.length c1) w.heap.size c /\ Lies (.slice a2 p.ys.length c2) c d /\ TSq d W.heap.size E
 bel : Below w.heap.size w W
 low : w.heap.size + 1 < B
theorem CpI.later {p : PV} {w : World} {B : Nat} {a1 : Option Addr} {c1 : Nat} {a2 : Option Addr} {c2 : Nat} {L E : List TL} {a : Option Addr} {ct : Nat} {W W' : World} (h : CpI p w B a1 c1 a2 c2 L E a ct W) (hb : Below W.heap.size W W') : CpI p w B a1 c1 a2 c2 L E a ct W':=by
 obtain ⟨c,d,h1,h2,h3,h4,h5⟩:=h.sq
 exact ⟨h.box.later hb h.box.lt,qown_later h.mx hb,qown_later h.my hb,qown_later h.row hb,fun t ht => (h.els t ht).later hb,⟨c,d,h1,h2,h3,h4,h5.wide (Nat.le_refl _) hb.size⟩,bt h.bel hb,h.low⟩
theorem CpI.call {p : PV} {w : World} {B : Nat} {a1 : Option Addr} {c1 : Nat} {a2 : Option Addr} {c2 : Nat} {L E : List TL} {a : Option Addr} {ct : Nat} {W W' : World} (h : CpI p w B a1 c1 a2 c2 L E a ct W) (hb : Below W.heap.size W W') {u : TL} (o : u.g.Ow W' W.heap.size) (i : u.g.In W.heap.size W'.heap.size) : CpI p w B a1 c1 a2 c2 L (E ++ [u]) a ct W':=by
 have h':=h.later hb
 obtain ⟨c,d,h1,h2,h3,h4,h5⟩:=h.sq
 refine ⟨h'.box,h'.mx,h'.my,h'.row,fun t ht => ?_,⟨c,d,h1,h2,h3,h4,h5.snoc (Nat.le_refl _) hb.size i (Nat.le_refl _)⟩,h'.bel,h.low⟩
 rcases List.mem_append.1 ht with q | q
 · exact h'.els t q
 · rw [List.mem_singleton.1 q]
   exact o.base h.bel.size
theorem CpI.add {p : PV} {w : World} {B : Nat} {a1 : Option Addr} {c1 : Nat} {a2 : Option Addr} {c2 : Nat} {L : List TL} {u : TL} {a : Option Addr} {ct : Nat} {W W' : World} {v' : Value} (h : CpI p w B a1 c1 a2 c2 L (L ++ [u]) a ct W) (o : W'.ownsRow w.heap.size 37 9 v' (L.length + 1) (flatT L ++ u.cells.toList)) (hg : W.grownBy W' (Value.slice a L.length ct).ownBlock) :
 Hid (Box W' B 27 #[.string p.s,.bool p.n,.slice a1 p.xs.length c1,.slice a2 p.ys.length c2,.slice a L.length ct]) /\ ∃ a' ct',v' = .slice a' (L.length + 1) ct' /\ ∃ Z,W'.setCell ⟨B,4,none⟩ v' = Z /\ Hid (CpI p w B a1 c1 a2 c2 (L ++ [u]) (L ++ [u]) a' ct' Z /\ ∀ b t vs,b ≠ B -> Box W b t vs -> t ≠ 37 \/ (∀ g,(Value.slice a L.length ct).ownBlock = some g -> g ≠ b) -> Box Z b t vs):=by
 have hB : Box W' B 27 #[.string p.s,.bool p.n,.slice a1 p.xs.length c1,.slice a2 p.ys.length c2,.slice a L.length ct]:=qbox_gby h.box hg (fun e => qown_box h.row h.box (by decide) B e rfl)
 refine ⟨hB,?_⟩
 obtain ⟨a',ct',rfl⟩:=qown_slice o
 have hl : (L ++ [u]).length = L.length + 1:=by simp
 have hs : W'.heap.size = (W'.setCell ⟨B,4,none⟩ (.slice a' (L.length + 1) ct')).heap.size:=by simp [World.setCell]
 obtain ⟨c,d,h1,h2,h3,h4,h5⟩:=h.sq
 refine ⟨a',ct',rfl,_,rfl,⟨?_,?_,?_,?_,fun t ht => ?_,⟨c,d,h1,h2,h3,h4,h5.wide (Nat.le_refl _) (by rw [<- hs]; exact hg.size)⟩,?_,h.low⟩,?_⟩
 · rw [hl]
   exact hB.set 4 _
 · have q:=h.mx.kept hg (qown_unlike h.mx h.row (by decide))
   exact qown_put q B (qown_box q hB (by decide)) 4 _
 · have q:=h.my.kept hg (qown_unlike h.my h.row (by decide))
   exact qown_put q B (qown_box q hB (by decide)) 4 _
 · rw [hl,flatT_snoc]
   exact qown_put o B (qown_box o hB (by decide)) 4 _
 · exact TL.Ow_put (TL.Ow_kept (h.els t ht) h.row (by decide) hg) hB (by decide) 4 _
 · have q : Below w.heap.size w W':=h.bel.grown hg h.bel.size (fun g e => (h.row.lt g e).1)
   exact q.setCell (p:=⟨B,4,none⟩) (by have:=h.low; show w.heap.size <= B; omega) _
 · intro b t vs hne hb ht
   have q : Box W' b t vs:=qbox_gby hb hg (fun e => by
    rcases ht with ht | ht
    · exact qown_box h.row hb (fun e2 => ht e2.symm) b e rfl
    · exact ht b e rfl)
   exact q.other ⟨B,4,none⟩ _ hne
theorem tlcopy_any (t : TL) (w : World) (h : t.ok w) (hf : t.v.few) : Calls Tryz.prog 44 #[.agg t.cells] w fun e w' => ∃ u : TL,e = .returned (.agg u.cells) /\ u.v = t.v /\ u.g.Ow w' w.heap.size /\ u.g.In w.heap.size w'.heap.size /\ Below w.heap.size w w':=by
 refine Calls.mono (tCopy_any t.s t.f t.r t.n t.a t.ca t.xs t.b t.cb t.ys t.m t.c t.cc t.us t.d t.cd t.vs w h.sx h.sy h.su h.sv hf.1 hf.2.1 hf.2.2.1 hf.2.2.2) ?_
 rintro e w' ⟨a1,c1,a2,c2,a3,c3,a4,c4,rfl,ho,hb,W1,k1,k2⟩
 exact ⟨⟨t.s,t.f,t.r,t.n,a1,c1,t.xs,a2,c2,t.ys,t.m,a3,c3,t.us,a4,c4,t.vs⟩,rfl,rfl,ho,G6.in_of ho k1 k2,hb⟩
theorem pchain5 {W : World} {b t : Nat} {u0 u1 u2 u3 u4 : Value} (h : Box W b t #[u0,u1,u2,u3,u4]) (v0 v1 v2 v3 v4 : Value) : ∃ A0 A1 A2 A3 A4,W.setCell ⟨b,0,none⟩ v0 = A0 /\ A0.setCell ⟨b,1,none⟩ v1 = A1 /\ A1.setCell ⟨b,2,none⟩ v2 = A2 /\ A2.setCell ⟨b,3,none⟩ v3 = A3 /\ A3.setCell ⟨b,4,none⟩ v4 = A4 /\ (W.cell? ⟨b,0,none⟩ = some u0 /\ A0.cell? ⟨b,1,none⟩ = some u1 /\ A1.cell? ⟨b,2,none⟩ = some u2 /\ A2.cell? ⟨b,3,none⟩ = some u3 /\ A3.cell? ⟨b,4,none⟩ = some u4) /\ (W.frozen? ⟨b,0,none⟩ = false /\ A0.frozen? ⟨b,1,none⟩ = false /\ A1.frozen? ⟨b,2,none⟩ = false /\ A2.frozen? ⟨b,3,none⟩ = false /\ A3.frozen? ⟨b,4,none⟩ = false) /\
 Hid (Box A4 b t #[v0,v1,v2,v3,v4] /\ (∀ p t' vs,p ≠ b -> Box W p t' vs -> Box A4 p t' vs) /\ (∀ base e s v n xs,e ≠ t -> W.ownsRow base e s v n xs -> A4.ownsRow base e s v n xs) /\ (∀ B x,B <= b -> Below B x W -> Below B x A4) /\ A4.heap.size = W.heap.size):=by
 have h0 : Box _ b t #[v0,u1,u2,u3,u4]:=h.set 0 v0
 have h1 : Box _ b t #[v0,v1,u2,u3,u4]:=h0.set 1 v1
 have h2 : Box _ b t #[v0,v1,v2,u3,u4]:=h1.set 2 v2
 have h3 : Box _ b t #[v0,v1,v2,v3,u4]:=h2.set 3 v3
 have h4 : Box _ b t #[v0,v1,v2,v3,v4]:=h3.set 4 v4
 exact ⟨_,_,_,_,_,rfl,rfl,rfl,rfl,rfl,⟨h.cell 0,h0.cell 1,h1.cell 2,h2.cell 3,h3.cell 4⟩,⟨h.free 0,h0.free 1,h1.free 2,h2.free 3,h3.free 4⟩,h4,fun p t' vs hne g => (((((g.other ⟨b,0,none⟩ v0 hne).other ⟨b,1,none⟩ v1 hne).other ⟨b,2,none⟩ v2 hne).other ⟨b,3,none⟩ v3 hne).other ⟨b,4,none⟩ v4 hne),fun base e s v n xs ht g => (by have kk:=qown_box g h ht; exact (qown_put (qown_put (qown_put (qown_put (qown_put g _ kk 0 v0) _ kk 1 v1) _ kk 2 v2) _ kk 3 v3) _ kk 4 v4)),fun B x hB g => (((((g.setCell (p:=⟨b,0,none⟩) hB v0).setCell (p:=⟨b,1,none⟩) hB v1).setCell (p:=⟨b,2,none⟩) hB v2).setCell (p:=⟨b,3,none⟩) hB v3).setCell (p:=⟨b,4,none⟩) hB v4),by simp [World.setCell]⟩
theorem CpI.start {p : PV} {w V w1 W A : World} {B : Nat} {a1 : Option Addr} {c1 : Nat} {a2 : Option Addr} {c2 : Nat} (hV : Below w.heap.size w V) (o1 : w1.ownsRow V.heap.size 69 1 (.slice a1 p.xs.length c1) p.xs.length (p.xs.map (Value.int .u32))) (o2 : w1.ownsRow V.heap.size 69 1 (.slice a2 p.ys.length c2) p.ys.length (p.ys.map (Value.int .u32))) (b1 : Below V.heap.size V w1) (k : Cut V (.slice a1 p.xs.length c1) (.slice a2 p.ys.length c2) w1) (hW : Below w1.heap.size w1 W)
 (hA : Box A B 27 #[.string p.s,.bool p.n,.slice a1 p.xs.length c1,.slice a2 p.ys.length c2,.slice none 0 0] /\ (∀ q t' vs,q ≠ B -> Box W q t' vs -> Box A q t' vs) /\ (∀ base e s v n xs,e ≠ 27 -> W.ownsRow base e s v n xs -> A.ownsRow base e s v n xs) /\ (∀ B' x,B' <= B -> Below B' x W -> Below B' x A) /\ A.heap.size = W.heap.size) (hB : w.heap.size + 1 < B) : CpI p w B a1 c1 a2 c2 [] [] none 0 A:=by
 obtain ⟨h1,_,h3,h4,h5⟩:=hA
 obtain ⟨c,c0,c1',l0,l1⟩:=k
 have hs:=hV.size
 have hs2:=hW.size
 refine ⟨h1,h3 _ _ _ _ _ _ (by decide) (qown_later (qown_base o1 hV.size) hW),h3 _ _ _ _ _ _ (by decide) (qown_later (qown_base o2 hV.size) hW),World.ownsRow_nil _ _ _ _,fun t ht => absurd ht (by simp),⟨c,w1.heap.size,by omega,c1',fun g e => by have:=l0 g e; omega,l1,by unfold TSq; omega⟩,h4 _ _ (by omega) (bt (bt hV b1) hW),hB⟩
theorem CpI.done {p : PV} {w W A : World} {B : Nat} {a1 : Option Addr} {c1 : Nat} {a2 : Option Addr} {c2 : Nat} {L : List TL} {a : Option Addr} {ct b : Nat} (h : CpI p w B a1 c1 a2 c2 L L a ct W) (hv : L.map TL.v = p.ts) (hb : w.heap.size <= b)
 (hA : ∀ base e s v n xs,e ≠ 27 -> W.ownsRow base e s v n xs -> A.ownsRow base e s v n xs) (hA2 : ∀ B' x,B' <= b -> Below B' x W -> Below B' x A) (hA3 : A.heap.size = W.heap.size) : Made ⟨p.s,p.n,a1,c1,p.xs,a2,c2,p.ys,a,ct,L⟩ p w A:=by
 obtain ⟨c,d,h1,h2,h3,h4,h5⟩:=h.sq
 refine ⟨?_,⟨hA _ _ _ _ _ _ (by decide) h.mx,hA _ _ _ _ _ _ (by decide) h.my,hA _ _ _ _ _ _ (by decide) h.row,fun t ht => ?_⟩,⟨c,d,h1,h2,h3,h4,h5.wide (Nat.le_refl _) (Nat.le_of_eq hA3.symm)⟩,hA2 _ _ hb h.bel⟩
 · unfold PL.v
   rw [hv]
 · have q:=h.els t ht
   exact ⟨hA _ _ _ _ _ _ (by decide) q.1,hA _ _ _ _ _ _ (by decide) q.2.1,hA _ _ _ _ _ _ (by decide) q.2.2.1,hA _ _ _ _ _ _ (by decide) q.2.2.2⟩
theorem CpI.of_made {q : PL} {v : PV} {w V w5 W A : World} {B : Nat} (hm : Made q v V w5) (hV : Below w.heap.size w V) (hW : Below w5.heap.size w5 W)
 (hA : Box A B 27 #[.string q.s,.bool q.n,.slice q.a q.xs.length q.ca,.slice q.b q.ys.length q.cb,.slice q.t q.ts.length q.ct] /\ (∀ b t' vs,b ≠ B -> Box W b t' vs -> Box A b t' vs) /\ (∀ base e s v n xs,e ≠ 27 -> W.ownsRow base e s v n xs -> A.ownsRow base e s v n xs) /\ (∀ B' x,B' <= B -> Below B' x W -> Below B' x A) /\ A.heap.size = W.heap.size) (hB : w.heap.size + 1 < B) : CpI q.v w B q.a q.ca q.b q.cb q.ts q.ts q.t q.ct A:=by
 obtain ⟨h1,_,h3,h4,h5⟩:=hA
 obtain ⟨c,d,c0,c1,l0,l1,sq⟩:=hm.sep
 have hs:=hV.size
 have hs2:=hW.size
 have hw:=(hm.ow.base hV.size).later hW
 refine ⟨h1,h3 _ _ _ _ _ _ (by decide) hw.mx,h3 _ _ _ _ _ _ (by decide) hw.my,h3 _ _ _ _ _ _ (by decide) hw.row,fun t ht => ?_,⟨c,d,by omega,c1,fun g e => by have:=l0 g e; omega,l1,sq.wide (Nat.le_refl _) (by omega)⟩,h4 _ _ (by omega) (bt (bt hV hm.bel) hW),hB⟩
 have q:=hw.els t ht
 exact ⟨h3 _ _ _ _ _ _ (by decide) q.1,h3 _ _ _ _ _ _ (by decide) q.2.1,h3 _ _ _ _ _ _ (by decide) q.2.2.1,h3 _ _ _ _ _ _ (by decide) q.2.2.2⟩
theorem CpI.re {p : PV} {w : World} {B : Nat} {a1 : Option Addr} {c1 : Nat} {a2 : Option Addr} {c2 : Nat} {L E : List TL} {a : Option Addr} {ct : Nat} {W : World} (h : CpI p w B a1 c1 a2 c2 L E a ct W) (ts : List TV) : CpI ⟨p.s,p.n,p.xs,p.ys,ts⟩ w B a1 c1 a2 c2 L E a ct W:=⟨h.box,h.mx,h.my,h.row,h.els,h.sq,h.bel,h.low⟩
def PV.zero : PV:=⟨⟨#[]⟩,false,[],[],[]⟩
def PL.zero : PL:=⟨⟨#[]⟩,false,none,0,[],none,0,[],none,0,[]⟩
theorem Made.none {w W : World} (h : Below w.heap.size w W) : Made PL.zero PV.zero w W :=
 ⟨rfl,⟨World.ownsRow_nil _ _ _ _,World.ownsRow_nil _ _ _ _,World.ownsRow_nil _ _ _ _,fun t ht => absurd ht (by simp [PL.zero])⟩,⟨w.heap.size,w.heap.size,Nat.le_refl _,Nat.le_refl _,(fun g e => by cases e),(fun g e => by cases e),h.size⟩,h⟩
theorem pres_run {fn : Func} {W : World} {b q u : Nat} {cs : Array Value} (hr : fn.results = #[.cell q 27,.tmp u]) (hb : Box W b 27 cs) (tmps : Array Value) (h4 : tmps.getD q undef = .pointer (some ⟨b,0,none⟩)) (hi : (Tryz.prog.info? 27).map (·.size) = some cs.size:=by kernel_rfl) : (results fn tmps).run Tryz.prog W = .ok (.tuple #[.agg cs,tmps.getD u undef]) W:=by
 have h:=run_loadVar_row (P:=Tryz.prog) W b 27 27 cs (0,0) _ hb Tryz.underlying27 rfl hi
 rw [results_cell_tmp hr,h4]
 simp [asAddr,h]
theorem pzero5 {W : World} {b t : Nat} (h : Box W b t #[.string ⟨#[]⟩,.bool false,.slice none 0 0,.slice none 0 0,.slice none 0 0]) : (W.setCell ⟨b,0,none⟩ (.string ⟨#[]⟩) = W /\ W.setCell ⟨b,1,none⟩ (.bool false) = W /\ W.setCell ⟨b,2,none⟩ (.slice none 0 0) = W /\ W.setCell ⟨b,3,none⟩ (.slice none 0 0) = W /\ W.setCell ⟨b,4,none⟩ (.slice none 0 0) = W) /\ (W.cell? ⟨b,0,none⟩ = some (.string ⟨#[]⟩) /\ W.cell? ⟨b,1,none⟩ = some (.bool false) /\ W.cell? ⟨b,2,none⟩ = some (.slice none 0 0) /\ W.cell? ⟨b,3,none⟩ = some (.slice none 0 0) /\ W.cell? ⟨b,4,none⟩ = some (.slice none 0 0)) /\ (W.frozen? ⟨b,0,none⟩ = false /\ W.frozen? ⟨b,1,none⟩ = false /\ W.frozen? ⟨b,2,none⟩ = false /\ W.frozen? ⟨b,3,none⟩ = false /\ W.frozen? ⟨b,4,none⟩ = false) :=
 ⟨⟨h.same rfl,h.same rfl,h.same rfl,h.same rfl,h.same rfl⟩,⟨h.cell 0,h.cell 1,h.cell 2,h.cell 3,h.cell 4⟩,h.free 0,h.free 1,h.free 2,h.free 3,h.free 4⟩
set_option maxRecDepth 100000 in
theorem pCopied_any (p : PL) (w : World) (h : p.ok w) (hf : p.v.few) : Calls Tryz.prog 43 #[.agg p.cells] w fun e w' => ∃ q : PL,e = .returned (.agg q.cells) /\ Made q p.v w w':=by
 obtain ⟨i0,hi0,hz0,hz1,hz2⟩:=info_parts Tryz.infoT
 obtain ⟨s,n,a,ca,xs,b,cb,ys,t,ct,ts⟩:=p
 obtain ⟨hfx,hfy,hfl,hfe⟩:=hf
 have HTS : Hid (RdT w t ts):=h.ts
 have HFW : Hid (∀ j,j < ts.length -> (tT ts j).v.few):=fun j hj => hfe _ (List.mem_map.2 ⟨_,tT_mem hj,rfl⟩)
 have sx : Sl w (.slice a xs.length ca) xs:=h.sx
 have sy : Sl w (.slice b ys.length cb) ys:=h.sy
 have hfl' : ts.length <= 1000000:=by
  have : (ts.map TL.v).length <= 1000000:=hfl
  simpa using this
 clear h hfl hfe
 unfold PL.cells
 dsimp only
 obtain ⟨N,hN⟩ : ∃ N,ts.length = N:=⟨_,rfl⟩
 have HLN:=hid hN
 rw [hN] at hfl' ⊢
 clear hN
 obtain ⟨X,hX⟩ : ∃ X,w.alloc (.cells #[.string s,.bool n,.slice a xs.length ca,.slice b ys.length cb,.slice t N ct] 27) = X:=⟨_,rfl⟩
 obtain ⟨Y,hY⟩ : ∃ Y,X.alloc (.cells #[.string ⟨#[]⟩,.bool false,.slice none 0 0,.slice none 0 0,.slice none 0 0] 27) = Y:=⟨_,rfl⟩
 have HX : Hid (Box Y w.heap.size 27 #[.string s,.bool n,.slice a xs.length ca,.slice b ys.length cb,.slice t N ct]):=by
  subst hY hX
  exact (Box.made w _ _).later (alloc_later _ _) (Box.made w 27 _).lt
 have HR : Hid (Box Y X.heap.size 27 #[.string ⟨#[]⟩,.bool false,.slice none 0 0,.slice none 0 0,.slice none 0 0]):=by
  subst hY
  exact Box.made X _ _
 have HXs : X.heap.size = w.heap.size + 1:=by subst hX; simp
 have HB : Hid (Below w.heap.size w Y):=by
  subst hY hX
  exact bt (alloc_later _ _) (alloc_later _ _)
 rw [HXs] at HR
 have HYs : Hid (w.heap.size + 1 < Y.heap.size):=HR.out.lt
 have HC : Hid (∀ V,Below Y.heap.size Y V -> Calls Tryz.prog 100 #[.agg #[.bool n,.slice a xs.length ca,.slice b ys.length cb]] V fun e w' => ∃ a1 c1 a2 c2,e = .returned (.agg #[.bool n,.slice a1 xs.length c1,.slice a2 ys.length c2]) /\ w'.ownsRow V.heap.size 69 1 (.slice a1 xs.length c1) xs.length (xs.map (Value.int .u32)) /\ w'.ownsRow V.heap.size 69 1 (.slice a2 ys.length c2) ys.length (ys.map (Value.int .u32)) /\ Below V.heap.size V w' /\ Cut V (.slice a1 xs.length c1) (.slice a2 ys.length c2) w'):=fun V hV => pcopyR_any n a ca xs b cb ys V (sx.later (bt HB.out hV)) (sy.later (bt HB.out hV)) hfx hfy
 have HS : Hid (∀ V,Box V w.heap.size 27 #[.string s,.bool n,.slice a xs.length ca,.slice b ys.length cb,.slice t N ct] -> V.cell? ⟨w.heap.size,0,none⟩ = some (.string s) /\ V.cell? ⟨w.heap.size,1,none⟩ = some (.bool n) /\ V.cell? ⟨w.heap.size,2,none⟩ = some (.slice a xs.length ca) /\ V.cell? ⟨w.heap.size,3,none⟩ = some (.slice b ys.length cb)):=fun V h => ⟨h.cell 0,h.cell 1,h.cell 2,h.cell 3⟩
 have HXL : Hid (∀ V,Below Y.heap.size Y V -> Box V w.heap.size 27 #[.string s,.bool n,.slice a xs.length ca,.slice b ys.length cb,.slice t N ct]):=fun V hV => HX.out.later hV HX.out.lt
 have hd0:=hid (Below.refl Y.heap.size Y)
 clear sx sy hfx hfy
 go_enter Tryz.func43,Tryz.ntmps43
 go_wp2_with fail
 go_cut [3] from 6 (fun s3 wx => ∃ B a1 c1 a2 c2,s3 = .pointer (some ⟨B,0,none⟩) /\ Hid (CpI ⟨s,n,xs,ys,ts.map TL.v⟩ w B a1 c1 a2 c2 [] [] none 0 wx) /\ Hid (Box wx w.heap.size 27 #[.string s,.bool n,.slice a xs.length ca,.slice b ys.length cb,.slice t N ct] /\ Box wx (w.heap.size + 1) 27 #[.string ⟨#[]⟩,.bool false,.slice none 0 0,.slice none 0 0,.slice none 0 0]))
 case first =>
  have hs0:=HS.out _ (HXL.out _ hd0.out.drew)
  have hsa:=HS.out _ (HXL.out _ ((bel_al hd0.out (.cells #[.string ⟨#[]⟩,.bool false,.slice none 0 0,.slice none 0 0,.slice none 0 0] 27)).drew))
  go_region_held3 (fun V : World => V.cell? ⟨w.heap.size,0,none⟩ = some (.string s) /\ V.cell? ⟨w.heap.size,1,none⟩ = some (.bool n) /\ V.cell? ⟨w.heap.size,2,none⟩ = some (.slice a xs.length ca) /\ V.cell? ⟨w.heap.size,3,none⟩ = some (.slice b ys.length cb)) (first | exact hs2 | exact hs1a | exact hs1 | exact hsa | exact hs0 | go_keep)
   (first
    | (go_at_call 100; (with_reducible refine Calls.mono (HC.out _ (by first | exact hd0.out.drew | exact (bel_al hd0.out _).drew)) ?_); rintro e w1 ⟨a1,c1,a2,c2,rfl,o1,o2,b1,ct1⟩; (first | (have hbA:=hid (bt hd0.out.drew b1)) | (have hbA:=hid (bt (bel_al hd0.out _).drew b1))); have HA1:=hid (And.intro o1 (And.intro o2 (And.intro b1 ct1))); have hs1:=HS.out _ (HXL.out _ hbA.out); have hs1a:=HS.out _ (HXL.out _ (bel_al hbA.out (.cells #[.string ⟨#[]⟩,.bool false,.slice none 0 0,.slice none 0 0,.slice none 0 0] 27))); (first | (have HQ:=hid (Box.later ((Box.made Y 27 #[.string ⟨#[]⟩,.bool false,.slice none 0 0,.slice none 0 0,.slice none 0 0]).drewN 1) b1 (Box.made Y 27 _).lt)) | (have HQ:=hid (Box.made w1 27 #[.string ⟨#[]⟩,.bool false,.slice none 0 0,.slice none 0 0,.slice none 0 0]))); obtain ⟨A0,A1,A2,A3,A4,hA0,hA1,hA2,hA3,hA4,⟨q0,q1,q2,q3,q4⟩,⟨f0,f1,f2,f3,f4⟩,HA⟩:=pchain5 HQ.out (.string s) (.bool n) (.slice a1 xs.length c1) (.slice a2 ys.length c2) (.slice none 0 0); have hs2:=HS.out A4 (HA.out.2.1 _ _ _ (by have h1:=hbA.out.size; have h2:=HYs.out; omega) (by first | exact HXL.out _ hbA.out | exact HXL.out _ (bel_al hbA.out _)))))
  all_goals
   have HN1 : Hid (w.heap.size + 1 < w1.heap.size):=by have h1:=hbA.out.size; have h2:=HYs.out; show _ < _; omega
   have HE : Hid (∃ B,A4.cell? ⟨B,0,none⟩ = A4.cell? ⟨B,0,none⟩):=⟨0,rfl⟩
   clear HE q0 q1 q2 q3 q4 f0 f1 f2 f3 f4 hs0 hsa hs1 hs1a hs2 HC HS
   go_wp2_with fail
   go_meet
  · exact ⟨_,a1,c1,a2,c2,rfl,CpI.start (p:=⟨s,n,xs,ys,ts.map TL.v⟩) (bt HB.out hd0.out.drew) HA1.out.1 HA1.out.2.1 HA1.out.2.2.1 HA1.out.2.2.2 (alloc_later w1 _) HA.out HN1.out,HA.out.2.1 _ _ _ (by have h1:=HN1.out; omega) (HXL.out _ (bel_al hbA.out _)),HA.out.2.1 _ _ _ (by have h1:=HN1.out; omega) (HR.out.later (bel_al hbA.out _) HR.out.lt)⟩
  · exact ⟨_,a1,c1,a2,c2,rfl,CpI.start (p:=⟨s,n,xs,ys,ts.map TL.v⟩) (bt HB.out (bel_al hd0.out _).drew) HA1.out.1 HA1.out.2.1 HA1.out.2.2.1 HA1.out.2.2.2 (Below.refl _ w1) HA.out HYs.out,HA.out.2.1 _ _ _ (by have h1:=HYs.out; omega) (HXL.out _ hbA.out),HA.out.2.1 _ _ _ (by have h1:=HYs.out; omega) (HR.out.later hbA.out HR.out.lt)⟩
 case rest =>
  obtain ⟨B,a1,c1,a2,c2,rfl,HI,HBX⟩:=hcut
  have k4 : wc.cell? ⟨w.heap.size,4,none⟩ = some (.slice t N ct):=HBX.out.1.cell 4
  have HRC:=hid HBX.out.2
  have HBW:=hid HI.out.bel
  clear HBX HC HS HXL HX HR hd0 hX hY HXs HYs HB
  go_wp2_with fail
  clear k4
  go_loopw [15] (fun x wr => ∃ (i : Nat) (L : List TL) (q : Option Addr) (cq : Nat),x = .int .i64 (i : Int) /\ i <= N /\ Hid (L.map TL.v = (ts.take i).map TL.v) /\ Hid (CpI ⟨s,n,xs,ys,ts.map TL.v⟩ w B a1 c1 a2 c2 L L q cq wr) /\ Hid (Box wr (w.heap.size + 1) 27 #[.string ⟨#[]⟩,.bool false,.slice none 0 0,.slice none 0 0,.slice none 0 0])) (fun x _ => N - (intOf x).toNat)
  case atStart => exact ⟨0,[],none,0,rfl,by omega,(rfl : ([] : List TL).map TL.v = _),HI,HRC⟩
  case round =>
   obtain ⟨i,L,q,cq,rfl,hi,HV,HI,HRC⟩:=hrel
   have hLi : L.length = i:=by
    have q:=congrArg List.length HV.out
    rw [List.length_map,List.length_map,List.length_take,HLN.out] at q
    omega
   by_cases hin : i < N
   · have hil : i < ts.length:=by rw [HLN.out]; exact hin
     have HTW:=hid (HTS.out.later HI.out.bel)
     rcases HTW.out.2 with e | ⟨bb,o,rfl,hbb,hc⟩
     · rw [e] at hil; exact absurd hil (by simp)
     have HCC : Hid (∀ V,Below w.heap.size w V -> Calls Tryz.prog 44 #[.agg #[.string (tT ts i).s,.int .i32 (tT ts i).f,.int .i32 (tT ts i).r,.bool (tT ts i).n,.slice (tT ts i).a (tT ts i).xs.length (tT ts i).ca,.slice (tT ts i).b (tT ts i).ys.length (tT ts i).cb,.bool (tT ts i).m,.slice (tT ts i).c (tT ts i).us.length (tT ts i).cc,.slice (tT ts i).d (tT ts i).vs.length (tT ts i).cd]] V fun e w' => ∃ u : TL,e = .returned (.agg #[.string u.s,.int .i32 u.f,.int .i32 u.r,.bool u.n,.slice u.a u.xs.length u.ca,.slice u.b u.ys.length u.cb,.bool u.m,.slice u.c u.us.length u.cc,.slice u.d u.vs.length u.cd]) /\ u.v = (tT ts i).v /\ u.g.Ow w' V.heap.size /\ u.g.In V.heap.size w'.heap.size /\ Below V.heap.size V w'):=fun V hV => tlcopy_any (tT ts i) V ((HTS.out.later hV).1 _ (tT_mem hil)) (HFW.out i hil)
     have HVN : Hid (∀ u : TL,u.v = (tT ts i).v -> (L ++ [u]).map TL.v = (ts.take (i + 1)).map TL.v):=fun u hu => by
      have q : ts.take (i + 1) = ts.take i ++ [tT ts i]:=by
       have e:=tT_at hil
       rw [List.take_add_one,e]; rfl
      rw [q,List.map_append,List.map_append,HV.out,List.map_cons,List.map_cons,hu]
     have hci:=hc i _ (tT_at hil)
     have e0:=hci 0 (by decide)
     have e1:=hci 1 (by decide)
     have e2:=hci 2 (by decide)
     have e3:=hci 3 (by decide)
     have e4:=hci 4 (by decide)
     have e5:=hci 5 (by decide)
     have e6:=hci 6 (by decide)
     have e7:=hci 7 (by decide)
     have e8:=hci 8 (by decide)
     clear hci hc
     generalize tT ts i = tt at *
     have c0 : wr.cell? ⟨bb,o + i * 9,none⟩ = some (.string tt.s):=e0
     have c1' : wr.cell? ⟨bb,o + i * 9 + 1,none⟩ = some (.int .i32 tt.f):=e1
     have c2' : wr.cell? ⟨bb,o + i * 9 + 2,none⟩ = some (.int .i32 tt.r):=e2
     have c3 : wr.cell? ⟨bb,o + i * 9 + 3,none⟩ = some (.bool tt.n):=e3
     have c4 : wr.cell? ⟨bb,o + i * 9 + 4,none⟩ = some (.slice tt.a tt.xs.length tt.ca):=e4
     have c5 : wr.cell? ⟨bb,o + i * 9 + 5,none⟩ = some (.slice tt.b tt.ys.length tt.cb):=e5
     have c6 : wr.cell? ⟨bb,o + i * 9 + 6,none⟩ = some (.bool tt.m):=e6
     have c7 : wr.cell? ⟨bb,o + i * 9 + 7,none⟩ = some (.slice tt.c tt.us.length tt.cc):=e7
     have c8 : wr.cell? ⟨bb,o + i * 9 + 8,none⟩ = some (.slice tt.d tt.vs.length tt.cd):=e8
     clear e0 e1 e2 e3 e4 e5 e6 e7 e8
     obtain ⟨A0,A1,A2,A3,A4,A5,A6,A7,A8,q0,q1,q2,q3,q4,q5,q6,q7,q8,⟨r0,r1,r2,r3,r4,r5,r6,r7,r8⟩,⟨f0,f1,f2,f3,f4,f5,f6,f7,f8⟩,HA⟩:=tlbox wr tt
     have HIA:=hid (HI.out.later (bt HA.out.2 (Below.refl _ A8).drew))
     have HRA:=hid (HRC.out.later (bt HA.out.2 (Below.refl _ A8).drew) HRC.out.lt)
     have HXA : Hid (Box A8.drew wr.heap.size 37 tt.cells):=HA.out.1.drewN 1
     have hi0' : (0 : Int) <= (i : Int):=by omega
     have hi1 : (i : Int) < (N : Int):=by omega
     have HKT : Hid (∀ V,Box V wr.heap.size 37 tt.cells -> V.cell? ⟨wr.heap.size,0,none⟩ = some (.string tt.s) /\ V.cell? ⟨wr.heap.size,1,none⟩ = some (.int .i32 tt.f) /\ V.cell? ⟨wr.heap.size,2,none⟩ = some (.int .i32 tt.r) /\ V.cell? ⟨wr.heap.size,3,none⟩ = some (.bool tt.n) /\ V.cell? ⟨wr.heap.size,4,none⟩ = some (.slice tt.a tt.xs.length tt.ca) /\ V.cell? ⟨wr.heap.size,5,none⟩ = some (.slice tt.b tt.ys.length tt.cb) /\ V.cell? ⟨wr.heap.size,6,none⟩ = some (.bool tt.m) /\ V.cell? ⟨wr.heap.size,7,none⟩ = some (.slice tt.c tt.us.length tt.cc) /\ V.cell? ⟨wr.heap.size,8,none⟩ = some (.slice tt.d tt.vs.length tt.cd)):=fun V h => ⟨h.cell 0,h.cell 1,h.cell 2,h.cell 3,h.cell 4,h.cell 5,h.cell 6,h.cell 7,h.cell 8⟩
     have hrow : Hid (∀ g,(Value.slice q L.length cq).ownBlock = some g -> g < wr.heap.size):=fun g hg => (HI.out.row.lt g hg).2
     have hBw : Hid (B < wr.heap.size):=HI.out.box.lt
     clear HI HRC HA hbb
     go_wp2_with fail
     clear q0 q1 q2 q3 q4 q5 q6 q7 q8 r0 r1 r2 r3 r4 r5 r6 r7 r8 f0 f1 f2 f3 f4 f5 f6 f7 f8 c0 c1' c2' c3 c4 c5 c6 c7 c8
     generalize wr.heap.size = bx at *
     have HLL : Hid (L.length <= 1000000):=by show L.length <= _; omega
     clear hLi
     obtain ⟨m0,m1,m2,m3,m4,m5,m6,m7,m8⟩:=HKT.out A8 HXA.out
     have z0 : A8.cell? ⟨B,4,none⟩ = some (.slice q L.length cq):=HIA.out.box.cell 4
     go_region_law (first
      | (go_simp; go_at_call 44; (with_reducible refine Calls.mono (HCC.out _ HIA.out.bel) ?_); rintro e w1 ⟨u,rfl,hu,ou,iu,b1⟩; have HU:=hid hu; have HI1:=hid (HIA.out.call b1 ou iu); have HX1:=hid (HXA.out.later b1 HXA.out.lt); have HR1:=hid (HRA.out.later b1 HRA.out.lt); have z1 : w1.cell? ⟨B,4,none⟩ = some (.slice q L.length cq):=HI1.out.box.cell 4; have n1 : B ≠ w1.heap.size:=Nat.ne_of_lt HI1.out.box.lt; have HI2:=hid (HI1.out.later (alloc_later w1 (.cells u.cells 37))); have z2 : (w1.alloc (.cells #[.string u.s,.int .i32 u.f,.int .i32 u.r,.bool u.n,.slice u.a u.xs.length u.ca,.slice u.b u.ys.length u.cb,.bool u.m,.slice u.c u.us.length u.cc,.slice u.d u.vs.length u.cd] 37)).cell? ⟨B,4,none⟩ = some (.slice q L.length cq):=HI2.out.box.cell 4; have HR2:=hid (HR1.out.later (alloc_later w1 (.cells u.cells 37)) HR1.out.lt); dsimp only)
      | (refine step_append_own_at rfl (.tmp 20) (.tmp 23) 25 rfl w.heap.size 37 i0 (.agg #[.string ⟨#[]⟩,.int .i32 0,.int .i32 0,.bool false,.slice none 0 0,.slice none 0 0,.bool false,.slice none 0 0,.slice none 0 0]) 9 136 Tryz.underlying25 hi0 hz0 hz1 hz2 rfl (by decide) (.slice q L.length cq) L.length (flatT L) rfl HI2.out.row ⟨w1.heap.size,0,none⟩ 1 1 u.cells.toList rfl rfl (qcells_new w1 _ _) u.one (by have:=HLL.out; unfold maxLen; omega) (by have:=HLL.out; omega) HI2.out.bel.size ?_; intro v1 y1 o1 g1 at1; obtain ⟨HB1,a',ct',rfl,Z,hZ,HZ⟩:=HI2.out.add o1 g1; have z3 : y1.cell? ⟨B,4,none⟩ = some (.slice q L.length cq):=HB1.out.cell 4; have z5 : y1.frozen? ⟨B,4,none⟩ = false:=HB1.out.free 4; have HR4:=hid (HZ.out.2 (w.heap.size + 1) _ _ (by have:=HZ.out.1.low; omega) HR2.out (.inl (by decide)))))
     all_goals
      have HVN':=hid (HVN.out u HU.out)
      clear z0 z1 z2 z3 z5 m0 m1 m2 m3 m4 m5 m6 m7 m8 HKT HVN HCC
      go_wp2_with fail
      go_roundw
      case rel => exact ⟨i + 1,L ++ [u],a',ct',by go_num,by omega,HVN',HZ.out.1,HR4⟩
      case measure => simp [intOf]; omega
   · obtain rfl : i = N:=by omega
     have hi1 : ¬ (i : Int) < (i : Int):=by omega
     have hk0 : wr.cell? ⟨B,0,none⟩ = some (.string s):=HI.out.box.cell 0
     have hk1 : wr.cell? ⟨B,1,none⟩ = some (.bool n):=HI.out.box.cell 1
     have hk2 : wr.cell? ⟨B,2,none⟩ = some (.slice a1 xs.length c1):=HI.out.box.cell 2
     have hk3 : wr.cell? ⟨B,3,none⟩ = some (.slice a2 ys.length c2):=HI.out.box.cell 3
     have hk4 : wr.cell? ⟨B,4,none⟩ = some (.slice q L.length cq):=HI.out.box.cell 4
     obtain ⟨A0,A1,A2,A3,A4,q0,q1,q2,q3,q4,⟨r0,r1,r2,r3,r4⟩,⟨f0,f1,f2,f3,f4⟩,HA⟩:=pchain5 HRC.out (.string s) (.bool n) (.slice a1 xs.length c1) (.slice a2 ys.length c2) (.slice q L.length cq)
     have HM : Hid (Made ⟨s,n,a1,c1,xs,a2,c2,ys,q,cq,L⟩ ⟨s,n,xs,ys,ts.map TL.v⟩ w A4):=CpI.done HI.out (by show L.map TL.v = ts.map TL.v; rw [HV.out,<- HLN.out,List.take_length]) (Nat.le_succ _) HA.out.2.2.1 HA.out.2.2.2.1 HA.out.2.2.2.2
     have HE:=hid HA.out.1
     clear HI HRC HA HV HTS HFW hLi
     go_wp2_with fail
     exact bodyPost_ret (results_cell_row (by rfl) _ _ (w.heap.size + 1) 27 _ (0,0) _ (by rfl) HE.out Tryz.underlying27 rfl (by kernel_rfl)) rfl ⟨⟨s,n,a1,c1,xs,a2,c2,ys,q,cq,L⟩,rfl,HM.out⟩
end Go.Proofs.YtnhmaijmmkplkaaGreatDoor
namespace Go.Proofs.YtnhmaijmmkplkaaGreatDoor
set_option maxHeartbeats 6400000
open Go.RowKit Go.Lib
set_option linter.unusedVariables false
set_option linter.unusedSimpArgs false
set_option maxRecDepth 100000 in
theorem tParse_any (s : ByteArray) (w : World) (hm : s.size <= 281474976710656) (htab : Tab w) (herr : ErrT w) : Calls Tryz.prog 168 #[.string s] w (TToldC w (tpE s) (gplong (trest (trest (trest s.data.toList)))) (tword s.data.toList) (tnumV (tword (trest s.data.toList))) (tnumV (tword (trest (trest s.data.toList)))) (rpq (gp1 (trest (trest (trest s.data.toList))))) (rpq (gp2 (trest (trest (trest s.data.toList)))))):=by
 by_cases hs : 65536 < s.size
 · rw [tpE_long hs]
   exact tParse_long s w hs hm _ _ _ _ _ _
 have HX:=hid (Box.made w 37 #[.string ⟨#[]⟩,.int .i32 0,.int .i32 0,.bool false,.slice none 0 0,.slice none 0 0,.bool false,.slice none 0 0,.slice none 0 0])
 have HB:=hid (alloc_later w (.cells #[.string ⟨#[]⟩,.int .i32 0,.int .i32 0,.bool false,.slice none 0 0,.slice none 0 0,.bool false,.slice none 0 0,.slice none 0 0] 37))
 obtain ⟨X,hX⟩ : ∃ X,w.alloc (.cells #[.string ⟨#[]⟩,.int .i32 0,.int .i32 0,.bool false,.slice none 0 0,.slice none 0 0,.bool false,.slice none 0 0,.slice none 0 0] 37) = X:=⟨_,rfl⟩
 rw [hX] at HX HB
 have hs' : ¬ (65536 : Int) < (s.size : Int):=by omega
 have HEG : Hid (tgood s.data.toList -> tpE s = ochk (tnumV (tword (trest s.data.toList))) (tnumV (tword (trest (trest s.data.toList))))):=tpE_good (by omega)
 have HEB : Hid (¬ tgood s.data.toList -> tpE s = 230):=tpE_bad (by omega)
 have HGD : Hid (tgood s.data.toList ↔ tname (tword s.data.toList) = true /\ tnumOk (tword (trest s.data.toList)) = true /\ tnumOk (tword (trest (trest s.data.toList))) = true /\ ggood (trest (trest (trest s.data.toList)))):=Iff.rfl
 have hl : s.data.toList.length = s.size:=Array.length_toList
 have e1 : ∀ l,(tword l).length <= l.length /\ (trest l).length <= l.length:=fun l => zcut_len l 32
 have H1 : Hid (∀ V,Calls Tryz.prog 109 #[.string s,.string ⟨#[32]⟩] V fun e w' => ∃ fd,e = .returned (.tuple #[.string ⟨(tword s.data.toList).toArray⟩,.string ⟨(trest s.data.toList).toArray⟩,.bool fd]) /\ Below V.heap.size V w'):=fun V => Calls.mono (zcut_any s 32 V hm) (by rintro e w' ⟨h1,h2⟩; exact ⟨_,h1,h2⟩)
 have HCU : ∀ l : List UInt8,l.length <= 65536 -> ∀ V,Calls Tryz.prog 109 #[.string ⟨l.toArray⟩,.string ⟨#[32]⟩] V fun e w' => ∃ fd,e = .returned (.tuple #[.string ⟨(tword l).toArray⟩,.string ⟨(trest l).toArray⟩,.bool fd]) /\ Below V.heap.size V w':=fun l hl V => by
  have hz : (⟨l.toArray⟩ : ByteArray).size <= 281474976710656:=by show l.toArray.size <= _; simp; omega
  have h:=zcut_any ⟨l.toArray⟩ 32 V hz
  have e : (⟨l.toArray⟩ : ByteArray).data.toList = l:=by simp
  rw [e] at h
  exact Calls.mono h (by rintro e w' ⟨h1,h2⟩; exact ⟨_,h1,h2⟩)
 generalize s.data.toList = l0 at *
 have z1:=e1 l0
 have z2:=e1 (trest l0)
 have z3:=e1 (trest (trest l0))
 have H2:=hid (HCU (trest l0) (by omega))
 have H3:=hid (HCU (trest (trest l0)) (by omega))
 have HRR : Hid (∀ V,Below w.heap.size w V -> Calls Tryz.prog 212 #[.string ⟨(tword (trest l0)).toArray⟩,.string ⟨(tword (trest (trest l0))).toArray⟩] V fun e w' => e = .returned (.tuple #[.agg #[.int .i32 (tnumV (tword (trest l0))),.int .i32 (tnumV (tword (trest (trest l0))))],.bool (tnumOk (tword (trest l0)) && tnumOk (tword (trest (trest l0))))]) /\ Below V.heap.size V w'):=fun V hv => by
  have h:=treadRotor_any ⟨(tword (trest l0)).toArray⟩ ⟨(tword (trest (trest l0))).toArray⟩ V (by show (tword (trest l0)).toArray.size <= _; simp; omega) (by show (tword (trest (trest l0))).toArray.size <= _; simp; omega) (htab.later hv) (herr.later hv)
  have q1 : (⟨(tword (trest l0)).toArray⟩ : ByteArray).data.toList = tword (trest l0):=by simp
  have q2 : (⟨(tword (trest (trest l0))).toArray⟩ : ByteArray).data.toList = tword (trest (trest l0)):=by simp
  rw [q1,q2] at h
  exact h
 have hsz3 : (⟨(trest (trest (trest l0))).toArray⟩ : ByteArray).size <= 65536:=by show (trest (trest (trest l0))).toArray.size <= _; simp; omega
 have q3 : (⟨(trest (trest (trest l0))).toArray⟩ : ByteArray).data.toList = trest (trest (trest l0)):=by simp
 have HGP : Hid (∀ V,Calls Tryz.prog 213 #[.string ⟨(trest (trest (trest l0))).toArray⟩] V (GToldC V (gpE ⟨(trest (trest (trest l0))).toArray⟩) (gplong (trest (trest (trest l0)))) (rpq (gp1 (trest (trest (trest l0))))) (rpq (gp2 (trest (trest (trest l0))))))):=fun V => by
  have h:=gParse_any ⟨(trest (trest (trest l0))).toArray⟩ V (by omega)
  rw [q3] at h
  exact h
 have HGO : Hid (∀ {n m : Bool} {xs ys us vs : List Int} {code : Int},GTells (gpE ⟨(trest (trest (trest l0))).toArray⟩) (gplong (trest (trest (trest l0)))) (rpq (gp1 (trest (trest (trest l0))))) (rpq (gp2 (trest (trest (trest l0))))) n xs ys m us vs code -> (code = 140 /\ ¬ ggood (trest (trest (trest l0)))) \/ (ggood (trest (trest (trest l0))) /\ gplong (trest (trest (trest l0))) /\ code = 3) \/ (ggood (trest (trest (trest l0))) /\ ¬ gplong (trest (trest (trest l0))) /\ code = 0 /\ GTells 0 (gplong (trest (trest (trest l0)))) (rpq (gp1 (trest (trest (trest l0))))) (rpq (gp2 (trest (trest (trest l0))))) n xs ys m us vs 0)):=fun h => by
  have:=gpar_or hsz3 h
  rw [q3] at this
  exact this
 have HNM : Hid (∀ V,Calls Tryz.prog 96 #[.string ⟨(tword l0).toArray⟩] V fun e w' => e = .returned (.bool (tname (tword l0))) /\ V = w'):=fun V => by
  have h:=tName_any ⟨(tword l0).toArray⟩ V (by show (tword l0).toArray.size <= _; simp; omega)
  have q1 : (⟨(tword l0).toArray⟩ : ByteArray).data.toList = tword l0:=by simp
  rw [q1] at h
  exact h
 have HCL : Hid (∀ V,Calls Tryz.prog 167 #[.string ⟨(tword l0).toArray⟩] V fun e w' => e = .returned (.string ⟨(tword l0).toArray⟩) /\ Below V.heap.size V w'):=fun V => tclone_any _ V (by show (tword l0).toArray.size <= _; simp; omega)
 have HWD : Hid ((⟨(tword l0).toArray⟩ : ByteArray).data.toList = tword l0):=by show _ = _; simp
 have i1:=tnumV_in (tword (trest l0))
 have i2:=tnumV_in (tword (trest (trest l0)))
 have HOC : Hid (∀ V,Calls Tryz.prog 97 #[.agg #[.int .i32 (tnumV (tword (trest l0))),.int .i32 (tnumV (tword (trest (trest l0))))]] V fun e w' => e = .returned (.int .i64 (ochk (tnumV (tword (trest l0))) (tnumV (tword (trest (trest l0)))))) /\ Below V.heap.size V w'):=fun V => ocheck_any _ _ V ⟨by omega,by omega⟩
 generalize tpE s = E at *
 generalize tgood l0 = TG at *
 generalize gplong (trest (trest (trest l0))) = GL at *
 generalize rpq (gp1 (trest (trest (trest l0)))) = q1 at *
 generalize rpq (gp2 (trest (trest (trest l0)))) = q2 at *
 generalize gpE ⟨(trest (trest (trest l0))).toArray⟩ = GE at *
 generalize ggood (trest (trest (trest l0))) = GG at *
 generalize (⟨(trest (trest (trest l0))).toArray⟩ : ByteArray) = B3 at *
 generalize ochk (tnumV (tword (trest l0))) (tnumV (tword (trest (trest l0)))) = OC at *
 generalize tnumV (tword (trest l0)) = F at *
 generalize tnumV (tword (trest (trest l0))) = R at *
 generalize tnumOk (tword (trest l0)) = N1 at *
 generalize tnumOk (tword (trest (trest l0))) = N2 at *
 generalize tname (tword l0) = NM at *
 generalize (⟨(tword (trest l0)).toArray⟩ : ByteArray) = C1 at *
 generalize (⟨(tword (trest (trest l0))).toArray⟩ : ByteArray) = C2 at *
 generalize (⟨(trest (trest l0)).toArray⟩ : ByteArray) = B2 at *
 generalize (⟨(trest l0).toArray⟩ : ByteArray) = B1 at *
 generalize (tword l0).toArray = A1 at *
 generalize tword l0 = l1 at *
 clear z1 z2 z3 e1 HCU htab herr hs q3 hsz3 hl
 go_enter Tryz.func168,Tryz.ntmps168
 go_wp2_with fail
 refine Calls.mono (H1.out _) ?_
 rintro e w1 ⟨d1,rfl,hb1⟩
 have HW1:=hid (bt HB.out hb1)
 have HR1:=hid (HX.out.later hb1 HX.out.lt)
 clear hb1 H1
 go_wp2_with fail
 refine Calls.mono (H2.out _) ?_
 rintro e w2 ⟨d2,rfl,hb2⟩
 have HW2:=hid (bt HW1.out hb2)
 have HR2:=hid (HR1.out.later hb2 HR1.out.lt)
 clear hb2 H2
 go_wp2_with fail
 refine Calls.mono (H3.out _) ?_
 rintro e w3 ⟨d3,rfl,hb3⟩
 have HW3:=hid (bt HW2.out hb3)
 have HR3:=hid (HR2.out.later hb3 HR2.out.lt)
 clear hb3 H3
 go_wp2_with fail
 refine Calls.mono (HRR.out _ HW3.out) ?_
 rintro e w4 ⟨rfl,hb4⟩
 have HN:=hid (Box.made w4 33 #[.int .i32 F,.int .i32 R])
 have HNB:=hid (alloc_later w4 (.cells #[.int .i32 F,.int .i32 R] 33))
 obtain ⟨Y4,hY4⟩ : ∃ Y4,w4.alloc (.cells #[.int .i32 F,.int .i32 R] 33) = Y4:=⟨_,rfl⟩
 rw [hY4] at HN HNB
 have HW4:=hid (bt HW3.out (bt hb4 HNB.out))
 have HR4:=hid (HR3.out.later (bt hb4 HNB.out) HR3.out.lt)
 have h4Y : w4.heap.size < Y4.heap.size:=HN.out.lt
 have hlt4 : w.heap.size < w4.heap.size:=Nat.lt_of_lt_of_le HR3.out.lt hb4.size
 clear hb4 HRR
 go_wp2_with fail
 refine Calls.mono (HGP.out _) ?_
 rintro e w5 ⟨n,a,ca,xs,b,cb,ys,m,c,cc,us,d,cd,vs,code,rfl,hoo,ht,hb5,W1,hc1,hc2⟩
 have HM:=hid (Box.made w5 35 #[.bool n,.slice a xs.length ca,.slice b ys.length cb,.bool m,.slice c us.length cc,.slice d vs.length cd])
 have HMB:=hid (alloc_later w5 (.cells #[.bool n,.slice a xs.length ca,.slice b ys.length cb,.bool m,.slice c us.length cc,.slice d vs.length cd] 35))
 obtain ⟨Y5,hY5⟩ : ∃ Y5,w5.alloc (.cells #[.bool n,.slice a xs.length ca,.slice b ys.length cb,.bool m,.slice c us.length cc,.slice d vs.length cd] 35) = Y5:=⟨_,rfl⟩
 rw [hY5] at HM HMB
 have hb5' : Below Y4.heap.size Y4 Y5:=bt hb5 HMB.out
 have hlt5 : w.heap.size < w5.heap.size:=Nat.lt_of_lt_of_le HR4.out.lt hb5.size
 have HW5:=hid (bt HW4.out hb5')
 have HR5:=hid (HR4.out.later hb5' HR4.out.lt)
 have HN5:=hid (HN.out.later hb5' HN.out.lt)
 have HOO:=hid (And.intro (owns_later hoo.1 HMB.out) (And.intro (owns_later hoo.2.1 HMB.out) (And.intro (owns_later hoo.2.2.1 HMB.out) (owns_later hoo.2.2.2 HMB.out))))
 have HCC : Hid (∃ W1,Cut Y4 (.slice a xs.length ca) (.slice b ys.length cb) W1 /\ Cut W1 (.slice c us.length cc) (.slice d vs.length cd) Y5):=⟨W1,hc1,hc2.up (Nat.le_refl _) HMB.out.size⟩
 have HTO:=hid (HGO.out ht)
 clear hoo hc1 hc2 ht hb5 hb5' HGP HGO
 have m0 : Y5.cell? ⟨w.heap.size,0,none⟩ = some (.string ⟨#[]⟩):=HR5.out.cell 0
 have m1 : Y5.cell? ⟨w.heap.size,1,none⟩ = some (.int .i32 0):=HR5.out.cell 1
 have m2 : Y5.cell? ⟨w.heap.size,2,none⟩ = some (.int .i32 0):=HR5.out.cell 2
 have m3 : Y5.cell? ⟨w.heap.size,3,none⟩ = some (.bool false):=HR5.out.cell 3
 have m4 : Y5.cell? ⟨w.heap.size,4,none⟩ = some (.slice none 0 0):=HR5.out.cell 4
 have m5 : Y5.cell? ⟨w.heap.size,5,none⟩ = some (.slice none 0 0):=HR5.out.cell 5
 have m6 : Y5.cell? ⟨w.heap.size,6,none⟩ = some (.bool false):=HR5.out.cell 6
 have m7 : Y5.cell? ⟨w.heap.size,7,none⟩ = some (.slice none 0 0):=HR5.out.cell 7
 have m8 : Y5.cell? ⟨w.heap.size,8,none⟩ = some (.slice none 0 0):=HR5.out.cell 8
 have f0:=HR5.out.free 0
 have f1:=HR5.out.free 1
 have f2:=HR5.out.free 2
 have f3:=HR5.out.free 3
 have f4:=HR5.out.free 4
 have f5:=HR5.out.free 5
 have f6:=HR5.out.free 6
 have f7:=HR5.out.free 7
 have f8:=HR5.out.free 8
 cases NM with
 | false =>
  have HE:=hid (HEB.out (fun h => by have:=(HGD.out.1 h).1; cases this))
  clear HTO
  go_wp2_with fail
  refine Calls.mono (HNM.out _) ?_
  rintro e w6 ⟨rfl,rfl⟩
  go_wp2_with fail
  have B1:=box_put9 HR5.out (.string ⟨#[]⟩) (.int .i32 0) (.int .i32 0) (.bool false) (.slice none 0 0) (.slice none 0 0) (.bool false) (.slice none 0 0) (.slice none 0 0)
  have G1:=below_put9 HW5.out w.heap.size (Nat.le_refl _) (.string ⟨#[]⟩) (.int .i32 0) (.int .i32 0) (.bool false) (.slice none 0 0) (.slice none 0 0) (.bool false) (.slice none 0 0) (.slice none 0 0)
  clear m0 m1 m2 m3 m4 m5 m6 m7 m8 f0 f1 f2 f3 f4 f5 f6 f7 f8
  exact bodyPost_ret (tres_run (by rfl) B1 _ rfl) rfl (ttoldc_zero (E:=E) (.inl ⟨by rw [HE.out]; decide,HE.out.symm⟩) G1)
 | true =>
  by_cases hN : (N1 && N2) = false
  · have HE:=hid (HEB.out (fun h => by have h1:=(HGD.out.1 h).2.1; have h2:=(HGD.out.1 h).2.2.1; rw [h1,h2] at hN; cases hN))
    rw [hN]
    clear HTO
    go_wp2_with fail
    refine Calls.mono (HNM.out _) ?_
    rintro e w6 ⟨rfl,rfl⟩
    go_wp2_with fail
    have B1:=box_put9 HR5.out (.string ⟨#[]⟩) (.int .i32 0) (.int .i32 0) (.bool false) (.slice none 0 0) (.slice none 0 0) (.bool false) (.slice none 0 0) (.slice none 0 0)
    have G1:=below_put9 HW5.out w.heap.size (Nat.le_refl _) (.string ⟨#[]⟩) (.int .i32 0) (.int .i32 0) (.bool false) (.slice none 0 0) (.slice none 0 0) (.bool false) (.slice none 0 0) (.slice none 0 0)
    clear m0 m1 m2 m3 m4 m5 m6 m7 m8 f0 f1 f2 f3 f4 f5 f6 f7 f8
    exact bodyPost_ret (tres_run (by rfl) B1 _ rfl) rfl (ttoldc_zero (E:=E) (.inl ⟨by rw [HE.out]; decide,HE.out.symm⟩) G1)
  · have hN' : (N1 && N2) = true:=by simpa using hN
    rw [hN']
    have HNN : Hid (N1 = true /\ N2 = true):=by show _ /\ _; simpa using hN'
    clear hN hN'
    rcases HTO.out with ⟨rfl,hg⟩ | ⟨hg,hL,rfl⟩ | ⟨hg,hL,rfl,ht⟩
    · have HE:=hid (HEB.out (fun h => hg (HGD.out.1 h).2.2.2))
      clear HTO hg
      go_wp2_with fail
      refine Calls.mono (HNM.out _) ?_
      rintro e w6 ⟨rfl,rfl⟩
      go_wp2_with fail
      have B1:=box_put9 HR5.out (.string ⟨#[]⟩) (.int .i32 0) (.int .i32 0) (.bool false) (.slice none 0 0) (.slice none 0 0) (.bool false) (.slice none 0 0) (.slice none 0 0)
      have G1:=below_put9 HW5.out w.heap.size (Nat.le_refl _) (.string ⟨#[]⟩) (.int .i32 0) (.int .i32 0) (.bool false) (.slice none 0 0) (.slice none 0 0) (.bool false) (.slice none 0 0) (.slice none 0 0)
      clear m0 m1 m2 m3 m4 m5 m6 m7 m8 f0 f1 f2 f3 f4 f5 f6 f7 f8
      exact bodyPost_ret (tres_run (by rfl) B1 _ rfl) rfl (ttoldc_zero (E:=E) (.inl ⟨by rw [HE.out]; decide,HE.out.symm⟩) G1)
    · have HE:=hid (HEG.out (HGD.out.2 ⟨rfl,HNN.out.1,HNN.out.2,hg⟩))
      have HL:=hid hL
      clear HTO hg hL
      go_wp2_with fail
      refine Calls.mono (HNM.out _) ?_
      rintro e w6 ⟨rfl,rfl⟩
      have r0 : Y5.cell? ⟨w4.heap.size,0,none⟩ = some (.int .i32 F):=HN5.out.cell 0
      have r1 : Y5.cell? ⟨w4.heap.size,1,none⟩ = some (.int .i32 R):=HN5.out.cell 1
      go_wp2_with fail
      refine Calls.mono (HOC.out _) ?_
      rintro e w6 ⟨rfl,hb6⟩
      have HW6:=hid (bt HW5.out hb6)
      have HR6:=hid (HR5.out.later hb6 HR5.out.lt)
      clear hb6 r0 r1 HOC m0 m1 m2 m3 m4 m5 m6 m7 m8 f0 f1 f2 f3 f4 f5 f6 f7 f8
      have m0 : w6.cell? ⟨w.heap.size,0,none⟩ = some (.string ⟨#[]⟩):=HR6.out.cell 0
      have m1 : w6.cell? ⟨w.heap.size,1,none⟩ = some (.int .i32 0):=HR6.out.cell 1
      have m2 : w6.cell? ⟨w.heap.size,2,none⟩ = some (.int .i32 0):=HR6.out.cell 2
      have m3 : w6.cell? ⟨w.heap.size,3,none⟩ = some (.bool false):=HR6.out.cell 3
      have m4 : w6.cell? ⟨w.heap.size,4,none⟩ = some (.slice none 0 0):=HR6.out.cell 4
      have m5 : w6.cell? ⟨w.heap.size,5,none⟩ = some (.slice none 0 0):=HR6.out.cell 5
      have m6 : w6.cell? ⟨w.heap.size,6,none⟩ = some (.bool false):=HR6.out.cell 6
      have m7 : w6.cell? ⟨w.heap.size,7,none⟩ = some (.slice none 0 0):=HR6.out.cell 7
      have m8 : w6.cell? ⟨w.heap.size,8,none⟩ = some (.slice none 0 0):=HR6.out.cell 8
      have f0:=HR6.out.free 0
      have f1:=HR6.out.free 1
      have f2:=HR6.out.free 2
      have f3:=HR6.out.free 3
      have f4:=HR6.out.free 4
      have f5:=HR6.out.free 5
      have f6:=HR6.out.free 6
      have f7:=HR6.out.free 7
      have f8:=HR6.out.free 8
      by_cases hO : OC = 0
      · subst hO
        go_wp2_with fail
        have B1:=box_put9 HR6.out (.string ⟨#[]⟩) (.int .i32 0) (.int .i32 0) (.bool false) (.slice none 0 0) (.slice none 0 0) (.bool false) (.slice none 0 0) (.slice none 0 0)
        have G1:=below_put9 HW6.out w.heap.size (Nat.le_refl _) (.string ⟨#[]⟩) (.int .i32 0) (.int .i32 0) (.bool false) (.slice none 0 0) (.slice none 0 0) (.bool false) (.slice none 0 0) (.slice none 0 0)
        clear m0 m1 m2 m3 m4 m5 m6 m7 m8 f0 f1 f2 f3 f4 f5 f6 f7 f8
        exact bodyPost_ret (tres_run (by rfl) B1 _ rfl) rfl (ttoldc_zero (E:=E) (.inr ⟨HE.out,HL.out,rfl⟩) G1)
      · have hO' : (OC == 0) = false:=by simp [hO]
        have hO2 : (OC != 0) = true:=by simp [hO]
        go_wp2_with fail
        have B1:=box_put9 HR6.out (.string ⟨#[]⟩) (.int .i32 0) (.int .i32 0) (.bool false) (.slice none 0 0) (.slice none 0 0) (.bool false) (.slice none 0 0) (.slice none 0 0)
        have G1:=below_put9 HW6.out w.heap.size (Nat.le_refl _) (.string ⟨#[]⟩) (.int .i32 0) (.int .i32 0) (.bool false) (.slice none 0 0) (.slice none 0 0) (.bool false) (.slice none 0 0) (.slice none 0 0)
        clear m0 m1 m2 m3 m4 m5 m6 m7 m8 f0 f1 f2 f3 f4 f5 f6 f7 f8
        exact bodyPost_ret (tres_run (by rfl) B1 _ rfl) rfl (ttoldc_zero (E:=E) (.inl ⟨by rw [HE.out]; exact hO,HE.out.symm⟩) G1)
    · have HE:=hid (HEG.out (HGD.out.2 ⟨rfl,HNN.out.1,HNN.out.2,hg⟩))
      have HT:=hid ht
      have HL:=hid hL
      clear HTO hg hL ht
      go_wp2_with fail
      refine Calls.mono (HNM.out _) ?_
      rintro e w6 ⟨rfl,rfl⟩
      have r0 : Y5.cell? ⟨w4.heap.size,0,none⟩ = some (.int .i32 F):=HN5.out.cell 0
      have r1 : Y5.cell? ⟨w4.heap.size,1,none⟩ = some (.int .i32 R):=HN5.out.cell 1
      go_wp2_with fail
      refine Calls.mono (HOC.out _) ?_
      rintro e w6 ⟨rfl,hb6⟩
      have HW6:=hid (bt HW5.out hb6)
      have HR6:=hid (HR5.out.later hb6 HR5.out.lt)
      have HN6:=hid (HN5.out.later hb6 HN5.out.lt)
      have HM6:=hid (HM.out.later hb6 HM.out.lt)
      have HO6:=hid (And.intro (owns_later HOO.out.1 hb6) (And.intro (owns_later HOO.out.2.1 hb6) (And.intro (owns_later HOO.out.2.2.1 hb6) (owns_later HOO.out.2.2.2 hb6))))
      have HC6 : Hid (∃ W1,Cut Y4 (.slice a xs.length ca) (.slice b ys.length cb) W1 /\ Cut W1 (.slice c us.length cc) (.slice d vs.length cd) w6):=by
       obtain ⟨W1,h1,h2⟩:=HCC.out
       exact ⟨W1,h1,h2.up (Nat.le_refl _) hb6.size⟩
      clear hb6 r0 r1 HOC m0 m1 m2 m3 m4 m5 m6 m7 m8 f0 f1 f2 f3 f4 f5 f6 f7 f8
      by_cases hO : OC = 0
      · subst hO
        have HK : Hid (∀ V,Box V w4.heap.size 33 #[.int .i32 F,.int .i32 R] -> Box V w5.heap.size 35 #[.bool n,.slice a xs.length ca,.slice b ys.length cb,.bool m,.slice c us.length cc,.slice d vs.length cd] -> V.cell? ⟨w4.heap.size,0,none⟩ = some (.int .i32 F) /\ V.cell? ⟨w4.heap.size,1,none⟩ = some (.int .i32 R) /\ V.cell? ⟨w5.heap.size,0,none⟩ = some (.bool n) /\ V.cell? ⟨w5.heap.size,1,none⟩ = some (.slice a xs.length ca) /\ V.cell? ⟨w5.heap.size,2,none⟩ = some (.slice b ys.length cb) /\ V.cell? ⟨w5.heap.size,3,none⟩ = some (.bool m) /\ V.cell? ⟨w5.heap.size,4,none⟩ = some (.slice c us.length cc) /\ V.cell? ⟨w5.heap.size,5,none⟩ = some (.slice d vs.length cd)):=fun V h1 h2 => ⟨h1.cell 0,h1.cell 1,h2.cell 0,h2.cell 1,h2.cell 2,h2.cell 3,h2.cell 4,h2.cell 5⟩
        have hs0:=HK.out w6.drew HN6.out HM6.out
        have hd0:=hid (Below.refl w6.heap.size w6).drew
        have HC7 : Hid (∀ V,Below w6.heap.size w6 V -> Calls Tryz.prog 167 #[.string ⟨A1⟩] V fun e w' => e = .returned (.string ⟨A1⟩) /\ Below w6.heap.size w6 w'):=fun V hv => Calls.mono (HCL.out V) (by rintro e w' ⟨h1,h2⟩; exact ⟨h1,bt hv h2⟩)
        go_wp2_with fail
        go_region_held3 (fun V : World => V.cell? ⟨w4.heap.size,0,none⟩ = some (.int .i32 F) /\ V.cell? ⟨w4.heap.size,1,none⟩ = some (.int .i32 R) /\ V.cell? ⟨w5.heap.size,0,none⟩ = some (.bool n) /\ V.cell? ⟨w5.heap.size,1,none⟩ = some (.slice a xs.length ca) /\ V.cell? ⟨w5.heap.size,2,none⟩ = some (.slice b ys.length cb) /\ V.cell? ⟨w5.heap.size,3,none⟩ = some (.bool m) /\ V.cell? ⟨w5.heap.size,4,none⟩ = some (.slice c us.length cc) /\ V.cell? ⟨w5.heap.size,5,none⟩ = some (.slice d vs.length cd)) (first | exact hs9 | exact hs1 | exact hs0)
         ((go_at_call 167; (with_reducible refine Calls.mono (HC7.out _ hd0.out) ?_); rintro e w7 ⟨rfl,hb7⟩; have hs1:=HK.out _ (HN6.out.later hb7 HN6.out.lt) (HM6.out.later hb7 HM6.out.lt); have HQ:=hid (HR6.out.later hb7 HR6.out.lt); obtain ⟨A0,A1,A2,A3,A4,A5,A6,A7,A8,hA0,hA1,hA2,hA3,hA4,hA5,hA6,hA7,hA8,⟨q0_,q1_,q2_,q3_,q4_,q5_,q6_,q7_,q8_⟩,p0_,p1_,p2_,p3_,p4_,p5_,p6_,p7_,p8_⟩:=tchain9 HQ.out (.string ⟨A1⟩) (.int .i32 F) (.int .i32 R) (.bool n) (.slice a xs.length ca) (.slice b ys.length cb) (.bool m) (.slice c us.length cc) (.slice d vs.length cd); have hs9:=HK.out A8 (tchain_far (HN6.out.later hb7 HN6.out.lt) (Nat.ne_of_gt hlt4) hA0 hA1 hA2 hA3 hA4 hA5 hA6 hA7 hA8) (tchain_far (HM6.out.later hb7 HM6.out.lt) (Nat.ne_of_gt hlt5) hA0 hA1 hA2 hA3 hA4 hA5 hA6 hA7 hA8)))
        all_goals
         have HW7:=hid (bt HW6.out hb7)
         have HO7:=hid (And.intro (owns_later HO6.out.1 hb7) (And.intro (owns_later HO6.out.2.1 hb7) (And.intro (owns_later HO6.out.2.2.1 hb7) (owns_later HO6.out.2.2.2 hb7))))
         have HC7' : Hid (∃ W1,Cut Y4 (.slice a xs.length ca) (.slice b ys.length cb) W1 /\ Cut W1 (.slice c us.length cc) (.slice d vs.length cd) w7):=by
          obtain ⟨W1,h1,h2⟩:=HC6.out
          exact ⟨W1,h1,h2.up (Nat.le_refl _) hb7.size⟩
         clear hs0 hs1 hs9 hb7 HC7 HCL HK q0_ p0_ q1_ p1_ q2_ p2_ q3_ p3_ q4_ p4_ q5_ p5_ q6_ p6_ q7_ p7_ q8_ p8_
         subst hA0 hA1 hA2 hA3 hA4 hA5 hA6 hA7 hA8
         go_wp2_with fail
         have B1:=box_put9 HQ.out (.string ⟨A1⟩) (.int .i32 F) (.int .i32 R) (.bool n) (.slice a xs.length ca) (.slice b ys.length cb) (.bool m) (.slice c us.length cc) (.slice d vs.length cd)
         have G1:=below_put9 HW7.out w.heap.size (Nat.le_refl _) (.string ⟨A1⟩) (.int .i32 F) (.int .i32 R) (.bool n) (.slice a xs.length ca) (.slice b ys.length cb) (.bool m) (.slice c us.length cc) (.slice d vs.length cd)
         have hszY : w.heap.size <= Y4.heap.size:=by omega
         have hput : ∀ {base k : Nat} {v : Value} {l : List Value},w7.ownsRow base 69 1 v k l -> (∀ g,v.ownBlock = some g -> Y4.heap.size <= g) -> (((((((((w7.setCell ⟨w.heap.size,0,none⟩ (.string ⟨A1⟩)).setCell ⟨w.heap.size,1,none⟩ (.int .i32 F)).setCell ⟨w.heap.size,2,none⟩ (.int .i32 R)).setCell ⟨w.heap.size,3,none⟩ (.bool n)).setCell ⟨w.heap.size,4,none⟩ (.slice a xs.length ca)).setCell ⟨w.heap.size,5,none⟩ (.slice b ys.length cb)).setCell ⟨w.heap.size,6,none⟩ (.bool m)).setCell ⟨w.heap.size,7,none⟩ (.slice c us.length cc)).setCell ⟨w.heap.size,8,none⟩ (.slice d vs.length cd)).ownsRow base 69 1 v k l:=fun h hb => own_put9 h _ (fun g hg => by have:=hb g hg; omega) _ _ _ _ _ _ _ _ _
         refine bodyPost_ret (tres_run (by rfl) B1 _ rfl) rfl ?_
         obtain ⟨W1,hc1,hc2⟩:=HC7'.out
         refine ⟨⟨A1⟩,F,R,n,a,ca,xs,b,cb,ys,m,c,cc,us,d,cd,vs,0,rfl,⟨owns_base (hput HO7.out.1 (fun g hg => (HO7.out.1.lt g hg).1)) hszY,owns_base (hput HO7.out.2.1 (fun g hg => (HO7.out.2.1.lt g hg).1)) hszY,owns_base (hput HO7.out.2.2.1 (fun g hg => (HO7.out.2.2.1.lt g hg).1)) hszY,owns_base (hput HO7.out.2.2.2 (fun g hg => (HO7.out.2.2.2.lt g hg).1)) hszY⟩,⟨by rw [HE.out]; exact HT.out,fun h => absurd rfl h,fun _ => ⟨HWD.out,rfl,rfl⟩⟩,G1,W1,hc1.up hszY (Nat.le_refl _),hc2.up (Nat.le_refl _) (by simp [World.setCell])⟩
      · have hO' : (OC == 0) = false:=by simp [hO]
        have hO2 : (OC != 0) = true:=by simp [hO]
        have m0 : w6.cell? ⟨w.heap.size,0,none⟩ = some (.string ⟨#[]⟩):=HR6.out.cell 0
        have m1 : w6.cell? ⟨w.heap.size,1,none⟩ = some (.int .i32 0):=HR6.out.cell 1
        have m2 : w6.cell? ⟨w.heap.size,2,none⟩ = some (.int .i32 0):=HR6.out.cell 2
        have m3 : w6.cell? ⟨w.heap.size,3,none⟩ = some (.bool false):=HR6.out.cell 3
        have m4 : w6.cell? ⟨w.heap.size,4,none⟩ = some (.slice none 0 0):=HR6.out.cell 4
        have m5 : w6.cell? ⟨w.heap.size,5,none⟩ = some (.slice none 0 0):=HR6.out.cell 5
        have m6 : w6.cell? ⟨w.heap.size,6,none⟩ = some (.bool false):=HR6.out.cell 6
        have m7 : w6.cell? ⟨w.heap.size,7,none⟩ = some (.slice none 0 0):=HR6.out.cell 7
        have m8 : w6.cell? ⟨w.heap.size,8,none⟩ = some (.slice none 0 0):=HR6.out.cell 8
        have f0:=HR6.out.free 0
        have f1:=HR6.out.free 1
        have f2:=HR6.out.free 2
        have f3:=HR6.out.free 3
        have f4:=HR6.out.free 4
        have f5:=HR6.out.free 5
        have f6:=HR6.out.free 6
        have f7:=HR6.out.free 7
        have f8:=HR6.out.free 8
        go_wp2_with fail
        have B1:=box_put9 HR6.out (.string ⟨#[]⟩) (.int .i32 0) (.int .i32 0) (.bool false) (.slice none 0 0) (.slice none 0 0) (.bool false) (.slice none 0 0) (.slice none 0 0)
        have G1:=below_put9 HW6.out w.heap.size (Nat.le_refl _) (.string ⟨#[]⟩) (.int .i32 0) (.int .i32 0) (.bool false) (.slice none 0 0) (.slice none 0 0) (.bool false) (.slice none 0 0) (.slice none 0 0)
        clear m0 m1 m2 m3 m4 m5 m6 m7 m8 f0 f1 f2 f3 f4 f5 f6 f7 f8
        exact bodyPost_ret (tres_run (by rfl) B1 _ rfl) rfl (ttoldc_zero (E:=E) (.inl ⟨by rw [HE.out]; exact hO,HE.out.symm⟩) G1)
theorem zw (x : Int) (h0 : 0 <= x) (h1 : x <= 4294967295) : Wd [x]:=Wd.one ⟨h0,h1⟩
theorem zk32 : rchk false [3] [2] = 0:=rchk_good (by simp) (by simp) rfl rfl (by simp) (.inl rfl) (by decide)
theorem zname : tname [77,50] = true:=by decide +kernel
theorem zdig_one {u : Nat} (h : u < 10) : decDigits u = [UInt8.ofNat (48 + u)]:=by rw [decDigits,dif_pos h]
theorem zdig_more {u : Nat} (h : ¬ u < 10) : decDigits u = decDigits (u / 10) ++ [UInt8.ofNat (48 + u % 10)]:=by rw [decDigits,dif_neg h]
theorem zdigit_nat (d : Nat) (h : d < 10) : (UInt8.ofNat (48 + d)).toNat = 48 + d:=by rw [UInt8.toNat_ofNat']; omega
theorem zdec_all (n : Nat) : (∀ x ∈ decDigits n,48 <= x.toNat /\ x.toNat <= 57) /\ decDigits n ≠ []:=by
 by_cases h : n < 10
 · rw [zdig_one h]
   refine ⟨fun x hx => ?_,by simp⟩
   rw [List.mem_singleton] at hx
   rw [hx,zdigit_nat n h]; omega
 · rw [zdig_more h]
   have ih:=zdec_all (n / 10)
   refine ⟨fun x hx => ?_,by simp⟩
   rcases List.mem_append.1 hx with hx | hx
   · exact ih.1 x hx
   · rw [List.mem_singleton] at hx
     rw [hx,zdigit_nat (n % 10) (by omega)]; omega
termination_by n
decreasing_by omega
theorem zpum (n : Nat) (r : List UInt8) (hn : n < 9223372036854775808) : parseUint10 0 (decDigits n ++ r) = parseUint10 n r:=by
 by_cases h : n < 10
 · rw [zdig_one h]
   show parseUint10 0 (UInt8.ofNat (48 + n) :: r) = _
   rw [parseUint10,zdigit_nat n h,if_pos (by omega),if_neg (by omega),if_neg (by omega)]
   congr 1; omega
 · rw [zdig_more h,List.append_assoc]
   rw [zpum (n / 10) _ (by omega)]
   show parseUint10 (n / 10) (UInt8.ofNat (48 + n % 10) :: r) = _
   rw [parseUint10,zdigit_nat (n % 10) (by omega),if_pos (by omega),if_neg (by omega),if_neg (by omega)]
   congr 1; omega
termination_by n
decreasing_by omega
theorem zdig_short {n k : Nat} (h : n < 10 ^ (k + 1)) : nDigits n <= k + 1:=by
 induction k generalizing n with
 | zero => rw [nDigits_small (by simpa using h)]; omega
 | succ k ih =>
  by_cases hn : n < 10
  · rw [nDigits_small hn]; omega
  · rw [nDigits_big hn]
    have : n / 10 < 10 ^ (k + 1):=by
     rw [Nat.div_lt_iff_lt_mul (by decide)]
     rw [Nat.pow_succ] at h
     exact h
    have:=ih this
    omega
theorem zsg_parts {n m : Bool} {x y : Int} (hx : 0 <= x) (hy : 0 <= y) (h1 : n = false \/ 0 < x) (h2 : m = false \/ 0 < y) (h : sg n x = sg m y) : n = m /\ x = y:=by
 cases n <;> cases m <;> simp [sg] at h h1 h2 ⊢ <;> omega
theorem zread_text {l : List UInt8} (h : rgood l) {n : Bool} {xs ys : List Int} (wx : Wd xs) (wy : Wd ys) (hk : rchk n xs ys = 0) (hq : rq n xs ys = rpq l) : rtext n xs ys = l:=by
 obtain ⟨lx,ly,tx,ty,y0,s0,g⟩:=rchk_ok hk
 have py:=val_pos' wy ty y0
 obtain ⟨a1,a2⟩:=fr_num (x:=sg n (val xs)) py (by rw [gcd_sg]; exact g)
 obtain ⟨b1,b2⟩:=fr_num (x:=sg (rneg l) (rnu l)) h.2.2.1 (by rw [gcd_sg]; exact h.2.2.2.2)
 have e : Rat.divInt (sg n (val xs)) (val ys) = Rat.divInt (sg (rneg l) (rnu l)) (rde l):=hq
 rw [e] at a1 a2
 have n0 : 0 <= rnu l:=(numTo_bounds h.1.2.2 _).1
 obtain ⟨c1,c2⟩:=zsg_parts (val_nonneg wx) n0 (s0.imp id (fun t => val_pos' wx tx t)) h.2.2.2.1 (a1.symm.trans b1)
 rw [c1]
 exact says_text h wy ty c2 (by omega)
theorem tcut_eq (l : List UInt8) : cut (32 :: l) [32] = ([],l,true):=by
 unfold cut
 rw [index_one,indexByte]
 simp
theorem tcut_ne (c : UInt8) (l : List UInt8) (h : c ≠ 32) : cut (c :: l) [32] = (c :: (cut l [32]).1,(cut l [32]).2.1,(cut l [32]).2.2):=by
 have hb : (c == 32) = false:=by simpa using h
 unfold cut
 rw [index_one,index_one,indexByte,hb]
 by_cases hi : indexByte l 32 = -1
 · rw [hi]
   simp
 · have h0 : 0 <= indexByte l 32:=by
    have:=index_ge l [32]
    rw [index_one] at this
    omega
   have h1 : (indexByte l 32 == -1) = false:=by simpa using hi
   rw [h1]
   simp only [Bool.false_eq_true,if_false]
   rw [if_pos (by omega),if_pos h0]
   have e : (indexByte l 32 + 1).toNat = (indexByte l 32).toNat + 1:=by omega
   rw [e]
   simp
theorem tcut_split : ∀ (a b : List UInt8),(∀ x ∈ a,x ≠ 32) -> cut (a ++ 32 :: b) [32] = (a,b,true)
 | [],b,_ => tcut_eq b
 | c :: a,b,h => by
  show cut (c :: (a ++ 32 :: b)) [32] = _
  rw [tcut_ne c _ (h c (by simp)),tcut_split a b (fun x hx => h x (by simp [hx]))]
theorem tcut_parts : ∀ l : List UInt8,((cut l [32]).2.2 = true /\ l = (cut l [32]).1 ++ 32 :: (cut l [32]).2.1) \/ ((cut l [32]).2.1 = [])
 | [] => .inr (by decide)
 | c :: l => by
  by_cases h : c = 32
  · subst h; rw [tcut_eq]; exact .inl ⟨rfl,rfl⟩
  · rw [tcut_ne c l h]
    rcases tcut_parts l with ⟨h1,h2⟩ | h2
    · refine .inl ⟨h1,?_⟩
      show c :: l = c :: ((cut l [32]).1 ++ 32 :: (cut l [32]).2.1)
      rw [<- h2]
    · exact .inr h2
theorem rgood_nil : ¬ rgood []:=fun h => by
 have h1:=h.1.1
 have e : rup [] = []:=by decide
 rw [e] at h1
 exact absurd h1 (by decide)
theorem rtext_bytes (n : Bool) (xs ys : List Int) : ∀ x ∈ rtext n xs ys,x ≠ 32:=by
 have hd : ∀ k : Nat,∀ x ∈ decDigits k,x ≠ 32:=fun k x hx e => by
  have:=(zdec_all k).1 x hx
  rw [e] at this; exact absurd this (by decide)
 rw [rtext_eq]
 intro x hx
 rcases List.mem_append.1 hx with hx | hx
 · cases n with
   | false => simp at hx
   | true => simp at hx; rw [hx]; decide
 · rcases List.mem_append.1 hx with hx | hx
   · exact hd _ x hx
   · split at hx
     · simp at hx
     · rcases List.mem_cons.1 hx with hx | hx
       · rw [hx]; decide
       · exact hd _ x hx
theorem zform2 {n : Bool} {xs ys : List Int} (h : rchk n xs ys = 0) : rform n xs ys:=by
 unfold rchk at h
 by_cases hl : 2048 < max xs.length ys.length
 · rw [if_pos hl] at h; exact absurd h (by decide)
 · rw [if_neg hl] at h
   by_cases c : rform n xs ys
   · exact c
   · rw [if_neg c] at h; exact absurd h (by decide)
theorem znotlong {n : Bool} {xs ys : List Int} (wx : Wd xs) (wy : Wd ys) (h : rchk n xs ys = 0) : ¬ rlong (rq n xs ys):=fun hl => absurd ((RTells.self wx wy h).long rfl hl).2.2.2 (by decide)
theorem zbytes {S : ByteArray} {l : List UInt8} (e : S.data.toList = l) : S = ⟨l.toArray⟩:=by
 cases S with | mk d => simp only at e ⊢; rw [<- Array.toArray_toList (xs:=d),e]
end Go.Proofs.YtnhmaijmmkplkaaGreatDoor
namespace Go.Proofs.YtnhmaijmmkplkaaGreatDoor
set_option maxHeartbeats 6400000
open Go.RowKit
set_option linter.unusedVariables false
set_option maxRecDepth 100000 in
theorem gConj_full (n : Bool) (a : Option Addr) (ca : Nat) (xs : List Int) (b : Option Addr) (cb : Nat) (ys : List Int) (m : Bool) (c : Option Addr) (cc : Nat) (us : List Int) (d : Option Addr) (cd : Nat) (vs : List Int) (w : World) (sx : Sl w (.slice a xs.length ca) xs) (sy : Sl w (.slice b ys.length cb) ys) (su : Sl w (.slice c us.length cc) us) (sv : Sl w (.slice d vs.length cd) vs) :
 Calls Tryz.prog 49 #[.agg #[.bool n,.slice a xs.length ca,.slice b ys.length cb,.bool m,.slice c us.length cc,.slice d vs.length cd]] w (GToldC w (gchk n xs ys m us vs) (rlong (rq n xs ys) \/ rlong (-(rq m us vs))) (rq n xs ys) (-(rq m us vs))):=by
 have HX:=hid (boxes2r w 35 #[.bool n,.slice a xs.length ca,.slice b ys.length cb,.bool m,.slice c us.length cc,.slice d vs.length cd] #[.bool false,.slice none 0 0,.slice none 0 0,.bool false,.slice none 0 0,.slice none 0 0])
 obtain ⟨X,hX⟩ : ∃ X,(w.alloc (.cells #[.bool n,.slice a xs.length ca,.slice b ys.length cb,.bool m,.slice c us.length cc,.slice d vs.length cd] 35)).alloc (.cells #[.bool false,.slice none 0 0,.slice none 0 0,.bool false,.slice none 0 0,.slice none 0 0] 35) = X:=⟨_,rfl⟩
 rw [hX] at HX
 have HY:=hid (Box.made X 35 #[.bool n,.slice a xs.length ca,.slice b ys.length cb,.bool m,.slice c us.length cc,.slice d vs.length cd])
 have HYB:=hid (alloc_later X (.cells #[.bool n,.slice a xs.length ca,.slice b ys.length cb,.bool m,.slice c us.length cc,.slice d vs.length cd] 35))
 obtain ⟨Y,hY⟩ : ∃ Y,X.alloc (.cells #[.bool n,.slice a xs.length ca,.slice b ys.length cb,.bool m,.slice c us.length cc,.slice d vs.length cd] 35) = Y:=⟨_,rfl⟩
 rw [hY] at HY HYB
 have HWY:=hid (bt HX.out.2.2 HYB.out)
 have HL:=hid (glookAt1_any X.heap.size n a ca xs b cb ys m c cc us d cd vs Y HY.out (sx.later HWY.out) (sy.later HWY.out) (su.later HWY.out) (sv.later HWY.out))
 have H1 : Hid (∀ V p,Below w.heap.size w V -> Box V p 175 #[.int .i64 (gchk n xs ys m us vs)] -> Calls Tryz.prog 104 #[.pointer (some ⟨p,0,none⟩),.agg #[.bool n,.slice a xs.length ca,.slice b ys.length cb]] V (GTell V p (gchk n xs ys m us vs) (rq n xs ys))):=fun V p hv hb => gcopied_any p (gchk n xs ys m us vs) n a ca xs b cb ys V hb (sx.later hv) (sy.later hv) (fun h => (gchk_ok h).1)
 have H2 : Hid (∀ V p E,Below w.heap.size w V -> Box V p 175 #[.int .i64 E] -> Calls Tryz.prog 105 #[.pointer (some ⟨p,0,none⟩),.agg #[.bool m,.slice c us.length cc,.slice d vs.length cd]] V (GTell V p (fstE E (rchk m us vs)) (-(rq m us vs)))):=fun V p E hv hb => gopposite_any p E m c cc us d cd vs V hb (su.later hv) (sv.later hv)
 have HZ1 : Hid (gchk n xs ys m us vs = 0 -> rchk n xs ys = 0 /\ rchk m us vs = 0):=fun h => by
  exact gchk_ok h
 generalize gchk n xs ys m us vs = E0 at *
 generalize rchk m us vs = e2 at *
 generalize rq n xs ys = q1 at *
 generalize -(rq m us vs) = q2 at *
 clear sx sy su sv
 have ka0 : X.cell? ⟨w.heap.size,0,none⟩ = some (.bool n):=HX.out.1.cell 0
 have ka1 : X.cell? ⟨w.heap.size,1,none⟩ = some (.slice a xs.length ca):=HX.out.1.cell 1
 have ka2 : X.cell? ⟨w.heap.size,2,none⟩ = some (.slice b ys.length cb):=HX.out.1.cell 2
 have ka3 : X.cell? ⟨w.heap.size,3,none⟩ = some (.bool m):=HX.out.1.cell 3
 have ka4 : X.cell? ⟨w.heap.size,4,none⟩ = some (.slice c us.length cc):=HX.out.1.cell 4
 have ka5 : X.cell? ⟨w.heap.size,5,none⟩ = some (.slice d vs.length cd):=HX.out.1.cell 5
 go_enter Tryz.func49,Tryz.ntmps49
 go_wp2_with fail
 refine Calls.mono HL.out ?_
 rintro x w1 ⟨p,rfl,hpl,hpb,hb1⟩
 have HW1:=hid (bt HWY.out hb1)
 have HA1:=hid (HX.out.1.later (bt HYB.out hb1) HX.out.1.lt)
 have HR1:=hid (HX.out.2.1.later (bt HYB.out hb1) HX.out.2.1.lt)
 have HP1:=hid hpb
 have hpX : X.heap.size < p:=Nat.lt_of_lt_of_le HY.out.lt hpl
 have hrX : w.heap.size + 1 < X.heap.size:=HX.out.2.1.lt
 clear hpb hb1 hpl HL ka0 ka1 ka2 ka3 ka4 ka5
 have ka0 : w1.cell? ⟨w.heap.size,0,none⟩ = some (.bool n):=HA1.out.cell 0
 have ka1 : w1.cell? ⟨w.heap.size,1,none⟩ = some (.slice a xs.length ca):=HA1.out.cell 1
 have ka2 : w1.cell? ⟨w.heap.size,2,none⟩ = some (.slice b ys.length cb):=HA1.out.cell 2
 go_wp2_with fail
 refine Calls.mono (H1.out _ p HW1.out HP1.out) ?_
 rintro x w2 ⟨k1,v1,zs1,u1,ts1,code1,rfl,ov1,ou1,ht1,hp2,hg2,hcut1⟩
 obtain ⟨av1,cv1,rfl⟩:=own_slice' ov1
 obtain ⟨au1,cu1,rfl⟩:=own_slice' ou1
 have hw12 : w1.heap.size <= w2.heap.size:=hg2.size
 have hp1l : p < w1.heap.size:=HP1.out.lt
 have HW2 : Hid (Below w.heap.size w w2):=HW1.out.grown hg2 HW1.out.size (fun q hq => by have e:=Option.some.inj hq; omega)
 have HA2:=hid (HA1.out.kept' hg2 (by intro e; have:=Option.some.inj e; omega))
 have HR2:=hid (HR1.out.kept' hg2 (by intro e; have:=Option.some.inj e; omega))
 have HP2:=hid hp2
 have HV1:=hid ov1
 have HU1:=hid ou1
 have HT1:=hid ht1
 have HC1:=hid hcut1
 have HN:=hid (Box.made w2 24 #[.bool k1,.slice av1 zs1.length cv1,.slice au1 ts1.length cu1])
 have HNB:=hid (alloc_later w2 (.cells #[.bool k1,.slice av1 zs1.length cv1,.slice au1 ts1.length cu1] 24))
 obtain ⟨Z,hZ⟩ : ∃ Z,w2.alloc (.cells #[.bool k1,.slice av1 zs1.length cv1,.slice au1 ts1.length cu1] 24) = Z:=⟨_,rfl⟩
 rw [hZ] at HN HNB
 have HAZ:=hid (HA2.out.later HNB.out HA2.out.lt)
 clear ov1 ou1 ht1 hp2 hg2 hcut1 HW1 HA1 HR1 HP1 H1 ka0 ka1 ka2
 have ka0 : Z.cell? ⟨w.heap.size,3,none⟩ = some (.bool m):=HAZ.out.cell 3
 have ka1 : Z.cell? ⟨w.heap.size,4,none⟩ = some (.slice c us.length cc):=HAZ.out.cell 4
 have ka2 : Z.cell? ⟨w.heap.size,5,none⟩ = some (.slice d vs.length cd):=HAZ.out.cell 5
 go_wp2_with fail
 refine Calls.mono (H2.out _ p code1 (bt HW2.out HNB.out) (HP2.out.later HNB.out HP2.out.lt)) ?_
 rintro x w3 ⟨k2,v2,zs2,u2,ts2,code2,rfl,ov2,ou2,ht2,hp3,hg3,hcut2⟩
 obtain ⟨av2,cv2,rfl⟩:=own_slice' ov2
 obtain ⟨au2,cu2,rfl⟩:=own_slice' ou2
 have hZ3 : Z.heap.size <= w3.heap.size:=hg3.size
 have hw2Z : w2.heap.size < Z.heap.size:=HN.out.lt
 have HW3 : Hid (Below w.heap.size w w3):=(bt HW2.out HNB.out).grown hg3 (bt HW2.out HNB.out).size (fun q hq => by have e:=Option.some.inj hq; omega)
 have HR3:=hid ((HR2.out.later HNB.out HR2.out.lt).kept' hg3 (by intro e; have:=Option.some.inj e; omega))
 have HN3:=hid (HN.out.kept' hg3 (by intro e; have:=Option.some.inj e; omega))
 have HP3:=hid hp3
 have hk : ∀ (v : Value) (q : Nat),(∀ g,v.ownBlock = some g -> q <= g) -> p < q -> v.ownBlock = none \/ v.ownBlock ≠ some p:=fun v q h1 h2 => by
  cases e : v.ownBlock with
  | none => exact .inl rfl
  | some g => right; intro h; have e2:=Option.some.inj h; have:=h1 g e; omega
 have HV3:=hid (World.ownsRow.kept (owns_later HV1.out HNB.out) hg3 (hk _ w1.heap.size (fun g hg => (HV1.out.lt g hg).1) hp1l))
 have HU3:=hid (World.ownsRow.kept (owns_later HU1.out HNB.out) hg3 (hk _ w1.heap.size (fun g hg => (HU1.out.lt g hg).1) hp1l))
 have HV4:=hid ov2
 have HU4:=hid ou2
 have HT2:=hid ht2
 have HC2:=hid hcut2
 clear hk
 have HM:=hid (Box.made w3 24 #[.bool k2,.slice av2 zs2.length cv2,.slice au2 ts2.length cu2])
 have HMB:=hid (alloc_later w3 (.cells #[.bool k2,.slice av2 zs2.length cv2,.slice au2 ts2.length cu2] 24))
 obtain ⟨Q,hQ⟩ : ∃ Q,w3.alloc (.cells #[.bool k2,.slice av2 zs2.length cv2,.slice au2 ts2.length cu2] 24) = Q:=⟨_,rfl⟩
 rw [hQ] at HM HMB
 have HNQ:=hid (HN3.out.later HMB.out HN3.out.lt)
 have HTO:=hid (gtold_any p code2 k1 av1 zs1.length cv1 au1 ts1.length cu1 k2 av2 zs2.length cv2 au2 ts2.length cu2 Q (HP3.out.later HMB.out HP3.out.lt))
 clear ov2 ou2 ht2 hp3 hg3 hcut2 H2 ka0 ka1 ka2
 have ka0 : Q.cell? ⟨w2.heap.size,0,none⟩ = some (.bool k1):=HNQ.out.cell 0
 have ka1 : Q.cell? ⟨w2.heap.size,1,none⟩ = some (.slice av1 zs1.length cv1):=HNQ.out.cell 1
 have ka2 : Q.cell? ⟨w2.heap.size,2,none⟩ = some (.slice au1 ts1.length cu1):=HNQ.out.cell 2
 have kb0 : Q.cell? ⟨w3.heap.size,0,none⟩ = some (.bool k2):=HM.out.cell 0
 have kb1 : Q.cell? ⟨w3.heap.size,1,none⟩ = some (.slice av2 zs2.length cv2):=HM.out.cell 1
 have kb2 : Q.cell? ⟨w3.heap.size,2,none⟩ = some (.slice au2 ts2.length cu2):=HM.out.cell 2
 go_wp2_with fail
 refine Calls.mono HTO.out ?_
 rintro x w4 ⟨rfl,hb4⟩
 have HW4x:=hid hb4
 have HR4:=hid (HR3.out.later (bt HMB.out hb4) HR3.out.lt)
 have HW4:=hid (bt HW3.out (bt HMB.out hb4))
 have HOO:=hid (And.intro (owns_later HV3.out (bt HMB.out hb4)) (And.intro (owns_later HU3.out (bt HMB.out hb4)) (And.intro (owns_later HV4.out (bt HMB.out hb4)) (owns_later HU4.out (bt HMB.out hb4)))))
 have hlo : w.heap.size <= w1.heap.size:=by omega
 have hlZ : w.heap.size <= Z.heap.size:=by omega
 clear hb4 ka0 ka1 ka2 kb0 kb1 kb2
 have m0 : w4.cell? ⟨w.heap.size + 1,0,none⟩ = some (.bool false):=HR4.out.cell 0
 have m1 : w4.cell? ⟨w.heap.size + 1,1,none⟩ = some (.slice none 0 0):=HR4.out.cell 1
 have m2' : w4.cell? ⟨w.heap.size + 1,2,none⟩ = some (.slice none 0 0):=HR4.out.cell 2
 have m3 : w4.cell? ⟨w.heap.size + 1,3,none⟩ = some (.bool false):=HR4.out.cell 3
 have m4 : w4.cell? ⟨w.heap.size + 1,4,none⟩ = some (.slice none 0 0):=HR4.out.cell 4
 have m5 : w4.cell? ⟨w.heap.size + 1,5,none⟩ = some (.slice none 0 0):=HR4.out.cell 5
 have f0:=HR4.out.free 0
 have f1:=HR4.out.free 1
 have f2:=HR4.out.free 2
 have f3:=HR4.out.free 3
 have f4:=HR4.out.free 4
 have f5:=HR4.out.free 5
 have hf0 : fstE E0 0 = E0:=by unfold fstE; by_cases h : E0 = 0 <;> simp [h]
 have HTW:=hid (gtwo (e1:=0) (by rw [hf0]; exact HT1.out) HT2.out (fun _ => rfl) (fun h => (HZ1.out h).2))
 have hsQ:=(bt HMB.out HW4x.out).size
 clear hf0
 by_cases hc2 : code2 = 0
 · rw [if_pos hc2]
   have HFIN:=hid (HTW.out.1 hc2)
   clear HTW hc2
   go_wp2_with fail
   have B1:=box_put6 HR4.out (.bool k1) (.slice av1 zs1.length cv1) (.slice au1 ts1.length cu1) (.bool k2) (.slice av2 zs2.length cv2) (.slice au2 ts2.length cu2)
   have G1:=below_put6 HW4.out (w.heap.size + 1) (by omega) (.bool k1) (.slice av1 zs1.length cv1) (.slice au1 ts1.length cu1) (.bool k2) (.slice av2 zs2.length cv2) (.slice au2 ts2.length cu2)
   have hXX:=HX.out.2.2.size
   have hput : ∀ {base k : Nat} {v : Value} {l : List Value},w4.ownsRow base 69 1 v k l -> (∀ g,v.ownBlock = some g -> X.heap.size <= g) -> ((((((w4.setCell ⟨w.heap.size + 1,0,none⟩ (.bool k1)).setCell ⟨w.heap.size + 1,1,none⟩ (.slice av1 zs1.length cv1)).setCell ⟨w.heap.size + 1,2,none⟩ (.slice au1 ts1.length cu1)).setCell ⟨w.heap.size + 1,3,none⟩ (.bool k2)).setCell ⟨w.heap.size + 1,4,none⟩ (.slice av2 zs2.length cv2)).setCell ⟨w.heap.size + 1,5,none⟩ (.slice au2 ts2.length cu2)).ownsRow base 69 1 v k l:=fun h hb => own_put6 h _ (fun g hg => by have:=hb g hg; omega) _ _ _ _ _ _
   clear m0 m1 m2' m3 m4 m5 f0 f1 f2 f3 f4 f5
   refine bodyPost_ret (gres_run (by rfl) B1 _ rfl) rfl ?_
   exact ⟨k1,av1,cv1,zs1,au1,cu1,ts1,k2,av2,cv2,zs2,au2,cu2,ts2,code2,rfl,⟨owns_base (hput HOO.out.1 (fun g hg => by have:=(HOO.out.1.lt g hg).1; omega)) hlo,owns_base (hput HOO.out.2.1 (fun g hg => by have:=(HOO.out.2.1.lt g hg).1; omega)) hlo,owns_base (hput HOO.out.2.2.1 (fun g hg => by have:=(HOO.out.2.2.1.lt g hg).1; omega)) hlZ,owns_base (hput HOO.out.2.2.2 (fun g hg => by have:=(HOO.out.2.2.2.lt g hg).1; omega)) hlZ⟩,HFIN.out,G1,w2,HC1.out.up hlo (Nat.le_refl _),HC2.out.up HNB.out.size (by simp [World.setCell]; omega)⟩
 · rw [if_neg hc2]
   have HFIN:=hid (HTW.out.2 hc2)
   clear HTW hc2
   go_wp2_with fail
   have B1:=box_put6 HR4.out (.bool false) (.slice none 0 0) (.slice none 0 0) (.bool false) (.slice none 0 0) (.slice none 0 0)
   have G1:=below_put6 HW4.out (w.heap.size + 1) (by omega) (.bool false) (.slice none 0 0) (.slice none 0 0) (.bool false) (.slice none 0 0) (.slice none 0 0)
   clear m0 m1 m2' m3 m4 m5 f0 f1 f2 f3 f4 f5
   refine bodyPost_ret (gres_run (by rfl) B1 _ rfl) rfl ?_
   exact ⟨false,none,0,[],none,0,[],false,none,0,[],none,0,[],code2,rfl,⟨World.ownsRow_nil _ _ _ _,World.ownsRow_nil _ _ _ _,World.ownsRow_nil _ _ _ _,World.ownsRow_nil _ _ _ _⟩,HFIN.out,G1,_,cut_nil _ _ G1.size,cut_nil _ _ (Nat.le_refl _)⟩
set_option linter.unusedSimpArgs false
set_option maxRecDepth 100000 in
theorem tConj_full (s : ByteArray) (f r : Int) (n : Bool) (a : Option Addr) (ca : Nat) (xs : List Int) (b : Option Addr) (cb : Nat) (ys : List Int) (m : Bool) (c : Option Addr) (cc : Nat) (us : List Int) (d : Option Addr) (cd : Nat) (vs : List Int) (w : World) (hz : s.size <= 9223372036854775807) (hr : in32 f r) (sx : Sl w (.slice a xs.length ca) xs) (sy : Sl w (.slice b ys.length cb) ys) (su : Sl w (.slice c us.length cc) us) (sv : Sl w (.slice d vs.length cd) vs) :
 Calls Tryz.prog 12 #[.agg #[.string s,.int .i32 f,.int .i32 r,.bool n,.slice a xs.length ca,.slice b ys.length cb,.bool m,.slice c us.length cc,.slice d vs.length cd]] w (TToldC w (tchk s.data.toList f r (gchk n xs ys m us vs)) (rlong (rq n xs ys) \/ rlong (-(rq m us vs))) s.data.toList f (-r) (rq n xs ys) (-(rq m us vs))):=by
 have HX:=hid (boxes2r w 37 #[.string s,.int .i32 f,.int .i32 r,.bool n,.slice a xs.length ca,.slice b ys.length cb,.bool m,.slice c us.length cc,.slice d vs.length cd] #[.string ⟨#[]⟩,.int .i32 0,.int .i32 0,.bool false,.slice none 0 0,.slice none 0 0,.bool false,.slice none 0 0,.slice none 0 0])
 obtain ⟨X,hX⟩ : ∃ X,(w.alloc (.cells #[.string s,.int .i32 f,.int .i32 r,.bool n,.slice a xs.length ca,.slice b ys.length cb,.bool m,.slice c us.length cc,.slice d vs.length cd] 37)).alloc (.cells #[.string ⟨#[]⟩,.int .i32 0,.int .i32 0,.bool false,.slice none 0 0,.slice none 0 0,.bool false,.slice none 0 0,.slice none 0 0] 37) = X:=⟨_,rfl⟩
 rw [hX] at HX
 have HC:=hid (tCheck_any s f r n a ca xs b cb ys m c cc us d cd vs X hz hr (sx.later HX.out.2.2) (sy.later HX.out.2.2) (su.later HX.out.2.2) (sv.later HX.out.2.2))
 have HRC : Hid (ochk f r = 0 -> ∀ V,Calls Tryz.prog 48 #[.agg #[.int .i32 f,.int .i32 r]] V fun e w' => e = .returned (.tuple #[.agg #[.int .i32 f,.int .i32 (-r)],.int .i64 0]) /\ Below V.heap.size V w'):=fun h V => by
  have hk:=rconj_any f r V hr
  have e : rConj f r = (f,-r,0):=by
   rcases ochk_or f r with g | g
   · exact if_pos g.2
   · rw [h] at g; exact absurd g.1 (by decide)
  rw [e] at hk
  exact hk
 have HGC : Hid (∀ V,Below w.heap.size w V -> Calls Tryz.prog 49 #[.agg #[.bool n,.slice a xs.length ca,.slice b ys.length cb,.bool m,.slice c us.length cc,.slice d vs.length cd]] V (GToldC V (gchk n xs ys m us vs) (rlong (rq n xs ys) \/ rlong (-(rq m us vs))) (rq n xs ys) (-(rq m us vs)))):=fun V hv => gConj_full n a ca xs b cb ys m c cc us d cd vs V (sx.later hv) (sy.later hv) (su.later hv) (sv.later hv)
 have HTK : Hid (tchk s.data.toList f r (gchk n xs ys m us vs) = 0 -> ochk f r = 0 /\ gchk n xs ys m us vs = 0):=fun h => (tchk_ok h).2
 generalize gchk n xs ys m us vs = GE at *
 generalize tchk s.data.toList f r GE = TE at *
 generalize (rlong (rq n xs ys) \/ rlong (-(rq m us vs))) = L at *
 generalize rq n xs ys = q1 at *
 generalize -(rq m us vs) = q2 at *
 clear sx sy su sv hr
 have hwX : w.heap.size + 1 < X.heap.size:=HX.out.2.1.lt
 have k0 : X.cell? ⟨w.heap.size,0,none⟩ = some (.string s):=HX.out.1.cell 0
 have k1 : X.cell? ⟨w.heap.size,1,none⟩ = some (.int .i32 f):=HX.out.1.cell 1
 have k2 : X.cell? ⟨w.heap.size,2,none⟩ = some (.int .i32 r):=HX.out.1.cell 2
 have k3 : X.cell? ⟨w.heap.size,3,none⟩ = some (.bool n):=HX.out.1.cell 3
 have k4 : X.cell? ⟨w.heap.size,4,none⟩ = some (.slice a xs.length ca):=HX.out.1.cell 4
 have k5 : X.cell? ⟨w.heap.size,5,none⟩ = some (.slice b ys.length cb):=HX.out.1.cell 5
 have k6 : X.cell? ⟨w.heap.size,6,none⟩ = some (.bool m):=HX.out.1.cell 6
 have k7 : X.cell? ⟨w.heap.size,7,none⟩ = some (.slice c us.length cc):=HX.out.1.cell 7
 have k8 : X.cell? ⟨w.heap.size,8,none⟩ = some (.slice d vs.length cd):=HX.out.1.cell 8
 go_enter Tryz.func12,Tryz.ntmps12
 go_wp2_with fail
 refine Calls.mono HC.out ?_
 rintro x w1 ⟨rfl,hb1⟩
 have HW1:=hid (bt HX.out.2.2 hb1)
 have HA1:=hid (HX.out.1.later hb1 HX.out.1.lt)
 have HR1:=hid (HX.out.2.1.later hb1 HX.out.2.1.lt)
 have hs1 : X.heap.size <= w1.heap.size:=hb1.size
 clear hb1 HC k0 k1 k2 k3 k4 k5 k6 k7 k8
 by_cases hTE : TE = 0
 · obtain ⟨hO,hG⟩:=HTK.out hTE
   subst hTE
   subst hG
   have HRC':=hid (HRC.out hO)
   clear HTK HRC hO
   have k1 : w1.cell? ⟨w.heap.size,1,none⟩ = some (.int .i32 f):=HA1.out.cell 1
   have k2 : w1.cell? ⟨w.heap.size,2,none⟩ = some (.int .i32 r):=HA1.out.cell 2
   go_wp2_with fail
   refine Calls.mono (HRC'.out _) ?_
   rintro x w2 ⟨rfl,hb2⟩
   have HN:=hid (Box.made w2 33 #[.int .i32 f,.int .i32 (-r)])
   have HNB:=hid (alloc_later w2 (.cells #[.int .i32 f,.int .i32 (-r)] 33))
   obtain ⟨Y,hY⟩ : ∃ Y,w2.alloc (.cells #[.int .i32 f,.int .i32 (-r)] 33) = Y:=⟨_,rfl⟩
   rw [hY] at HN HNB
   have HWY:=hid (bt HW1.out (bt hb2 HNB.out))
   have HAY:=hid (HA1.out.later (bt hb2 HNB.out) HA1.out.lt)
   have HRY:=hid (HR1.out.later (bt hb2 HNB.out) HR1.out.lt)
   have hs2 : w1.heap.size <= Y.heap.size:=(bt hb2 HNB.out).size
   clear hb2 HRC' k1 k2
   have k3 : Y.cell? ⟨w.heap.size,3,none⟩ = some (.bool n):=HAY.out.cell 3
   have k4 : Y.cell? ⟨w.heap.size,4,none⟩ = some (.slice a xs.length ca):=HAY.out.cell 4
   have k5 : Y.cell? ⟨w.heap.size,5,none⟩ = some (.slice b ys.length cb):=HAY.out.cell 5
   have k6 : Y.cell? ⟨w.heap.size,6,none⟩ = some (.bool m):=HAY.out.cell 6
   have k7 : Y.cell? ⟨w.heap.size,7,none⟩ = some (.slice c us.length cc):=HAY.out.cell 7
   have k8 : Y.cell? ⟨w.heap.size,8,none⟩ = some (.slice d vs.length cd):=HAY.out.cell 8
   go_wp2_with fail
   refine Calls.mono (HGC.out _ HWY.out) ?_
   rintro x w3 ⟨k1,a1,ca1,xs1,b1,cb1,ys1,m1,c1,cc1,us1,d1,cd1,vs1,code,rfl,hoo,ht,hb3,W1,hc1,hc2⟩
   have HM:=hid (Box.made w3 35 #[.bool k1,.slice a1 xs1.length ca1,.slice b1 ys1.length cb1,.bool m1,.slice c1 us1.length cc1,.slice d1 vs1.length cd1])
   have HMB:=hid (alloc_later w3 (.cells #[.bool k1,.slice a1 xs1.length ca1,.slice b1 ys1.length cb1,.bool m1,.slice c1 us1.length cc1,.slice d1 vs1.length cd1] 35))
   obtain ⟨Q,hQ⟩ : ∃ Q,w3.alloc (.cells #[.bool k1,.slice a1 xs1.length ca1,.slice b1 ys1.length cb1,.bool m1,.slice c1 us1.length cc1,.slice d1 vs1.length cd1] 35) = Q:=⟨_,rfl⟩
   rw [hQ] at HM HMB
   have HYQ:=hid (bt hb3 HMB.out)
   have HWQ:=hid (bt HWY.out HYQ.out)
   have HAQ:=hid (HAY.out.later HYQ.out HAY.out.lt)
   have HRQ:=hid (HRY.out.later HYQ.out HRY.out.lt)
   have HNQ:=hid (HN.out.later HYQ.out HN.out.lt)
   have HOQ:=hid (And.intro (owns_later hoo.1 HMB.out) (And.intro (owns_later hoo.2.1 HMB.out) (And.intro (owns_later hoo.2.2.1 HMB.out) (owns_later hoo.2.2.2 HMB.out))))
   have HCQ : Hid (∃ W1,Cut Y (.slice a1 xs1.length ca1) (.slice b1 ys1.length cb1) W1 /\ Cut W1 (.slice c1 us1.length cc1) (.slice d1 vs1.length cd1) Q):=⟨W1,hc1,hc2.up (Nat.le_refl _) HMB.out.size⟩
   have hbs : w.heap.size + 1 < Y.heap.size:=by omega
   have HTT:=hid ht
   clear hoo ht hb3 hc1 hc2 HGC k3 k4 k5 k6 k7 k8
   have m0_ : Q.cell? ⟨w.heap.size + 1,0,none⟩ = some (.string ⟨#[]⟩):=HRQ.out.cell 0
   have m1_ : Q.cell? ⟨w.heap.size + 1,1,none⟩ = some (.int .i32 0):=HRQ.out.cell 1
   have m2_ : Q.cell? ⟨w.heap.size + 1,2,none⟩ = some (.int .i32 0):=HRQ.out.cell 2
   have m3_ : Q.cell? ⟨w.heap.size + 1,3,none⟩ = some (.bool false):=HRQ.out.cell 3
   have m4_ : Q.cell? ⟨w.heap.size + 1,4,none⟩ = some (.slice none 0 0):=HRQ.out.cell 4
   have m5_ : Q.cell? ⟨w.heap.size + 1,5,none⟩ = some (.slice none 0 0):=HRQ.out.cell 5
   have m6_ : Q.cell? ⟨w.heap.size + 1,6,none⟩ = some (.bool false):=HRQ.out.cell 6
   have m7_ : Q.cell? ⟨w.heap.size + 1,7,none⟩ = some (.slice none 0 0):=HRQ.out.cell 7
   have m8_ : Q.cell? ⟨w.heap.size + 1,8,none⟩ = some (.slice none 0 0):=HRQ.out.cell 8
   have f0_:=HRQ.out.free 0
   have f1_:=HRQ.out.free 1
   have f2_:=HRQ.out.free 2
   have f3_:=HRQ.out.free 3
   have f4_:=HRQ.out.free 4
   have f5_:=HRQ.out.free 5
   have f6_:=HRQ.out.free 6
   have f7_:=HRQ.out.free 7
   have f8_:=HRQ.out.free 8
   by_cases hL : L
   · have hcode:=(HTT.out.long rfl hL).2
     subst hcode
     have HL:=hid hL
     clear hL
     go_wp2_with fail
     have B1:=box_put9 HRQ.out (.string ⟨#[]⟩) (.int .i32 0) (.int .i32 0) (.bool false) (.slice none 0 0) (.slice none 0 0) (.bool false) (.slice none 0 0) (.slice none 0 0)
     have G1:=below_put9 HWQ.out (w.heap.size + 1) (by omega) (.string ⟨#[]⟩) (.int .i32 0) (.int .i32 0) (.bool false) (.slice none 0 0) (.slice none 0 0) (.bool false) (.slice none 0 0) (.slice none 0 0)
     clear m0_ f0_ m1_ f1_ m2_ f2_ m3_ f3_ m4_ f4_ m5_ f5_ m6_ f6_ m7_ f7_ m8_ f8_
     exact bodyPost_ret (tres_run (by rfl) B1 _ rfl) rfl (ttoldc_zero (.inr ⟨rfl,HL.out,rfl⟩) G1)
   · have hcode:=(HTT.out.good rfl hL).1
     subst hcode
     have HT:=hid HTT.out
     clear hL HTT
     have k0 : Q.cell? ⟨w.heap.size,0,none⟩ = some (.string s):=HAQ.out.cell 0
     have r0 : Q.cell? ⟨w2.heap.size,0,none⟩ = some (.int .i32 f):=HNQ.out.cell 0
     have r1 : Q.cell? ⟨w2.heap.size,1,none⟩ = some (.int .i32 (-r)):=HNQ.out.cell 1
     have g0 : Q.cell? ⟨w3.heap.size,0,none⟩ = some (.bool k1):=HM.out.cell 0
     have g1 : Q.cell? ⟨w3.heap.size,1,none⟩ = some (.slice a1 xs1.length ca1):=HM.out.cell 1
     have g2 : Q.cell? ⟨w3.heap.size,2,none⟩ = some (.slice b1 ys1.length cb1):=HM.out.cell 2
     have g3 : Q.cell? ⟨w3.heap.size,3,none⟩ = some (.bool m1):=HM.out.cell 3
     have g4 : Q.cell? ⟨w3.heap.size,4,none⟩ = some (.slice c1 us1.length cc1):=HM.out.cell 4
     have g5 : Q.cell? ⟨w3.heap.size,5,none⟩ = some (.slice d1 vs1.length cd1):=HM.out.cell 5
     go_wp2_with fail
     have B1:=box_put9 HRQ.out (.string s) (.int .i32 f) (.int .i32 (-r)) (.bool k1) (.slice a1 xs1.length ca1) (.slice b1 ys1.length cb1) (.bool m1) (.slice c1 us1.length cc1) (.slice d1 vs1.length cd1)
     have G1:=below_put9 HWQ.out (w.heap.size + 1) (by omega) (.string s) (.int .i32 f) (.int .i32 (-r)) (.bool k1) (.slice a1 xs1.length ca1) (.slice b1 ys1.length cb1) (.bool m1) (.slice c1 us1.length cc1) (.slice d1 vs1.length cd1)
     have hput : ∀ {base k : Nat} {v : Value} {l : List Value},Q.ownsRow base 69 1 v k l -> w.heap.size + 1 < base -> (((((((((Q.setCell ⟨w.heap.size + 1,0,none⟩ (.string s)).setCell ⟨w.heap.size + 1,1,none⟩ (.int .i32 f)).setCell ⟨w.heap.size + 1,2,none⟩ (.int .i32 (-r))).setCell ⟨w.heap.size + 1,3,none⟩ (.bool k1)).setCell ⟨w.heap.size + 1,4,none⟩ (.slice a1 xs1.length ca1)).setCell ⟨w.heap.size + 1,5,none⟩ (.slice b1 ys1.length cb1)).setCell ⟨w.heap.size + 1,6,none⟩ (.bool m1)).setCell ⟨w.heap.size + 1,7,none⟩ (.slice c1 us1.length cc1)).setCell ⟨w.heap.size + 1,8,none⟩ (.slice d1 vs1.length cd1)).ownsRow w.heap.size 69 1 v k l:=fun h hb => owns_base (own_put9 h _ (fun g hg => by have:=(h.lt g hg).1; omega) _ _ _ _ _ _ _ _ _) (by omega)
     clear m0_ f0_ m1_ f1_ m2_ f2_ m3_ f3_ m4_ f4_ m5_ f5_ m6_ f6_ m7_ f7_ m8_ f8_
     refine bodyPost_ret (tres_run (by rfl) B1 _ rfl) rfl ?_
     obtain ⟨W1,hc1,hc2⟩:=HCQ.out
     refine ⟨s,f,(-r),k1,a1,ca1,xs1,b1,cb1,ys1,m1,c1,cc1,us1,d1,cd1,vs1,0,rfl,⟨hput HOQ.out.1 hbs,hput HOQ.out.2.1 hbs,hput HOQ.out.2.2.1 hbs,hput HOQ.out.2.2.2 hbs⟩,⟨HT.out,fun h => absurd rfl h,fun _ => ⟨rfl,rfl,rfl⟩⟩,G1,W1,hc1.up (by omega) (Nat.le_refl _),hc2.up (Nat.le_refl _) (by simp [World.setCell])⟩
 · have hE' : (TE == 0) = false:=by simp [hTE]
   have hE2 : (TE != 0) = true:=by simp [hTE]
   have m0_ : w1.cell? ⟨w.heap.size + 1,0,none⟩ = some (.string ⟨#[]⟩):=HR1.out.cell 0
   have m1_ : w1.cell? ⟨w.heap.size + 1,1,none⟩ = some (.int .i32 0):=HR1.out.cell 1
   have m2_ : w1.cell? ⟨w.heap.size + 1,2,none⟩ = some (.int .i32 0):=HR1.out.cell 2
   have m3_ : w1.cell? ⟨w.heap.size + 1,3,none⟩ = some (.bool false):=HR1.out.cell 3
   have m4_ : w1.cell? ⟨w.heap.size + 1,4,none⟩ = some (.slice none 0 0):=HR1.out.cell 4
   have m5_ : w1.cell? ⟨w.heap.size + 1,5,none⟩ = some (.slice none 0 0):=HR1.out.cell 5
   have m6_ : w1.cell? ⟨w.heap.size + 1,6,none⟩ = some (.bool false):=HR1.out.cell 6
   have m7_ : w1.cell? ⟨w.heap.size + 1,7,none⟩ = some (.slice none 0 0):=HR1.out.cell 7
   have m8_ : w1.cell? ⟨w.heap.size + 1,8,none⟩ = some (.slice none 0 0):=HR1.out.cell 8
   have f0_:=HR1.out.free 0
   have f1_:=HR1.out.free 1
   have f2_:=HR1.out.free 2
   have f3_:=HR1.out.free 3
   have f4_:=HR1.out.free 4
   have f5_:=HR1.out.free 5
   have f6_:=HR1.out.free 6
   have f7_:=HR1.out.free 7
   have f8_:=HR1.out.free 8
   go_wp2_with fail
   have B1:=box_put9 HR1.out (.string ⟨#[]⟩) (.int .i32 0) (.int .i32 0) (.bool false) (.slice none 0 0) (.slice none 0 0) (.bool false) (.slice none 0 0) (.slice none 0 0)
   have G1:=below_put9 HW1.out (w.heap.size + 1) (by omega) (.string ⟨#[]⟩) (.int .i32 0) (.int .i32 0) (.bool false) (.slice none 0 0) (.slice none 0 0) (.bool false) (.slice none 0 0) (.slice none 0 0)
   clear m0_ f0_ m1_ f1_ m2_ f2_ m3_ f3_ m4_ f4_ m5_ f5_ m6_ f6_ m7_ f7_ m8_ f8_
   exact bodyPost_ret (tres_run (by rfl) B1 _ rfl) rfl (ttoldc_zero (.inl ⟨hTE,rfl⟩) G1)
end Go.Proofs.YtnhmaijmmkplkaaGreatDoor
namespace Go.Proofs.YtnhmaijmmkplkaaGreatDoor
set_option maxHeartbeats 6400000
open Go.RowKit Go.Lib
set_option linter.unusedVariables false
set_option linter.unusedSimpArgs false
theorem zmag (n : Nat) (hn : n < 9223372036854775808) : parseMag (decDigits n) = .ok n:=by
 obtain ⟨ha,hne⟩:=zdec_all n
 have hp:=zpum n [] (by omega)
 rw [List.append_nil] at hp
 have hp' : parseUint10 0 (decDigits n) = .ok n:=hp
 unfold parseMag
 rw [if_neg (by simpa using hne)]
 exact hp'
theorem zatoi_itoa (v : Int) (h0 : -1000 <= v) (h1 : v <= 1000) : atoiAll (itoa v) = .ok v:=by
 by_cases hv : v < 0
 · have e : itoa v = 45 :: decDigits v.natAbs:=by unfold itoa; rw [if_pos hv]
   rw [e,atoiAll_minus,zmag _ (by omega)]
   show (if 9223372036854775808 < v.natAbs then NumEnd.range else .ok (-(v.natAbs : Int))) = .ok v
   rw [if_neg (by omega)]
   congr 1; omega
 · have e : itoa v = decDigits v.toNat:=by unfold itoa; rw [if_neg hv]
   obtain ⟨ha,hne⟩:=zdec_all v.toNat
   rw [e]
   cases hl : decDigits v.toNat with
   | nil => exact absurd hl hne
   | cons c r =>
    have hc:=ha c (by rw [hl]; simp)
    rw [atoiAll_plain c r (by omega) (by omega),<- hl,zmag _ (by omega)]
    show (if 9223372036854775808 <= v.toNat then NumEnd.range else .ok ((v.toNat : Nat) : Int)) = .ok v
    rw [if_neg (by omega)]
    congr 1; omega
theorem zitoa_short (v : Int) (h0 : -1000 <= v) (h1 : v <= 1000) : (itoa v).length <= 5:=by
 unfold itoa
 split
 · rw [List.length_cons,decDigits_length]
   have:=zdig_short (n:=v.natAbs) (k:=3) (by omega)
   omega
 · rw [decDigits_length]
   have:=zdig_short (n:=v.toNat) (k:=3) (by omega)
   omega
theorem tnum_of (v : Int) (h0 : -1000 <= v) (h1 : v <= 1000) : tnumOk (itoa v) = true /\ tnumV (itoa v) = v:=by
 have e1 : tnumOk (itoa v) = true:=by
  unfold tnumOk
  rw [decide_eq_true (zitoa_short v h0 h1),zatoi_itoa v h0 h1]
  simp
 refine ⟨e1,?_⟩
 unfold tnumV
 rw [if_pos e1,zatoi_itoa v h0 h1]
theorem tnum_text {l : List UInt8} (h : tnumOk l = true) : itoa (tnumV l) = l:=by
 have h':=h
 unfold tnumOk at h
 unfold tnumV
 rw [if_pos h']
 cases hp : atoiAll l with
 | ok v => rw [hp] at h; simp at h; exact h.2
 | «syntax» => rw [hp] at h; simp at h
 | range => rw [hp] at h; simp at h
theorem trest_parts (l : List UInt8) : l = tword l ++ 32 :: trest l \/ trest l = []:=by
 rcases tcut_parts l with ⟨_,h⟩ | h
 · exact .inl h
 · exact .inr h
theorem tword_nil : tword [] = []:=by decide
theorem tnum_nil : tnumOk [] = false:=by decide
theorem tgood_text {l : List UInt8} (h : tgood l) : l = tword l ++ 32 :: (tword (trest l) ++ 32 :: (tword (trest (trest l)) ++ 32 :: (gp1 (trest (trest (trest l))) ++ 32 :: gp2 (trest (trest (trest l)))))):=by
 obtain ⟨h1,h2,h3,h4,h5⟩:=h
 rcases trest_parts l with e1 | e1
 · rcases trest_parts (trest l) with e2 | e2
   · rcases trest_parts (trest (trest l)) with e3 | e3
     · rcases trest_parts (trest (trest (trest l))) with e4 | e4
       · have e4' : trest (trest (trest l)) = gp1 (trest (trest (trest l))) ++ 32 :: gp2 (trest (trest (trest l))):=e4
         rw [<- e4',<- e3,<- e2,<- e1]
       · have : gp2 (trest (trest (trest l))) = []:=e4
         rw [this] at h5
         exact absurd h5 rgood_nil
     · rw [e3] at h4
       have : gp1 [] = []:=tword_nil
       rw [this] at h4
       exact absurd h4 rgood_nil
   · rw [e2,tword_nil,tnum_nil] at h3
     cases h3
 · rw [e1,tword_nil,tnum_nil] at h2
   cases h2
theorem tread_text {l : List UInt8} (h : tgood l) {n m : Bool} {xs ys us vs : List Int} (wx : Wd xs) (wy : Wd ys) (wu : Wd us) (wv : Wd vs) (k1 : rchk n xs ys = 0) (g1 : rq n xs ys = rpq (gp1 (trest (trest (trest l))))) (k2 : rchk m us vs = 0) (g2 : rq m us vs = rpq (gp2 (trest (trest (trest l))))) :
 ttext (tword l) (tnumV (tword (trest l))) (tnumV (tword (trest (trest l)))) (gtext n xs ys m us vs) = l:=by
 unfold ttext gtext
 rw [zread_text h.2.2.2.1 wx wy k1 g1,zread_text h.2.2.2.2 wu wv k2 g2,tnum_text h.2.1,tnum_text h.2.2.1]
 exact (tgood_text h).symm
theorem tname_bytes {l : List UInt8} (h : tname l = true) : ∀ x ∈ l,x ≠ 32:=by
 unfold tname at h
 rw [Bool.and_eq_true,List.all_eq_true] at h
 intro x hx e
 have:=h.2 x hx
 rw [e] at this
 exact absurd this (by decide)
theorem itoa_bytes (v : Int) : ∀ x ∈ itoa v,x ≠ 32:=by
 intro x hx e
 unfold itoa at hx
 split at hx
 · rcases List.mem_cons.1 hx with hx | hx
   · rw [e] at hx; exact absurd hx (by decide)
   · have:=(zdec_all v.natAbs).1 x hx
     rw [e] at this; exact absurd this (by decide)
 · have:=(zdec_all v.toNat).1 x hx
   rw [e] at this; exact absurd this (by decide)
theorem tprint_read {nm : List UInt8} {f r : Int} {n m : Bool} {xs ys us vs : List Int} (hn : tname nm = true) (hf : -1000 <= f /\ f <= 1000) (hr : -1000 <= r /\ r <= 1000) (wx : Wd xs) (wy : Wd ys) (wu : Wd us) (wv : Wd vs) (k1 : rchk n xs ys = 0) (k2 : rchk m us vs = 0) :
 tword (ttext nm f r (gtext n xs ys m us vs)) = nm /\ tnumV (tword (trest (ttext nm f r (gtext n xs ys m us vs)))) = f /\ tnumV (tword (trest (trest (ttext nm f r (gtext n xs ys m us vs))))) = r /\ trest (trest (trest (ttext nm f r (gtext n xs ys m us vs)))) = gtext n xs ys m us vs /\ gp1 (gtext n xs ys m us vs) = rtext n xs ys /\ gp2 (gtext n xs ys m us vs) = rtext m us vs /\ tgood (ttext nm f r (gtext n xs ys m us vs)):=by
 have c1 : cut (ttext nm f r (gtext n xs ys m us vs)) [32] = (nm,itoa f ++ 32 :: (itoa r ++ 32 :: gtext n xs ys m us vs),true):=tcut_split _ _ (tname_bytes hn)
 have c2 : cut (itoa f ++ 32 :: (itoa r ++ 32 :: gtext n xs ys m us vs)) [32] = (itoa f,itoa r ++ 32 :: gtext n xs ys m us vs,true):=tcut_split _ _ (itoa_bytes f)
 have c3 : cut (itoa r ++ 32 :: gtext n xs ys m us vs) [32] = (itoa r,gtext n xs ys m us vs,true):=tcut_split _ _ (itoa_bytes r)
 have c4 : cut (gtext n xs ys m us vs) [32] = (rtext n xs ys,rtext m us vs,true):=tcut_split _ _ (rtext_bytes n xs ys)
 have e1 : tword (ttext nm f r (gtext n xs ys m us vs)) = nm:=by unfold tword; rw [c1]
 have e2 : trest (ttext nm f r (gtext n xs ys m us vs)) = itoa f ++ 32 :: (itoa r ++ 32 :: gtext n xs ys m us vs):=by unfold trest; rw [c1]
 have e3 : tword (itoa f ++ 32 :: (itoa r ++ 32 :: gtext n xs ys m us vs)) = itoa f:=by unfold tword; rw [c2]
 have e4 : trest (itoa f ++ 32 :: (itoa r ++ 32 :: gtext n xs ys m us vs)) = itoa r ++ 32 :: gtext n xs ys m us vs:=by unfold trest; rw [c2]
 have e5 : tword (itoa r ++ 32 :: gtext n xs ys m us vs) = itoa r:=by unfold tword; rw [c3]
 have e6 : trest (itoa r ++ 32 :: gtext n xs ys m us vs) = gtext n xs ys m us vs:=by unfold trest; rw [c3]
 have e7 : gp1 (gtext n xs ys m us vs) = rtext n xs ys:=by unfold gp1; rw [c4]
 have e8 : gp2 (gtext n xs ys m us vs) = rtext m us vs:=by unfold gp2; rw [c4]
 have f1:=tnum_of f hf.1 hf.2
 have f2:=tnum_of r hr.1 hr.2
 refine ⟨e1,by rw [e2,e3]; exact f1.2,by rw [e2,e4,e5]; exact f2.2,by rw [e2,e4,e6],e7,e8,?_⟩
 unfold tgood ggood
 rw [e1,e2,e3,e4,e5,e6,e7,e8]
 exact ⟨hn,f1.1,f2.1,rgood_text wx wy (zform2 k1),rgood_text wu wv (zform2 k2)⟩
end Go.Proofs.YtnhmaijmmkplkaaGreatDoor
namespace Go.Proofs.YtnhmaijmmkplkaaGreatDoor
set_option maxHeartbeats 6400000
open Go.RowKit
set_option linter.unusedVariables false
set_option linter.unusedSimpArgs false
theorem rlong_neg {q : Rat} : rlong (-q) ↔ rlong q:=by
 unfold rlong
 rw [Rat.neg_num,Int.natAbs_neg,Rat.neg_den]
theorem trok {f r : Int} (h : ochk f r = 0) : rOK f r:=by
 rcases ochk_or f r with g | g
 · exact g.2
 · rw [h] at g; exact absurd g.1 (by decide)
theorem trok_in {f r : Int} (h : rOK f r) : (-1000 <= f /\ f <= 1000) /\ (-1000 <= r /\ r <= 1000):=by
 obtain ⟨h1,h2,h3,h4,_⟩:=h
 omega
end Go.Proofs.YtnhmaijmmkplkaaGreatDoor
