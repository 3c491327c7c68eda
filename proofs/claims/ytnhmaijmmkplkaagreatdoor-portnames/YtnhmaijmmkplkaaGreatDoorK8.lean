/- My texts on the way to PortNames, one behind the other: contracts of the program and of the document's answers. -/
import Derived.Test.YtnhmaijmmkplkaaGreatDoorK7
namespace Go.Proofs.YtnhmaijmmkplkaaGreatDoor
set_option maxHeartbeats 25600000
open Go.RowKit
set_option linter.unusedVariables false
set_option linter.unusedSimpArgs false
theorem more_good {v : PV} {t : TV} (hg : v.Good) (h0 : t.chk = 0) (h24 : v.ts.length ≠ 24) (hno : ∀ j,j < v.ts.length -> ¬ ((vT v.ts j).s = t.s \/ ((vT v.ts j).f = t.f /\ (vT v.ts j).r = t.r))) : (v.more t).Good:=by
 have hl2 : (v.ts ++ [t]).length = v.ts.length + 1:=by simp
 have h24':=hg.len
 refine ⟨hg.nm,hg.mean,by show (v.ts ++ [t]).length <= 24; omega,fun j hj => ?_,fun k j hk hj => ?_,fun k j hk hj => ?_⟩
 · show (vT (v.ts ++ [t]) j).chk = 0
   have hj' : j < (v.ts ++ [t]).length:=hj
   rcases Nat.lt_or_ge j v.ts.length with g | g
   · rw [vT_snoc_lt g]; exact hg.chk j g
   · obtain rfl : j = v.ts.length:=by omega
     rw [vT_snoc_eq]; exact h0
 · show (vT (v.ts ++ [t]) k).s ≠ (vT (v.ts ++ [t]) j).s
   have hj' : j < (v.ts ++ [t]).length:=hj
   rcases Nat.lt_or_ge j v.ts.length with g | g
   · rw [vT_snoc_lt g,vT_snoc_lt (by omega)]; exact hg.nms k j hk g
   · obtain rfl : j = v.ts.length:=by omega
     rw [vT_snoc_eq,vT_snoc_lt hk]
     exact fun e => hno k hk (.inl e)
 · show ¬ ((vT (v.ts ++ [t]) k).f = (vT (v.ts ++ [t]) j).f /\ (vT (v.ts ++ [t]) k).r = (vT (v.ts ++ [t]) j).r)
   have hj' : j < (v.ts ++ [t]).length:=hj
   rcases Nat.lt_or_ge j v.ts.length with g | g
   · rw [vT_snoc_lt g,vT_snoc_lt (by omega)]; exact hg.rot k j hk g
   · obtain rfl : j = v.ts.length:=by omega
     rw [vT_snoc_eq,vT_snoc_lt hk]
     exact fun e => hno k hk (.inr e)
theorem pWith_in (p : PL) (t : TL) (w : World) (hp : p.ok w) (ht : t.ok w) (hg : p.v.Good) (ht0 : t.v.chk = 0) (hp24 : p.v.ts.length < 24) :
 Calls Tryz.prog 7 #[.agg p.cells,.agg t.cells] w fun e w' => ∃ (q : PL) (c : Int),e = .returned (.tuple #[.agg #[.string q.s,.bool q.n,.slice q.a q.xs.length q.ca,.slice q.b q.ys.length q.cb,.slice q.t q.ts.length q.ct],.int .i64 c]) /\ ((c = 5 /\ Made q PV.zero w w') \/ (c = 0 /\ (p.v.more t.v).Good /\ Made q (p.v.more t.v) w w')):=by
 have hl : p.v.ts.length = p.ts.length:=List.length_map ..
 have hT : ∀ j,vT p.v.ts j = (tT p.ts j).v:=fun j => (tT_v p.ts j).symm
 have hcl : ∀ j,clB (tT p.ts j) t = true ↔ ((vT p.v.ts j).s = t.s \/ ((vT p.v.ts j).f = t.f /\ (vT p.v.ts j).r = t.r)):=fun j => by
  unfold clB
  rw [hT,Bool.or_eq_true,nmEq,Bool.and_eq_true,beq_iff_eq,beq_iff_eq]
  exact Iff.rfl
 refine Calls.mono (pWith_any p t w hp ht) ?_
 rintro e w' ⟨q,c,rfl,h,hm⟩
 refine ⟨q,c,rfl,?_⟩
 rcases h with ⟨z,hz,hc⟩ | ⟨_,⟨h0,rfl⟩ | ⟨h0,⟨⟨j,hj,hh⟩,rfl⟩ | ⟨hh,⟨h24,rfl⟩ | ⟨h24,rfl⟩⟩⟩⟩
 · exact absurd (PCk.one0 hz hg) hc
 · exact absurd ht0 h0
 · exact .inl ⟨rfl,hm⟩
 · omega
 · exact .inr ⟨rfl,more_good hg ht0 (by omega) (fun j hj hq => hh ⟨j,by omega,(hcl j).2 hq⟩),hm⟩
theorem h1f2 : rchk false [1] [2] = 0:=rchk_good (by simp) (by simp) rfl rfl (by simp) (.inl rfl) (by decide)
theorem h0f1 : rchk false [] [1] = 0:=rchk_good (by simp) (by simp) rfl rfl (by simp) (.inl rfl) (by decide)
theorem h1f1 : rchk false [1] [1] = 0:=rchk_good (by simp) (by simp) rfl rfl (by simp) (.inl rfl) (by decide)
def exC : TV:=⟨⟨#[77,50,99]⟩,2,-1,false,[1],[2],false,[],[1]⟩
theorem ochk_kn {f r : Int} (h : rOK f r) : ochk f r = 0:=by
 rcases ochk_or f r with g | g
 · exact g.1
 · exact absurd h g.2
theorem tchk_kn {t : TV} (h : tname t.s.data.toList = true) (ho : rOK t.f t.r) (h1 : rchk t.n t.xs t.ys = 0) (h2 : rchk t.m t.us t.vs = 0) : t.chk = 0:=by
 unfold TV.chk
 rw [tchk_rest _ _ _ h,ochk_kn ho,fstE_zero]
 unfold gchk
 rw [h1,fstE_zero,h2]
theorem exC_chk : exC.chk = 0:=tchk_kn (by decide +kernel) (by unfold rOK; decide) h1f2 h0f1
theorem exC_ok : exC.ok:=⟨by show (3 : Nat) <= maxLen; unfold maxLen; decide,by unfold in32 exC; decide,zw 1 (by decide) (by decide),zw 2 (by decide) (by decide),Wd.nil,zw 1 (by decide) (by decide)⟩
def hxV : PV:=hullV.more exV
def hcV : PV:=hxV.more exC
theorem hull_ok : hullV.ok:=⟨by show (4 : Nat) <= maxLen; unfold maxLen; decide,zw 3 (by decide) (by decide),zw 2 (by decide) (by decide),fun t ht => absurd ht (by simp [hullV])⟩
theorem hx_ok : hxV.ok:=⟨hull_ok.1,hull_ok.2.1,hull_ok.2.2.1,fun t ht => by
 have h : t ∈ [exV]:=ht
 rw [List.mem_singleton.1 h]
 exact exV_ok⟩
theorem hc_ok : hcV.ok:=⟨hull_ok.1,hull_ok.2.1,hull_ok.2.2.1,fun t ht => by
 have h : t ∈ [exV,exC]:=ht
 rcases List.mem_cons.1 h with rfl | h
 · exact exV_ok
 · rw [List.mem_singleton.1 h]; exact exC_ok⟩
theorem hx_good : hxV.Good:=by
 refine ⟨hullV_good.nm,hullV_good.mean,by decide,fun j hj => ?_,fun k j hk hj => ?_,fun k j hk hj => ?_⟩
 · have hj' : j < 1:=hj
   obtain rfl : j = 0:=by omega
   exact exV_chk
 · have hj' : j < 1:=hj
   omega
 · have hj' : j < 1:=hj
   omega
theorem hc_good : hcV.Good:=by
 refine ⟨hullV_good.nm,hullV_good.mean,by decide,fun j hj => ?_,fun k j hk hj => ?_,fun k j hk hj => ?_⟩
 · have hj' : j < 2:=hj
   rcases (show j = 0 \/ j = 1 by omega) with rfl | rfl
   · exact exV_chk
   · exact exC_chk
 · have hj' : j < 2:=hj
   obtain rfl : k = 0:=by omega
   obtain rfl : j = 1:=by omega
   show exV.s ≠ exC.s
   intro e
   exact absurd (congrArg ByteArray.size e) (by decide)
 · have hj' : j < 2:=hj
   obtain rfl : k = 0:=by omega
   obtain rfl : j = 1:=by omega
   show ¬ (exV.f = exC.f /\ exV.r = exC.r)
   decide
theorem hxx_bad : ¬ (hxV.more exV).Good:=fun h => h.nms 0 1 (by decide) (by decide) rfl
theorem kWith_good {p : PL} {t : TL} {w : World} {v : PV} {u : TV} (hp : p.v = v) (ht : t.v = u) (op : p.ok w) (ot : t.ok w) (hg : v.Good) (hu : u.chk = 0) (h24 : v.ts.length < 24) (hgd : (v.more u).Good) (hok : (v.more u).ok) :
 Calls Tryz.prog 7 #[.agg p.cells,.agg t.cells] w fun e w' => ∃ q : PL,e = .returned (.tuple #[.agg #[.string q.s,.bool q.n,.slice q.a q.xs.length q.ca,.slice q.b q.ys.length q.cb,.slice q.t q.ts.length q.ct],.int .i64 0]) /\ q.v = v.more u /\ q.ok w' /\ Below w.heap.size w w':=by
 subst hp ht
 refine Calls.mono (pWith_told p t w op ot hg) ?_
 rintro e w' ⟨q,c,rfl,h⟩
 rcases h with ⟨_,_,h | h | ⟨j,hj,h⟩⟩ | ⟨rfl,_,_,hm⟩
 · exact absurd hu h
 · omega
 · exfalso
   have hl : (p.v.more t.v).ts.length = p.v.ts.length + 1:=by show (p.v.ts ++ [t.v]).length = _; rw [List.length_append]; rfl
   have e1 : vT (p.v.more t.v).ts j = vT p.v.ts j:=vT_snoc_lt hj
   have e2 : vT (p.v.more t.v).ts p.v.ts.length = t.v:=vT_snoc_eq
   rcases h with h | h
   · exact hgd.nms j p.v.ts.length hj (by omega) (by rw [e1,e2]; exact h)
   · exact hgd.rot j p.v.ts.length hj (by omega) (by rw [e1,e2]; exact h)
 · exact ⟨q,rfl,hm.v,PL.ok_of (by rw [hm.v]; exact hok) hm.ow,hm.bel⟩
theorem kWith_there {p : PL} {t : TL} {w : World} {v : PV} {u : TV} (hp : p.v = v) (ht : t.v = u) (op : p.ok w) (ot : t.ok w) (hg : v.Good) (hu : u.chk = 0) (h24 : v.ts.length < 24) (hgd : ¬ (v.more u).Good) :
 Calls Tryz.prog 7 #[.agg p.cells,.agg t.cells] w fun e w' => ∃ q : PL,e = .returned (.tuple #[.agg #[.string q.s,.bool q.n,.slice q.a q.xs.length q.ca,.slice q.b q.ys.length q.cb,.slice q.t q.ts.length q.ct],.int .i64 5]) /\ q.v = PV.zero /\ Below w.heap.size w w':=by
 subst hp ht
 refine Calls.mono (pWith_in p t w op ot hg hu h24) ?_
 rintro e w' ⟨q,c,rfl,h⟩
 rcases h with ⟨rfl,hm⟩ | ⟨_,h,_⟩
 · exact ⟨q,rfl,hm.v,hm.bel⟩
 · exact absurd h hgd
theorem kCheck_good {p : PL} {w : World} {v : PV} (hp : p.v = v) (op : p.ok w) (hg : v.Good) : Calls Tryz.prog 10 #[.agg p.cells] w fun e w' => e = .returned (.agg #[.int .i64 0,.int .i64 0]) /\ Below w.heap.size w w':=by
 subst hp
 refine Calls.mono (plcheck_any p w op) ?_
 rintro e w' ⟨c,z,rfl,h,hb⟩
 obtain rfl:=PCk.one0 h hg
 obtain ⟨_,rfl⟩:=h.good
 exact ⟨rfl,hb⟩
theorem kCheck_name {p : PL} {w : World} (op : p.ok w) (hg : tname p.s.data.toList = false) : Calls Tryz.prog 10 #[.agg p.cells] w fun e w' => e = .returned (.agg #[.int .i64 4,.int .i64 (-1)]) /\ Below w.heap.size w w':=by
 refine Calls.mono (plcheck_any p w op) ?_
 rintro e w' ⟨c,z,rfl,h,hb⟩
 have hd : p.hd = 4:=phd_name _ _ hg
 rcases h with ⟨_,h1,h2⟩ | ⟨h,_⟩
 · rw [h1,h2,hd]
   exact ⟨rfl,hb⟩
 · rw [hd] at h; exact absurd h (by decide)
theorem pchk_twice {p : PL} {c z : Int} {t u : TV} (h : PChk p.hd p.ts c z) (hn : tname p.s.data.toList = true) (hm : rchk p.n p.xs p.ys = 0) (hts : p.v.ts = [t,u]) (ht : t.chk = 0) (hu : u.chk = 0) (hs : t.s = u.s) : c = 5 /\ z = 1:=by
 have hl : p.ts.length = 2:=by
  have e:=congrArg List.length hts
  rw [show p.v.ts = p.ts.map TL.v from rfl,List.length_map] at e
  exact e
 have hd : p.hd = 0:=by
  unfold PL.hd
  rw [phd_rest _ _ hn,hm,fstE_zero,hl]
  rfl
 have e0 : (tT p.ts 0).v = t:=by rw [tT_v,show p.ts.map TL.v = [t,u] from hts]; rfl
 have e1 : (tT p.ts 1).v = u:=by rw [tT_v,show p.ts.map TL.v = [t,u] from hts]; rfl
 have c0 : (tT p.ts 0).chk = 0:=by rw [<- e0] at ht; exact ht
 have c1 : (tT p.ts 1).chk = 0:=by rw [<- e1] at hu; exact hu
 have s0 : (tT p.ts 0).s = (tT p.ts 1).s:=by
  have a : (tT p.ts 0).v.s = (tT p.ts 1).v.s:=by rw [e0,e1]; exact hs
  exact a
 have key : PCk p.ts 5 1:=by
  refine .inl ⟨1,by omega,fun j hj => ?_,rfl,.inr ⟨c1,.inl ⟨0,by omega,?_⟩,rfl⟩⟩
  · obtain rfl : j = 0:=by omega
    exact ⟨c0,fun ⟨k,hk,_⟩ => by omega,fun ⟨k,hk,_⟩ => by omega⟩
  · exact nmEq'.2 s0
 rcases h with ⟨h0,_⟩ | ⟨_,h⟩
 · exact absurd hd h0
 · exact h.one key
theorem kFind {p : PL} {w : World} (k : ByteArray) {z : Int} (op : p.ok w) (hl : p.ts.length <= 1000000) (hz : FstI (fun j => (tT p.ts j).s.toList == k.toList) p.ts.length z) :
 Calls Tryz.prog 11 #[.agg p.cells,.string k] w fun e w' => e = .returned (.int .i64 z) /\ Below w.heap.size w w':=by
 refine Calls.mono (pFind_any p.s p.n p.a p.ca p.xs p.b p.cb p.ys p.t p.ct p.ts k w hl op.ts) ?_
 rintro e w' ⟨z',rfl,h,hb⟩
 rw [h.one hz]
 exact ⟨rfl,hb⟩
theorem hx_one {p : PL} (hp : p.v = hxV) : p.ts.length = 1 /\ (tT p.ts 0).v = exV:=by
 have hts : p.ts.map TL.v = [exV]:=congrArg PV.ts hp
 have e:=congrArg List.length hts
 rw [List.length_map] at e
 exact ⟨e,by rw [tT_v,hts]; rfl⟩
theorem hx_find {p : PL} (hp : p.v = hxV) : FstI (fun j => (tT p.ts j).s.toList == (⟨#[77,50]⟩ : ByteArray).toList) p.ts.length 0:=by
 obtain ⟨h1,h2⟩:=hx_one hp
 have hs : (tT p.ts 0).s = ⟨#[77,50]⟩:=congrArg TV.s h2
 exact .inl ⟨0,by omega,rfl,nmEq.2 hs,fun j hj => by omega⟩
theorem hx_miss {p : PL} (hp : p.v = hxV) : FstI (fun j => (tT p.ts j).s.toList == (⟨#[83,50]⟩ : ByteArray).toList) p.ts.length (-1):=by
 obtain ⟨h1,h2⟩:=hx_one hp
 have hs : (tT p.ts 0).s = ⟨#[77,50]⟩:=congrArg TV.s h2
 refine .inr ⟨rfl,fun j hj => ?_⟩
 obtain rfl : j = 0:=by omega
 show ((tT p.ts 0).s.toList == _) = false
 rw [hs,ByteArray.toList_eq,ByteArray.toList_eq]
 decide
theorem zneg0 : -(rq false [] [1]) = rq false [] [1]:=by decide +kernel
theorem kConj {t : TL} {w : World} (ht : t.v = exV) (ot : t.ok w) : Calls Tryz.prog 12 #[.agg t.cells] w fun e w' => ∃ u : TL,e = .returned (.tuple #[.agg #[.string u.s,.int .i32 u.f,.int .i32 u.r,.bool u.n,.slice u.a u.xs.length u.ca,.slice u.b u.ys.length u.cb,.bool u.m,.slice u.c u.us.length u.cc,.slice u.d u.vs.length u.cd],.int .i64 0]) /\ (⟨⟨#[77,50,99]⟩,u.f,u.r,u.n,u.xs,u.ys,u.m,u.us,u.vs⟩ : TV) = exC /\ u.ok w' /\ Below w.heap.size w w':=by
 have hk : t.chk = 0:=by
  have h:=exV_chk
  rw [<- ht] at h
  exact h
 refine Calls.mono (pConjC_any t w ot hk) ?_
 rintro e w' ⟨u,c,rfl,⟨rfl,h1,h2,h3,h4⟩,ow,_,hb⟩
 rw [ht] at h1 h2 h3 h4
 have i1:=rq_inj h4.2.2.1 h4.2.2.2.1 (zw 1 (by decide) (by decide)) (zw 2 (by decide) (by decide)) h4.1.1 h1f2 h4.1.2
 have i2:=rq_inj h4.2.2.2.2.1 h4.2.2.2.2.2 Wd.nil (zw 1 (by decide) (by decide)) h4.2.1.1 h0f1 (h4.2.1.2.trans zneg0)
 obtain ⟨a1,a2,a3⟩:=i1
 obtain ⟨b1,b2,b3⟩:=i2
 have g2 : u.f = 2:=h2
 have g3 : u.r = -1:=h3
 have k1 : u.n = false:=a1
 have k2 : u.xs = [1]:=a2
 have k3 : u.ys = [2]:=a3
 have l1 : u.m = false:=b1
 have l2 : u.us = []:=b2
 have l3 : u.vs = [1]:=b3
 refine ⟨u,rfl,?_,TL.ok_of ⟨?_,?_,h4.2.2.1,h4.2.2.2.1,h4.2.2.2.2.1,h4.2.2.2.2.2⟩ ow,hb⟩
 · rw [g2,g3,k1,k2,k3,l1,l2,l3]; rfl
 · rw [h1]; exact exV_ok.1
 · show in32 u.f u.r
   rw [g2,g3]; unfold in32; decide
theorem kReal_no {p : PL} {w : World} (hp : p.v = hxV) (op : p.ok w) : Calls Tryz.prog 13 #[.agg p.cells] w fun e w' => e = .returned (.tuple #[.bool false,.int .i64 0]) /\ Below w.heap.size w w':=by
 obtain ⟨h1,h2⟩:=hx_one hp
 have hg : p.v.Good:=by rw [hp]; exact hx_good
 refine Calls.mono (pReal_any p w op) ?_
 rintro e w' ⟨bo,c,rfl,h,hb⟩
 rcases h with ⟨z,hz,hc,_⟩ | ⟨_,rfl,vs,hl,hv,hbo⟩
 · exact absurd (PCk.one0 hz hg) hc
 · have hbf : bo = false:=by
    cases bo with
    | false => rfl
    | true =>
     obtain ⟨k,hk,hr⟩:=hbo.1 rfl 0 (by omega)
     obtain rfl : k = 0:=by omega
     have hj:=hv 0 (by omega)
     rw [h2] at hr hj
     have e3 : (vT vs 0).r = -1:=hj.2.2.2.1
     unfold rsB at hr
     rw [e3] at hr
     simp [exV] at hr
   subst hbf
   exact ⟨rfl,hb⟩
theorem exV_is : exV.Is exV.q1 exV.q2:=TV.chk_is exV_chk exV_ok.2.2.1 exV_ok.2.2.2.1 exV_ok.2.2.2.2.1 exV_ok.2.2.2.2.2
theorem exC_is : exC.Is exC.q1 exC.q2:=TV.chk_is exC_chk exC_ok.2.2.1 exC_ok.2.2.2.1 exC_ok.2.2.2.2.1 exC_ok.2.2.2.2.2
theorem kReal_yes {p : PL} {w : World} (hp : p.v = hcV) (op : p.ok w) : Calls Tryz.prog 13 #[.agg p.cells] w fun e w' => e = .returned (.tuple #[.bool true,.int .i64 0]) /\ Below w.heap.size w w':=by
 refine pReal_good p w op (by rw [hp]; exact hc_good) (fun j hj => ?_)
 rw [hp] at hj ⊢
 have hj' : j < 2:=hj
 rcases (show j = 0 \/ j = 1 by omega) with rfl | rfl
 · refine ⟨1,by decide,rfl,rfl,?_⟩
   have h:=exC_is
   have e : exC.q2 = -exV.q2:=zneg0.symm
   rw [e] at h
   exact h
 · refine ⟨0,by decide,rfl,rfl,?_⟩
   have h:=exV_is
   have e : exV.q2 = -exC.q2:=zneg0.symm
   rw [e] at h
   exact h
theorem kReal_hull {p : PL} {w : World} (hp : p.v = hullV) (op : p.ok w) : Calls Tryz.prog 13 #[.agg p.cells] w fun e w' => e = .returned (.tuple #[.bool true,.int .i64 0]) /\ Below w.heap.size w w' :=
 pReal_good p w op (by rw [hp]; exact hullV_good) (fun j hj => by
  rw [hp] at hj
  exact absurd hj (by show ¬ j < 0; omega))
set_option maxRecDepth 100000 in
theorem kWithout {p : PL} {w : World} (hp : p.v = hxV) (op : p.ok w) : Calls Tryz.prog 14 #[.agg p.cells,.string ⟨#[83,50]⟩] w fun e w' => ∃ q : PL,e = .returned (.tuple #[.agg #[.string q.s,.bool q.n,.slice q.a q.xs.length q.ca,.slice q.b q.ys.length q.cb,.slice q.t q.ts.length q.ct],.int .i64 6]) /\ q.v = PV.zero /\ Below w.heap.size w w':=by
 obtain ⟨X,hX⟩ : ∃ X,w.alloc (.cells p.cells 27) = X:=⟨_,rfl⟩
 obtain ⟨Y,hY⟩ : ∃ Y,X.alloc (.cells #[.string ⟨#[]⟩,.bool false,.slice none 0 0,.slice none 0 0,.slice none 0 0] 27) = Y:=⟨_,rfl⟩
 have hXs : X.heap.size = w.heap.size + 1:=by subst hX; simp
 have HX : Hid (Box Y w.heap.size 27 p.cells):=by
  subst hY hX
  exact (Box.made w _ _).later (alloc_later _ _) (Box.made w 27 _).lt
 have HR : Hid (Box Y (w.heap.size + 1) 27 #[.string ⟨#[]⟩,.bool false,.slice none 0 0,.slice none 0 0,.slice none 0 0]):=by
  rw [<- hXs]
  subst hY
  exact Box.made X _ _
 have HB : Hid (Below w.heap.size w Y):=by
  subst hY hX
  exact bt (alloc_later _ _) (alloc_later _ _)
 have hYs : w.heap.size + 1 < Y.heap.size:=HR.out.lt
 have HC1:=hid (kCheck_good hp (op.later HB.out) hx_good)
 have HC3 : Hid (∀ V,Below Y.heap.size Y V -> Calls Tryz.prog 11 #[.agg p.cells,.string ⟨#[83,50]⟩] V fun e w' => e = .returned (.int .i64 (-1)) /\ Below V.heap.size V w'):=fun V hV => kFind ⟨#[83,50]⟩ (op.later (bt HB.out hV)) (by have:=(hx_one hp).1; omega) (hx_miss hp)
 have HKP : Hid (∀ V,Box V w.heap.size 27 p.cells -> V.cell? ⟨w.heap.size,0,none⟩ = some (.string p.s) /\ V.cell? ⟨w.heap.size,1,none⟩ = some (.bool p.n) /\ V.cell? ⟨w.heap.size,2,none⟩ = some (.slice p.a p.xs.length p.ca) /\ V.cell? ⟨w.heap.size,3,none⟩ = some (.slice p.b p.ys.length p.cb) /\ V.cell? ⟨w.heap.size,4,none⟩ = some (.slice p.t p.ts.length p.ct)):=fun V h => ⟨h.cell 0,h.cell 1,h.cell 2,h.cell 3,h.cell 4⟩
 clear op hp
 obtain ⟨k0,k1,k2,k3,k4⟩:=HKP.out _ HX.out
 go_enter Tryz.func14,Tryz.ntmps14
 go_wp2_with fail
 refine Calls.mono HC1.out ?_
 rintro e w1 ⟨rfl,b1⟩
 obtain ⟨W2,hW2⟩ : ∃ W2,w1.alloc (.cells #[.int .i64 0,.int .i64 0] 40) = W2:=⟨_,rfl⟩
 have HF : Hid (Box W2 w1.heap.size 40 #[.int .i64 0,.int .i64 0]):=by
  subst hW2
  exact Box.made w1 _ _
 have HB2 : Hid (Below w1.heap.size w1 W2):=by
  subst hW2
  exact alloc_later _ _
 have HYA:=hid (bt b1 HB2.out)
 have HXA:=hid (HX.out.later HYA.out HX.out.lt)
 have HRA:=hid (HR.out.later HYA.out HR.out.lt)
 obtain ⟨⟨m0,m1⟩,⟨n0,n1⟩,⟨l0,l1⟩⟩:=fzero2 HF.out
 clear b1 HC1 k0 k1 k2 k3 k4 HB2 HX HR HF
 obtain ⟨k0,k1,k2,k3,k4⟩:=HKP.out _ HXA.out
 go_wp2_with fail
 refine Calls.mono (HC3.out W2 HYA.out) ?_
 rintro e w3 ⟨rfl,b3⟩
 have HR3:=hid (HRA.out.later b3 HRA.out.lt)
 have HB3:=hid (bt HB.out (bt HYA.out b3))
 obtain ⟨⟨s0,s1,s2,s3,s4⟩,⟨x0,x1,x2,x3,x4⟩,⟨u0,u1,u2,u3,u4⟩⟩:=pzero5 HR3.out
 clear b3 k0 k1 k2 k3 k4 HXA HRA HYA HC3 m0 m1 n0 n1 l0 l1 hW2 HKP
 go_wp2_with fail
 exact bodyPost_ret (pres_run (by rfl) HR3.out _ rfl) rfl ⟨PL.zero,rfl,rfl,HB3.out⟩
theorem kMoved {p : PL} {w : World} (hp : p.v = hxV) (op : p.ok w) : Calls Tryz.prog 15 #[.agg p.cells,.int .i64 1025] w fun e w' => ∃ q : PL,e = .returned (.tuple #[.agg #[.string q.s,.bool q.n,.slice q.a q.xs.length q.ca,.slice q.b q.ys.length q.cb,.slice q.t q.ts.length q.ct],.int .i64 2]) /\ q.v = PV.zero /\ Below w.heap.size w w':=by
 have hg : p.v.Good:=by rw [hp]; exact hx_good
 refine Calls.mono (pMoved_any p 1025 w op) ?_
 rintro e w' ⟨q,c,rfl,h⟩
 rcases h with ⟨z,hz,hc,_⟩ | ⟨_,⟨_,rfl,hm⟩ | ⟨h,_⟩⟩
 · exact absurd (PCk.one0 hz hg) hc
 · exact ⟨q,rfl,hm.v,hm.bel⟩
 · omega
end Go.Proofs.YtnhmaijmmkplkaaGreatDoor
namespace Go.Proofs.YtnhmaijmmkplkaaGreatDoor
set_option maxHeartbeats 25600000
open Go.RowKit Go.Lib
set_option linter.unusedVariables false
set_option linter.unusedSimpArgs false
theorem prs_head {s : ByteArray} {v : PV} {c z : Int} (h : PrsT s v c z) (hs : s.size <= 65536) (hb : lend s.data.toList = false \/ ¬ (tword (lline s.data.toList) = [112,111,114,116]) \/ ¬ rgood (trest (trest (lline s.data.toList)))) : c = 240 /\ z = 0:=by
 have key : ∀ {n xs ys},RTells (prErr ⟨(trest (trest (lline s.data.toList))).toArray⟩) (rpq (trest (trest (lline s.data.toList)))) n xs ys 0 -> hdGood ⟨(lline s.data.toList).toArray⟩ 0 -> lend s.data.toList = true -> False:=fun ht hg he => by
  rcases hb with hb | hb | hb
  · rw [he] at hb; cases hb
  · exact hb (hdGood_iff.1 hg).1
  · refine hb ?_
    have hp : prErr ⟨(trest (trest (lline s.data.toList))).toArray⟩ = 0:=Classical.byContradiction fun hn => hn ((ht.bad hn).2.2.2).symm
    have:=prErr_is0 hp
    rw [bytes_list] at this
    exact this
 rcases h with ⟨h0,_⟩ | ⟨_,u,c0,z0,hl,h⟩
 · omega
 · have h240 : c0 = 240 /\ z0 = 0:=by
    rcases hl with ⟨_,_,ht,hg,he,_⟩ | ⟨h1,_,⟨h2,_⟩ | ⟨us,r,n,xs,ys,ht,hg,he,_⟩⟩
    · exact (key ht hg he).elim
    · exact ⟨h1,h2⟩
    · exact (key ht hg he).elim
   obtain ⟨rfl,rfl⟩:=h240
   rcases h with ⟨_,_,h1,h2⟩ | ⟨h0,_⟩
   · exact ⟨h1,h2⟩
   · exact absurd h0 (by decide)
theorem prs_long {s : ByteArray} {v : PV} {c z : Int} (h : PrsT s v c z) (hs : s.size = 65537) : c = 3 /\ z = -1:=by
 rcases h with ⟨_,_,h1,h2⟩ | ⟨h0,_⟩
 · exact ⟨h1,h2⟩
 · omega
theorem yt0 : lend [] = false:=lend_nil
theorem yt1 : ¬ rgood (trest (trest (lline [112,111,114,116,32,72,117,108,108,10]))):=by
 have e : trest (trest (lline [112,111,114,116,32,72,117,108,108,10])) = []:=by decide +kernel
 rw [e]; exact rgood_nil
theorem yt2 : ¬ rgood (trest (trest (lline [112,111,114,116,32,72,117,108,108,32,54,47,52,10]))):=by
 have e : trest (trest (lline [112,111,114,116,32,72,117,108,108,32,54,47,52,10])) = [54,47,52]:=by decide +kernel
 rw [e]; unfold rgood IsNum Dg; decide +kernel
theorem yt3 : lend [112,111,114,116,32,72,117,108,108,32,49] = false:=by decide +kernel
theorem yt4 : ¬ (tword (lline [80,111,114,116,32,72,117,108,108,32,49,10]) = [112,111,114,116]):=by decide +kernel
theorem yt5 : ¬ rgood (trest (trest (lline [112,111,114,116,32,72,117,108,108,32,49,32,10]))):=by
 have e : trest (trest (lline [112,111,114,116,32,72,117,108,108,32,49,32,10])) = [49,32]:=by decide +kernel
 rw [e]; unfold rgood IsNum Dg; decide +kernel
def ytL : List ByteArray:=[⟨#[]⟩,⟨#[112,111,114,116,32,72,117,108,108,10]⟩,⟨#[112,111,114,116,32,72,117,108,108,32,54,47,52,10]⟩,⟨#[112,111,114,116,32,72,117,108,108,32,49]⟩,⟨#[80,111,114,116,32,72,117,108,108,32,49,10]⟩,⟨#[112,111,114,116,32,72,117,108,108,32,49,32,10]⟩]
theorem ytL_bad {s : ByteArray} (hs : s ∈ ytL) {v : PV} {c z : Int} (h : PrsT s v c z) : c = 240 /\ z = 0:=by
 unfold ytL at hs
 simp only [List.mem_cons,List.not_mem_nil,or_false] at hs
 rcases hs with rfl | rfl | rfl | rfl | rfl | rfl
 · exact prs_head h (by decide) (.inl yt0)
 · exact prs_head h (by decide) (.inr (.inr yt1))
 · exact prs_head h (by decide) (.inr (.inr yt2))
 · exact prs_head h (by decide) (.inl yt3)
 · exact prs_head h (by decide) (.inr (.inl yt4))
 · exact prs_head h (by decide) (.inr (.inr yt5))
def tw1 : TV:=⟨⟨#[77,50]⟩,2,1,false,[1],[1],false,[],[1]⟩
def tw2 : TV:=⟨⟨#[77,50]⟩,3,1,false,[1],[1],false,[],[1]⟩
def twV : PV:=⟨⟨#[72,117,108,108]⟩,false,[1],[1],[tw1,tw2]⟩
theorem tw1_chk : tw1.chk = 0:=tchk_kn (by decide +kernel) (by unfold rOK; decide) h1f1 h0f1
theorem tw2_chk : tw2.chk = 0:=tchk_kn (by decide +kernel) (by unfold rOK; decide) h1f1 h0f1
theorem tw1_ok : tw1.ok:=⟨by show (2 : Nat) <= maxLen; unfold maxLen; decide,by unfold in32 tw1; decide,zw 1 (by decide) (by decide),zw 1 (by decide) (by decide),Wd.nil,zw 1 (by decide) (by decide)⟩
theorem tw2_ok : tw2.ok:=⟨by show (2 : Nat) <= maxLen; unfold maxLen; decide,by unfold in32 tw2; decide,zw 1 (by decide) (by decide),zw 1 (by decide) (by decide),Wd.nil,zw 1 (by decide) (by decide)⟩
theorem tw_mem {t : TV} (h : t ∈ twV.ts) : t = tw1 \/ t = tw2:=by
 have h' : t ∈ [tw1,tw2]:=h
 simpa using h'
theorem twV_text : twV.text = [112,111,114,116,32,72,117,108,108,32,49,10,77,50,32,50,32,49,32,49,32,48,10,77,50,32,51,32,49,32,49,32,48,10]:=by decide +kernel
theorem prs_twice {v : PV} {c z : Int} (h : PrsT ⟨#[112,111,114,116,32,72,117,108,108,32,49,10,77,50,32,50,32,49,32,49,32,48,10,77,50,32,51,32,49,32,49,32,48,10]⟩ v c z) : c = 5 /\ z = 2:=by
 rcases h with ⟨h0,_⟩ | ⟨_,u,c0,z0,hl,h⟩
 · exact absurd h0 (by decide)
 · have hl' : LnsT twV.text u c0 z0:=by rw [twV_text]; exact hl
   obtain ⟨rfl,rfl,rfl⟩:=lns_text0 (v:=twV) (by decide +kernel) h1f1 (fun t ht => by
    rcases tw_mem ht with rfl | rfl
    · exact tw1_chk
    · exact tw2_chk) (zw 1 (by decide) (by decide)) (zw 1 (by decide) (by decide)) (fun t ht => by
    rcases tw_mem ht with rfl | rfl
    · exact tw1_ok
    · exact tw2_ok) (by rw [twV_text]; decide) hl'
   rcases h with ⟨h0,_⟩ | ⟨_,q,ce,ze,hq,hp,h⟩
   · exact absurd rfl h0
   · have hqs : q.s = ⟨#[72,117,108,108]⟩:=congrArg PV.s hq
     have hqm : rchk q.n q.xs q.ys = 0:=by
      have e1 : q.n = false:=congrArg PV.n hq
      have e2 : q.xs = [1]:=congrArg PV.xs hq
      have e3 : q.ys = [1]:=congrArg PV.ys hq
      rw [e1,e2,e3]; exact h1f1
     obtain ⟨rfl,rfl⟩:=pchk_twice hp (by rw [hqs]; decide +kernel) hqm (by rw [hq]; rfl) tw1_chk tw2_chk rfl
     rcases h with ⟨_,_,h1,h2⟩ | ⟨h0,_⟩
     · exact ⟨h1,h2⟩
     · exact absurd h0 (by decide)
theorem prs_open {v : PV} {c z : Int} (h : PrsT ⟨#[112,111,114,116,32,72,117,108,108,32,49,10,77,50,32,50,32,49,32,49,32,48]⟩ v c z) : c = 240 /\ z = 1:=by
 have el : lline [112,111,114,116,32,72,117,108,108,32,49,10,77,50,32,50,32,49,32,49,32,48] = [112,111,114,116,32,72,117,108,108,32,49]:=by decide +kernel
 have er : lrest [112,111,114,116,32,72,117,108,108,32,49,10,77,50,32,50,32,49,32,49,32,48] = [77,50,32,50,32,49,32,49,32,48]:=by decide +kernel
 have ee : lend [112,111,114,116,32,72,117,108,108,32,49,10,77,50,32,50,32,49,32,49,32,48] = true:=by decide +kernel
 have e2 : lend [77,50,32,50,32,49,32,49,32,48] = false:=by decide +kernel
 have tr : trest (trest [112,111,114,116,32,72,117,108,108,32,49]) = rtext false [1] [1]:=by decide +kernel
 rcases h with ⟨h0,_⟩ | ⟨_,u,c0,z0,hl,h⟩
 · exact absurd h0 (by decide)
 · have hl' : LnsT [112,111,114,116,32,72,117,108,108,32,49,10,77,50,32,50,32,49,32,49,32,48] u c0 z0:=hl
   have h240 : c0 = 240 /\ z0 = 1:=by
    unfold LnsT at hl'
    rw [el,er] at hl'
    rcases hl' with ⟨_,_,_,_,_,ht,_⟩ | ⟨h1,_,⟨h2,h3 | ⟨n,xs,ys,code,ht,hg⟩⟩ | ⟨us,r,n,xs,ys,_,_,_,ht,_,hz,_⟩⟩
    · cases hts : u.ts with
      | nil => rw [hts] at ht; exact absurd ht (by intro e; cases e)
      | cons a b =>
       rw [hts] at ht
       have:=ht.2.1
       rw [e2] at this; cases this
    · rw [ee] at h3; cases h3
    · exfalso
      rw [tr] at ht
      have p0 : prErr ⟨(rtext false [1] [1]).toArray⟩ = 0:=prErr_of (zw 1 (by decide) (by decide)) (zw 1 (by decide) (by decide)) h1f1 (bytes_list _) (by rw [bytes_size]; decide +kernel)
      rw [p0,rpq_text false (zw 1 (by decide) (by decide)) (zw 1 (by decide) (by decide))] at ht
      obtain ⟨_,_,_,rfl⟩:=ht.same (RTells.self (zw 1 (by decide) (by decide)) (zw 1 (by decide) (by decide)) h1f1)
      exact hg (hdGood_iff.2 ⟨by decide +kernel,by decide +kernel,rfl⟩)
    · refine ⟨h1,?_⟩
      cases us with
      | nil => exact hz
      | cons a b =>
       have:=ht.2.1
       rw [e2] at this; cases this
   obtain ⟨rfl,rfl⟩:=h240
   rcases h with ⟨_,_,h1,h2⟩ | ⟨h0,_⟩
   · exact ⟨h1,h2⟩
   · exact absurd h0 (by decide)
end Go.Proofs.YtnhmaijmmkplkaaGreatDoor
namespace Go.Proofs.YtnhmaijmmkplkaaGreatDoor
set_option maxHeartbeats 25600000
open Go.RowKit
set_option linter.unusedVariables false
set_option linter.unusedSimpArgs false
theorem ppair (w : World) (q : PL) (c z : Int) : ∃ W2 W3 A0 A1 A2 A3 A4 D0 D1,w.alloc (.cells #[.string ⟨#[]⟩,.bool false,.slice none 0 0,.slice none 0 0,.slice none 0 0] 27) = W2 /\ W2.alloc (.cells #[.int .i64 0,.int .i64 0] 40) = W3 /\ W2.heap.size = w.heap.size + 1 /\ W3.setCell ⟨w.heap.size,0,none⟩ (.string q.s) = A0 /\ A0.setCell ⟨w.heap.size,1,none⟩ (.bool q.n) = A1 /\ A1.setCell ⟨w.heap.size,2,none⟩ (.slice q.a q.xs.length q.ca) = A2 /\ A2.setCell ⟨w.heap.size,3,none⟩ (.slice q.b q.ys.length q.cb) = A3 /\ A3.setCell ⟨w.heap.size,4,none⟩ (.slice q.t q.ts.length q.ct) = A4 /\ A4.setCell ⟨w.heap.size + 1,0,none⟩ (.int .i64 c) = D0 /\ D0.setCell ⟨w.heap.size + 1,1,none⟩ (.int .i64 z) = D1 /\
 (W3.cell? ⟨w.heap.size,0,none⟩ = some (.string ⟨#[]⟩) /\ A0.cell? ⟨w.heap.size,1,none⟩ = some (.bool false) /\ A1.cell? ⟨w.heap.size,2,none⟩ = some (.slice none 0 0) /\ A2.cell? ⟨w.heap.size,3,none⟩ = some (.slice none 0 0) /\ A3.cell? ⟨w.heap.size,4,none⟩ = some (.slice none 0 0)) /\ (A4.cell? ⟨w.heap.size + 1,0,none⟩ = some (.int .i64 0) /\ D0.cell? ⟨w.heap.size + 1,1,none⟩ = some (.int .i64 0)) /\
 (W3.frozen? ⟨w.heap.size,0,none⟩ = false /\ A0.frozen? ⟨w.heap.size,1,none⟩ = false /\ A1.frozen? ⟨w.heap.size,2,none⟩ = false /\ A2.frozen? ⟨w.heap.size,3,none⟩ = false /\ A3.frozen? ⟨w.heap.size,4,none⟩ = false) /\ (A4.frozen? ⟨w.heap.size + 1,0,none⟩ = false /\ D0.frozen? ⟨w.heap.size + 1,1,none⟩ = false) /\
 Hid (Box D1 w.heap.size 27 #[.string q.s,.bool q.n,.slice q.a q.xs.length q.ca,.slice q.b q.ys.length q.cb,.slice q.t q.ts.length q.ct] /\ Box D1 (w.heap.size + 1) 40 #[.int .i64 c,.int .i64 z] /\ Below w.heap.size w D1):=by
 obtain ⟨W2,hW2⟩ : ∃ W2,w.alloc (.cells #[.string ⟨#[]⟩,.bool false,.slice none 0 0,.slice none 0 0,.slice none 0 0] 27) = W2:=⟨_,rfl⟩
 obtain ⟨W3,hW3⟩ : ∃ W3,W2.alloc (.cells #[.int .i64 0,.int .i64 0] 40) = W3:=⟨_,rfl⟩
 have hs2 : W2.heap.size = w.heap.size + 1:=by subst hW2; simp
 have HQ : Box W3 w.heap.size 27 #[.string ⟨#[]⟩,.bool false,.slice none 0 0,.slice none 0 0,.slice none 0 0]:=by
  subst hW3 hW2
  exact (Box.made w _ _).later (alloc_later _ _) (Box.made w 27 _).lt
 have HG : Box W3 (w.heap.size + 1) 40 #[.int .i64 0,.int .i64 0]:=by
  rw [<- hs2]
  subst hW3
  exact Box.made W2 _ _
 have HB3 : Below w.heap.size w W3:=by
  subst hW3 hW2
  exact bt (alloc_later _ _) (alloc_later _ _)
 obtain ⟨A0,A1,A2,A3,A4,p0,p1,p2,p3,p4,hr,hf,HA⟩:=pchain5 HQ (.string q.s) (.bool q.n) (.slice q.a q.xs.length q.ca) (.slice q.b q.ys.length q.cb) (.slice q.t q.ts.length q.ct)
 have HGA : Box A4 (w.heap.size + 1) 40 #[.int .i64 0,.int .i64 0]:=HA.out.2.1 _ _ _ (by omega) HG
 obtain ⟨D0,D1,d0,d1,he,hg,HD⟩:=rchain2 HGA (by decide) (.int .i64 c) (.int .i64 z)
 exact ⟨W2,W3,A0,A1,A2,A3,A4,D0,D1,hW2,hW3,hs2,p0,p1,p2,p3,p4,d0,d1,hr,he,hf,hg,HD.out.2.1 _ _ _ (by omega) HA.out.1,HD.out.1,HD.out.2.2.2.1 _ _ (by omega) (HA.out.2.2.2.1 _ _ (Nat.le_refl _) HB3)⟩
end Go.Proofs.YtnhmaijmmkplkaaGreatDoor
namespace Go.Proofs.YtnhmaijmmkplkaaGreatDoor
set_option maxHeartbeats 25600000
open Go.RowKit Go.Lib
set_option linter.unusedVariables false
set_option linter.unusedSimpArgs false
theorem Sl.putb {U : World} {v : Value} {xs : List Int} {b t : Nat} {vs : Array Value} (h : Sl U v xs) (hb : Box U b t vs) (hv : ∀ (j : Nat) (x : Int),vs[j]? ≠ some (.int .u32 x)) (j : Nat) (v0 : Value) : Sl (U.setCell ⟨b,j,none⟩ v0) v xs:=by
 obtain ⟨a',cap,rfl,h1,h2,h3,h4⟩:=h
 refine ⟨a',cap,rfl,h1,h2,?_,h4⟩
 rcases h3 with h0 | ⟨bb,o,rfl,hlt,hc⟩
 · exact .inl h0
 · by_cases hl : xs.length = 0
   · exact .inl hl
   · right
     have hne : bb ≠ b:=fun e => by
      subst e
      have e1:=hc 0 (by omega)
      rw [Nat.add_zero,hb.cell o] at e1
      obtain ⟨x,hx⟩ : ∃ x,xs[0]? = some x:=⟨_,List.getElem?_eq_getElem (by omega)⟩
      simp [hx] at e1
      exact hv o _ e1
     refine ⟨bb,o,rfl,by simpa [World.setCell] using hlt,fun k hk => ?_⟩
     have e1:=World.cell?_of_block (w:=U) (w':=U.setCell ⟨b,j,none⟩ v0) (a:=⟨bb,o + k,none⟩) (Below.heap_setCell U ⟨b,j,none⟩ v0 bb hne)
     rw [e1]
     exact hc k hk
theorem TL.ok_putb {t : TL} {U : World} {b e : Nat} {vs : Array Value} (h : t.ok U) (hb : Box U b e vs) (hv : ∀ (j : Nat) (x : Int),vs[j]? ≠ some (.int .u32 x)) (j : Nat) (v0 : Value) : t.ok (U.setCell ⟨b,j,none⟩ v0) :=
 ⟨h.size,h.rot,h.sx.putb hb hv j v0,h.sy.putb hb hv j v0,h.su.putb hb hv j v0,h.sv.putb hb hv j v0⟩
theorem five_nou {s0 : Value} {b0 : Value} {s1 s2 s3 : Value} (h0 : ∀ x,s0 ≠ .int .u32 x) (h1 : ∀ x,b0 ≠ .int .u32 x) (h2 : ∀ x,s1 ≠ .int .u32 x) (h3 : ∀ x,s2 ≠ .int .u32 x) (h4 : ∀ x,s3 ≠ .int .u32 x) : ∀ (j : Nat) (x : Int),(#[s0,b0,s1,s2,s3] : Array Value)[j]? ≠ some (.int .u32 x):=by
 intro j x
 match j with
 | 0 => simpa using h0 x
 | 1 => simpa using h1 x
 | 2 => simpa using h2 x
 | 3 => simpa using h3 x
 | 4 => simpa using h4 x
 | j + 5 => simp
theorem kCheck_twice {p : PL} {t u : TL} {w : World} {g : Nat} (hp : p.v = hxV) (op : p.ok w) (ht : t.v = exV) (hu : u.v = exV) (ot : t.ok w) (ou : u.ok w) (hg : g < w.heap.size) (hct : ∀ k,k < 9 -> w.cell? ⟨g,k,none⟩ = t.cells[k]?) (hcu : ∀ k,k < 9 -> w.cell? ⟨g,9 + k,none⟩ = u.cells[k]?) :
 Calls Tryz.prog 10 #[.agg #[.string p.s,.bool p.n,.slice p.a p.xs.length p.ca,.slice p.b p.ys.length p.cb,.slice (some ⟨g,0,none⟩) 2 2]] w fun e w' => e = .returned (.agg #[.int .i64 5,.int .i64 1]) /\ Below w.heap.size w w':=by
 have hrd : RdT w (some ⟨g,0,none⟩) [t,u]:=by
  refine ⟨fun x hx => ?_,.inr ⟨g,0,rfl,hg,fun j x hj k hk => ?_⟩⟩
  · rcases List.mem_cons.1 hx with rfl | hx
    · exact ot
    · rw [List.mem_singleton.1 hx]; exact ou
  · match j with
    | 0 =>
     have e : t = x:=Option.some.inj hj
     subst e
     rw [show 0 + 0 * 9 + k = k by omega]
     exact hct k hk
    | 1 =>
     have e : u = x:=Option.some.inj hj
     subst e
     rw [show 0 + 1 * 9 + k = 9 + k by omega]
     exact hcu k hk
    | j + 2 => exact absurd hj (by simp)
 have hq : PL.ok (⟨p.s,p.n,p.a,p.ca,p.xs,p.b,p.cb,p.ys,some ⟨g,0,none⟩,2,[t,u]⟩ : PL) w:=⟨op.size,op.sx,op.sy,⟨Nat.le_refl _,by show (2 : Nat) <= maxLen; unfold maxLen; decide,fun h => by cases h⟩,hrd⟩
 refine Calls.mono (plcheck_any (⟨p.s,p.n,p.a,p.ca,p.xs,p.b,p.cb,p.ys,some ⟨g,0,none⟩,2,[t,u]⟩ : PL) w hq) ?_
 rintro e w' ⟨c,z,rfl,h,hb⟩
 have hs : p.s = ⟨#[72,117,108,108]⟩:=congrArg PV.s hp
 have hm : rchk p.n p.xs p.ys = 0:=by
  have e1 : p.n = false:=congrArg PV.n hp
  have e2 : p.xs = [3]:=congrArg PV.xs hp
  have e3 : p.ys = [2]:=congrArg PV.ys hp
  rw [e1,e2,e3]; exact hullV_good.mean
 obtain ⟨rfl,rfl⟩:=pchk_twice (t:=exV) (u:=exV) h (by show tname p.s.data.toList = true; rw [hs]; decide +kernel) hm (by show [t.v,u.v] = _; rw [ht,hu]) exV_chk exV_chk rfl
 exact ⟨rfl,hb⟩
theorem kRepeat (V : World) : Calls Tryz.prog 17 #[.string ⟨#[120]⟩,.int .i64 65537] V fun e w' => ∃ t : ByteArray,e = .returned (.string t) /\ Hid (t.size = 65537) /\ Below V.heap.size V w':=by
 refine Calls.mono (Tryz.strings_Repeat_main ⟨#[120]⟩ 65537 V (by decide) (by decide) (by decide) (by decide)) ?_
 rintro e w' ⟨rfl,hb⟩
 refine ⟨_,rfl,?_,hb⟩
 have h:=repeatL_length (⟨#[120]⟩ : ByteArray).data.toList 65537
 show (repeatL (⟨#[120]⟩ : ByteArray).data.toList 65537).toArray.size = 65537
 rw [List.size_toArray,h]
 rfl
end Go.Proofs.YtnhmaijmmkplkaaGreatDoor
namespace Go.Proofs.YtnhmaijmmkplkaaGreatDoor
set_option maxHeartbeats 25600000
open Go.RowKit
set_option linter.unusedVariables false
set_option linter.unusedSimpArgs false
set_option maxRecDepth 100000 in
theorem portNames_in (w : World) (htab : Tab w) (herr : ErrT w) : Calls Tryz.prog 3 #[] w fun e w' => e = .returned (.bool true) /\ Below w.heap.size w w':=by
 have HB:=hid (Below.refl w.heap.size w)
 have HTAB : Hid (∀ V,Below w.heap.size w V -> Tab V):=fun V hv => htab.later hv
 have HERR : Hid (∀ V,Below w.heap.size w V -> ErrT V):=fun V hv => herr.later hv
 clear htab herr
 go_enter Tryz.func3,Tryz.ntmps3
 go_wp2_with fail
 refine Calls.mono (hull_any w) ?_
 rintro e w1 ⟨p0,rfl,hp,op,b1⟩
 have HW1:=hid (bt HB.out b1)
 clear HB
 have HP0:=hid hp
 have KP0:=hid op
 clear hp op b1
 go_wp2_with fail
 refine Calls.mono (pexample_any w1) ?_
 rintro e w2 ⟨t0,rfl,ht,ot,b1⟩
 have HW2:=hid (bt HW1.out b1)
 have Kp02:=hid (KP0.out.later b1)
 clear HW1 KP0
 have HT0:=hid ht
 have KT0:=hid ot
 clear ht ot b1
 go_wp2_with fail
 refine Calls.mono (kWith_good HP0.out HT0.out Kp02.out KT0.out hullV_good exV_chk (by decide) hx_good hx_ok) ?_
 rintro e w3 ⟨q,rfl,hq,oq,b1⟩
 have HW3:=hid (bt HW2.out b1)
 have Kp03:=hid (Kp02.out.later b1)
 have Kt03:=hid (KT0.out.later b1)
 clear HW2 Kp02 KT0
 have HQ : Hid (q.v = hxV):=hq
 have KQ:=hid oq
 clear hq oq b1
 obtain ⟨Yp,hYp⟩ : ∃ Yp,w3.alloc (.cells #[.string q.s,.bool q.n,.slice q.a q.xs.length q.ca,.slice q.b q.ys.length q.cb,.slice q.t q.ts.length q.ct] 27) = Yp:=⟨_,rfl⟩
 have Gp : Hid (Box Yp w3.heap.size 27 #[.string q.s,.bool q.n,.slice q.a q.xs.length q.ca,.slice q.b q.ys.length q.cb,.slice q.t q.ts.length q.ct]):=by
  subst hYp
  exact Box.made w3 _ _
 have Lp : Hid (Below w3.heap.size w3 Yp):=by
  subst hYp
  exact alloc_later _ _
 have HW4:=hid (bt HW3.out Lp.out)
 have Kq4:=hid (KQ.out.later Lp.out)
 clear HW3 KQ
 have HS : Hid (∀ V,Box V w3.heap.size 27 #[.string q.s,.bool q.n,.slice q.a q.xs.length q.ca,.slice q.b q.ys.length q.cb,.slice q.t q.ts.length q.ct] -> V.cell? ⟨w3.heap.size,0,none⟩ = some (.string q.s) /\ V.cell? ⟨w3.heap.size,1,none⟩ = some (.bool q.n) /\ V.cell? ⟨w3.heap.size,2,none⟩ = some (.slice q.a q.xs.length q.ca) /\ V.cell? ⟨w3.heap.size,3,none⟩ = some (.slice q.b q.ys.length q.cb) /\ V.cell? ⟨w3.heap.size,4,none⟩ = some (.slice q.t q.ts.length q.ct)):=fun V h => ⟨h.cell 0,h.cell 1,h.cell 2,h.cell 3,h.cell 4⟩
 have HXL : Hid (∀ V,Below Yp.heap.size Yp V -> Box V w3.heap.size 27 #[.string q.s,.bool q.n,.slice q.a q.xs.length q.ca,.slice q.b q.ys.length q.cb,.slice q.t q.ts.length q.ct]):=fun V hV => Gp.out.later hV Gp.out.lt
 have hd0:=hid (Below.refl Yp.heap.size Yp)
 have HEX : Hid (∀ V,Calls Tryz.prog 9 #[] V fun e w' => ∃ t : TL,e = .returned (.agg #[.string t.s,.int .i32 t.f,.int .i32 t.r,.bool t.n,.slice t.a t.xs.length t.ca,.slice t.b t.ys.length t.cb,.bool t.m,.slice t.c t.us.length t.cc,.slice t.d t.vs.length t.cd]) /\ t.v = exV /\ t.ok w' /\ Below V.heap.size V w'):=fun V => pexample_any V
 have HWI : Hid (∀ (t : TL) (V : World),t.v = exV -> t.ok V -> Below Yp.heap.size Yp V -> Calls Tryz.prog 7 #[.agg #[.string q.s,.bool q.n,.slice q.a q.xs.length q.ca,.slice q.b q.ys.length q.cb,.slice q.t q.ts.length q.ct],.agg #[.string t.s,.int .i32 t.f,.int .i32 t.r,.bool t.n,.slice t.a t.xs.length t.ca,.slice t.b t.ys.length t.cb,.bool t.m,.slice t.c t.us.length t.cc,.slice t.d t.vs.length t.cd]] V fun e w' => ∃ r : PL,e = .returned (.tuple #[.agg #[.string r.s,.bool r.n,.slice r.a r.xs.length r.ca,.slice r.b r.ys.length r.cb,.slice r.t r.ts.length r.ct],.int .i64 5]) /\ r.v = PV.zero /\ Below V.heap.size V w'):=fun t V ht ot hV => kWith_there HQ.out ht (Kq4.out.later hV) ot hx_good exV_chk (by decide) hxx_bad
 go_wp2_with fail
 go_cut [5] from 40 (fun s wx => Hid (s = .int .i64 5 /\ Below Yp.heap.size Yp wx))
 case first =>
  have hs0:=HS.out _ (HXL.out _ hd0.out.drew)
  have hsa:=HS.out _ (HXL.out _ (bel_al hd0.out (.cells #[.string ⟨#[]⟩,.bool false,.slice none 0 0,.slice none 0 0,.slice none 0 0] 27)).drew)
  have hplt : w3.heap.size < Yp.heap.size:=Gp.out.lt
  go_region_held3 (fun V : World => V.cell? ⟨w3.heap.size,0,none⟩ = some (.string q.s) /\ V.cell? ⟨w3.heap.size,1,none⟩ = some (.bool q.n) /\ V.cell? ⟨w3.heap.size,2,none⟩ = some (.slice q.a q.xs.length q.ca) /\ V.cell? ⟨w3.heap.size,3,none⟩ = some (.slice q.b q.ys.length q.cb) /\ V.cell? ⟨w3.heap.size,4,none⟩ = some (.slice q.t q.ts.length q.ct)) (first | exact hsA | exact hs2a | exact hs2 | exact hs1a | exact hs1 | exact hsa | exact hs0 | go_keep)
   (first
    | (go_at_call 9; (with_reducible refine Calls.mono (HEX.out _) ?_); rintro e x1 ⟨t,rfl,ht,ot,b1'⟩; (first | (have hb1:=hid (bt hd0.out.drew b1')) | (have hb1:=hid (bt (bel_al hd0.out _).drew b1'))); have hs1:=HS.out _ (HXL.out _ hb1.out); have hs1a:=HS.out _ (HXL.out _ (bel_al hb1.out (.cells #[.string ⟨#[]⟩,.bool false,.slice none 0 0,.slice none 0 0,.slice none 0 0] 27))); (first | (have HZ1:=hid (((Box.made Yp 27 #[.string ⟨#[]⟩,.bool false,.slice none 0 0,.slice none 0 0,.slice none 0 0]).drewN 1).later b1' ((Box.made Yp 27 #[.string ⟨#[]⟩,.bool false,.slice none 0 0,.slice none 0 0,.slice none 0 0]).drewN 1).lt)) | skip))
    | (go_at_call 7; (with_reducible refine Calls.mono (HWI.out t _ ht (by first | exact ot | exact ot.later (alloc_later _ _)) (by first | exact hb1.out | exact bel_al hb1.out _)) ?_); rintro e x2 ⟨r,rfl,hr,b2'⟩; have hz1:=hb1.out.size; (first | (have hb2:=hid (bt hb1.out b2')) | (have hb2:=hid (bt (bel_al hb1.out _) b2'))); have hz2:=hb2.out.size; have hs2:=HS.out _ (HXL.out _ hb2.out); have hs2a:=HS.out _ (HXL.out _ (bel_al hb2.out (.cells #[.string ⟨#[]⟩,.bool false,.slice none 0 0,.slice none 0 0,.slice none 0 0] 27))); (first | (have HZ2:=hid (HZ1.out.later b2' HZ1.out.lt); have hb3:=hid hb2.out) | (have HZ2:=hid ((Box.made x1 27 #[.string ⟨#[]⟩,.bool false,.slice none 0 0,.slice none 0 0,.slice none 0 0]).later b2' (Box.made x1 27 #[.string ⟨#[]⟩,.bool false,.slice none 0 0,.slice none 0 0,.slice none 0 0]).lt); have hb3:=hid hb2.out) | (have HZ2:=hid (Box.made x2 27 #[.string ⟨#[]⟩,.bool false,.slice none 0 0,.slice none 0 0,.slice none 0 0]); have hb3:=hid (bel_al hb2.out (.cells #[.string ⟨#[]⟩,.bool false,.slice none 0 0,.slice none 0 0,.slice none 0 0] 27)))); obtain ⟨A0,A1,A2,A3,A4,q0,q1,q2,q3,q4,⟨r0,r1,r2,r3,r4⟩,⟨f0,f1,f2,f3,f4⟩,HA⟩:=pchain5 HZ2.out (.string r.s) (.bool r.n) (.slice r.a r.xs.length r.ca) (.slice r.b r.ys.length r.cb) (.slice r.t r.ts.length r.ct); have hsA:=HS.out _ (HA.out.2.1 _ _ _ (by omega) (HXL.out _ hb3.out)); have hbA:=hid (HA.out.2.2.2.1 Yp.heap.size Yp (by omega) hb3.out)))
  all_goals
   clear hs0 hsa hs1 hs1a hs2 hs2a hsA HEX HWI HS HXL
   go_wp2_with fail
   go_meet
   exact ⟨rfl,hbA.out⟩
 case rest =>
  obtain ⟨hs5,hbw⟩:=hcut.out
  subst hs5
  have HCW:=hid hbw
  clear hcut HS HXL hd0 HEX HWI hbw
  have HW5:=hid (bt HW4.out HCW.out)
  have Hp5:=hid (Gp.out.later HCW.out Gp.out.lt)
  have Kq5:=hid (Kq4.out.later HCW.out)
  clear HW4 Gp Kq4
  go_wp2_with fail
  refine Calls.mono (hull_any wc) ?_
  rintro e w6 ⟨p6,rfl,hp,op,b1⟩
  have HW6:=hid (bt HW5.out b1)
  have Hp6:=hid (Hp5.out.later b1 Hp5.out.lt)
  have Kq6:=hid (Kq5.out.later b1)
  clear HW5 Hp5 Kq5
  have HPp6 : Hid (p6.v = hullV):=hp
  have K0p6:=hid op
  clear hp op b1
  obtain ⟨Yb6,hYb6⟩ : ∃ Y,w6.alloc (.cells #[.string p6.s,.bool p6.n,.slice p6.a p6.xs.length p6.ca,.slice p6.b p6.ys.length p6.cb,.slice p6.t p6.ts.length p6.ct] 27) = Y:=⟨_,rfl⟩
  have G0b6 : Hid (Box Yb6 w6.heap.size 27 #[.string p6.s,.bool p6.n,.slice p6.a p6.xs.length p6.ca,.slice p6.b p6.ys.length p6.cb,.slice p6.t p6.ts.length p6.ct]):=by
   subst hYb6
   exact Box.made w6 _ _
  obtain ⟨Zb6,hZb6⟩ : ∃ Z,Yb6.setCell ⟨w6.heap.size,0,none⟩ (.string ⟨#[49,120]⟩) = Z:=⟨_,rfl⟩
  have y0b6 : Yb6.cell? ⟨w6.heap.size,0,none⟩ = some (.string p6.s):=G0b6.out.cell 0
  have y1b6 : Yb6.frozen? ⟨w6.heap.size,0,none⟩ = false:=G0b6.out.free 0
  have Gb6 : Hid (Box Zb6 w6.heap.size 27 #[.string ⟨#[49,120]⟩,.bool p6.n,.slice p6.a p6.xs.length p6.ca,.slice p6.b p6.ys.length p6.cb,.slice p6.t p6.ts.length p6.ct]):=by
   subst hZb6
   exact G0b6.out.set 0 _
  have Lb6 : Hid (Below w6.heap.size w6 Zb6):=by
   subst hZb6 hYb6
   exact (alloc_later _ _).setCell (p:=⟨w6.heap.size,0,none⟩) (Nat.le_refl _) _
  clear G0b6
  have HW7:=hid (bt HW6.out Lb6.out)
  have Hp7:=hid (Hp6.out.later Lb6.out Hp6.out.lt)
  have Kq7:=hid (Kq6.out.later Lb6.out)
  have Kp67:=hid (K0p6.out.later Lb6.out)
  clear HW6 Hp6 Kq6 K0p6
  have cp0 : Zb6.cell? ⟨w3.heap.size,0,none⟩ = some (.string q.s):=Hp7.out.cell 0
  have cp1 : Zb6.cell? ⟨w3.heap.size,1,none⟩ = some (.bool q.n):=Hp7.out.cell 1
  have cp2 : Zb6.cell? ⟨w3.heap.size,2,none⟩ = some (.slice q.a q.xs.length q.ca):=Hp7.out.cell 2
  have cp3 : Zb6.cell? ⟨w3.heap.size,3,none⟩ = some (.slice q.b q.ys.length q.cb):=Hp7.out.cell 3
  have cp4 : Zb6.cell? ⟨w3.heap.size,4,none⟩ = some (.slice q.t q.ts.length q.ct):=Hp7.out.cell 4
  obtain ⟨Y7,hY7⟩ : ∃ Y7,Zb6.alloc (.cells #[.string q.s,.bool q.n,.slice q.a q.xs.length q.ca,.slice q.b q.ys.length q.cb,.slice q.t q.ts.length q.ct] 27) = Y7:=⟨_,rfl⟩
  have G7 : Hid (Box Y7 Zb6.heap.size 27 #[.string q.s,.bool q.n,.slice q.a q.xs.length q.ca,.slice q.b q.ys.length q.cb,.slice q.t q.ts.length q.ct]):=by
   subst hY7
   exact Box.made Zb6 _ _
  have B7 : Hid (Below Zb6.heap.size Zb6 Y7):=by
   subst hY7
   exact alloc_later _ _
  go_wp2_with fail
  refine Calls.mono (pexample_any Y7) ?_
  rintro e x1 ⟨ta,rfl,ht,ot,b1⟩
  have HTa : Hid (ta.v = exV):=ht
  have Oa:=hid ot
  have G71:=hid (G7.out.later b1 G7.out.lt)
  have B71:=hid (bt B7.out b1)
  clear ht ot b1 G7 B7
  clear y0b6 y1b6 cp0 cp1 cp2 cp3 cp4
  go_wp2_with fail
  refine Calls.mono (pexample_any x1) ?_
  rintro e x2 ⟨tb,rfl,ht,ot,b1⟩
  have HTb : Hid (tb.v = exV):=ht
  have Ob:=hid ot
  have Oa2:=hid (Oa.out.later b1)
  have G72:=hid (G71.out.later b1 G71.out.lt)
  have B72:=hid (bt B71.out b1)
  clear ht ot b1 G71 B71 Oa
  have hlt7 : Zb6.heap.size < x2.heap.size:=G72.out.lt
  obtain ⟨X3,hX3⟩ : ∃ X3,x2.alloc (.cells #[.string ta.s,.int .i32 ta.f,.int .i32 ta.r,.bool ta.n,.slice ta.a ta.xs.length ta.ca,.slice ta.b ta.ys.length ta.cb,.bool ta.m,.slice ta.c ta.us.length ta.cc,.slice ta.d ta.vs.length ta.cd,.string tb.s,.int .i32 tb.f,.int .i32 tb.r,.bool tb.n,.slice tb.a tb.xs.length tb.ca,.slice tb.b tb.ys.length tb.cb,.bool tb.m,.slice tb.c tb.us.length tb.cc,.slice tb.d tb.vs.length tb.cd] 37) = X3:=⟨_,rfl⟩
  have HL3 : Hid (Box X3 x2.heap.size 37 #[.string ta.s,.int .i32 ta.f,.int .i32 ta.r,.bool ta.n,.slice ta.a ta.xs.length ta.ca,.slice ta.b ta.ys.length ta.cb,.bool ta.m,.slice ta.c ta.us.length ta.cc,.slice ta.d ta.vs.length ta.cd,.string tb.s,.int .i32 tb.f,.int .i32 tb.r,.bool tb.n,.slice tb.a tb.xs.length tb.ca,.slice tb.b tb.ys.length tb.cb,.bool tb.m,.slice tb.c tb.us.length tb.cc,.slice tb.d tb.vs.length tb.cd]):=by
   subst hX3
   exact Box.made x2 _ _
  have B3 : Hid (Below x2.heap.size x2 X3):=by
   subst hX3
   exact alloc_later _ _
  have G73:=hid (G72.out.later B3.out G72.out.lt)
  have y0 : X3.cell? ⟨Zb6.heap.size,4,none⟩ = some (.slice q.t q.ts.length q.ct):=G73.out.cell 4
  have y1 : X3.frozen? ⟨Zb6.heap.size,4,none⟩ = false:=G73.out.free 4
  obtain ⟨Z7,hZ7⟩ : ∃ Z7,X3.setCell ⟨Zb6.heap.size,4,none⟩ (.slice (some ⟨x2.heap.size,0,none⟩) 2 2) = Z7:=⟨_,rfl⟩
  have G7Z : Hid (Box Z7 Zb6.heap.size 27 #[.string q.s,.bool q.n,.slice q.a q.xs.length q.ca,.slice q.b q.ys.length q.cb,.slice (some ⟨x2.heap.size,0,none⟩) 2 2]):=by
   subst hZ7
   exact G73.out.set 4 _
  have HLZ : Hid (Box Z7 x2.heap.size 37 #[.string ta.s,.int .i32 ta.f,.int .i32 ta.r,.bool ta.n,.slice ta.a ta.xs.length ta.ca,.slice ta.b ta.ys.length ta.cb,.bool ta.m,.slice ta.c ta.us.length ta.cc,.slice ta.d ta.vs.length ta.cd,.string tb.s,.int .i32 tb.f,.int .i32 tb.r,.bool tb.n,.slice tb.a tb.xs.length tb.ca,.slice tb.b tb.ys.length tb.cb,.bool tb.m,.slice tb.c tb.us.length tb.cc,.slice tb.d tb.vs.length tb.cd]):=by
   subst hZ7
   exact HL3.out.other ⟨Zb6.heap.size,4,none⟩ _ (by show x2.heap.size ≠ Zb6.heap.size; omega)
  have Ka0 : Hid (ta.ok Z7):=by
   subst hZ7
   exact TL.ok_putb (Oa2.out.later B3.out) G73.out (five_nou (fun x h => by cases h) (fun x h => by cases h) (fun x h => by cases h) (fun x h => by cases h) (fun x h => by cases h)) 4 _
  have Kb0 : Hid (tb.ok Z7):=by
   subst hZ7
   exact TL.ok_putb (Ob.out.later B3.out) G73.out (five_nou (fun x h => by cases h) (fun x h => by cases h) (fun x h => by cases h) (fun x h => by cases h) (fun x h => by cases h)) 4 _
  have B7Z : Hid (Below Zb6.heap.size Zb6 Z7):=by
   subst hZ7
   exact (bt B72.out B3.out).setCell (p:=⟨Zb6.heap.size,4,none⟩) (Nat.le_refl _) _
  clear G72 G73 B72 B3 HL3 Oa2 Ob
  have HW8:=hid (bt HW7.out B7Z.out)
  have Hp8:=hid (Hp7.out.later B7Z.out Hp7.out.lt)
  have Hb68:=hid (Gb6.out.later B7Z.out Gb6.out.lt)
  have Kq8:=hid (Kq7.out.later B7Z.out)
  have Kp68:=hid (Kp67.out.later B7Z.out)
  clear HW7 Hp7 Gb6 Kq7 Kp67
  go_wp2_with fail
  refine Calls.mono (hull_any Z7) ?_
  rintro e w8 ⟨p8,rfl,hp,op,b1⟩
  clear y0 y1
  have HW9:=hid (bt HW8.out b1)
  have Hp9:=hid (Hp8.out.later b1 Hp8.out.lt)
  have Hb69:=hid (Hb68.out.later b1 Hb68.out.lt)
  have Hb79:=hid (G7Z.out.later b1 G7Z.out.lt)
  have Hlt9:=hid (HLZ.out.later b1 HLZ.out.lt)
  have Kq9:=hid (Kq8.out.later b1)
  have Kp69:=hid (Kp68.out.later b1)
  have Kta9:=hid (Ka0.out.later b1)
  have Ktb9:=hid (Kb0.out.later b1)
  clear HW8 Hp8 Hb68 G7Z HLZ Kq8 Kp68 Ka0 Kb0
  have HPp8 : Hid (p8.v = hullV):=hp
  have K0p8:=hid op
  clear hp op b1
  go_wp2_with fail
  refine Calls.mono (kCheck_good HPp8.out K0p8.out hullV_good) ?_
  rintro e w9 ⟨rfl,b1⟩
  have HW10:=hid (bt HW9.out b1)
  have Hp10:=hid (Hp9.out.later b1 Hp9.out.lt)
  have Hb610:=hid (Hb69.out.later b1 Hb69.out.lt)
  have Hb710:=hid (Hb79.out.later b1 Hb79.out.lt)
  have Hlt10:=hid (Hlt9.out.later b1 Hlt9.out.lt)
  have Kq10:=hid (Kq9.out.later b1)
  have Kp610:=hid (Kp69.out.later b1)
  have Kta10:=hid (Kta9.out.later b1)
  have Ktb10:=hid (Ktb9.out.later b1)
  have Kp810:=hid (K0p8.out.later b1)
  clear HW9 Hp9 Hb69 Hb79 Hlt9 Kq9 Kp69 Kta9 Ktb9 K0p8
  clear b1
  have cb60 : w9.cell? ⟨w6.heap.size,0,none⟩ = some (.string ⟨#[49,120]⟩):=Hb610.out.cell 0
  have cb61 : w9.cell? ⟨w6.heap.size,1,none⟩ = some (.bool p6.n):=Hb610.out.cell 1
  have cb62 : w9.cell? ⟨w6.heap.size,2,none⟩ = some (.slice p6.a p6.xs.length p6.ca):=Hb610.out.cell 2
  have cb63 : w9.cell? ⟨w6.heap.size,3,none⟩ = some (.slice p6.b p6.ys.length p6.cb):=Hb610.out.cell 3
  have cb64 : w9.cell? ⟨w6.heap.size,4,none⟩ = some (.slice p6.t p6.ts.length p6.ct):=Hb610.out.cell 4
  go_wp2_with fail
  refine Calls.mono (kCheck_name (p:=(⟨⟨#[49,120]⟩,p6.n,p6.a,p6.ca,p6.xs,p6.b,p6.cb,p6.ys,p6.t,p6.ct,p6.ts⟩ : PL)) ⟨by show (2 : Nat) <= maxLen; unfold maxLen; decide,Kp610.out.sx,Kp610.out.sy,Kp610.out.len,Kp610.out.ts⟩ (by show tname [49,120] = false; decide +kernel)) ?_
  rintro e w10 ⟨rfl,b1⟩
  clear cb60 cb61 cb62 cb63 cb64
  have HW11:=hid (bt HW10.out b1)
  have Hp11:=hid (Hp10.out.later b1 Hp10.out.lt)
  have Hb611:=hid (Hb610.out.later b1 Hb610.out.lt)
  have Hb711:=hid (Hb710.out.later b1 Hb710.out.lt)
  have Hlt11:=hid (Hlt10.out.later b1 Hlt10.out.lt)
  have Kq11:=hid (Kq10.out.later b1)
  have Kp611:=hid (Kp610.out.later b1)
  have Kta11:=hid (Kta10.out.later b1)
  have Ktb11:=hid (Ktb10.out.later b1)
  clear HW10 Hp10 Hb610 Hb710 Hlt10 Kq10 Kp610 Kta10 Ktb10
  clear b1
  have cb70 : w10.cell? ⟨Zb6.heap.size,0,none⟩ = some (.string q.s):=Hb711.out.cell 0
  have cb71 : w10.cell? ⟨Zb6.heap.size,1,none⟩ = some (.bool q.n):=Hb711.out.cell 1
  have cb72 : w10.cell? ⟨Zb6.heap.size,2,none⟩ = some (.slice q.a q.xs.length q.ca):=Hb711.out.cell 2
  have cb73 : w10.cell? ⟨Zb6.heap.size,3,none⟩ = some (.slice q.b q.ys.length q.cb):=Hb711.out.cell 3
  have cb74 : w10.cell? ⟨Zb6.heap.size,4,none⟩ = some (.slice (some ⟨x2.heap.size,0,none⟩) 2 2):=Hb711.out.cell 4
  go_wp2_with fail
  refine Calls.mono (kCheck_twice HQ.out Kq11.out HTa.out HTb.out Kta11.out Ktb11.out Hlt11.out.lt (fun k hk => (Hlt11.out.cell k).trans (by match k,hk with | 0,_ | 1,_ | 2,_ | 3,_ | 4,_ | 5,_ | 6,_ | 7,_ | 8,_ => rfl)) (fun k hk => (Hlt11.out.cell (9 + k)).trans (by match k,hk with | 0,_ | 1,_ | 2,_ | 3,_ | 4,_ | 5,_ | 6,_ | 7,_ | 8,_ => rfl))) ?_
  rintro e w11 ⟨rfl,b1⟩
  clear cb70 cb71 cb72 cb73 cb74
  have HW12:=hid (bt HW11.out b1)
  have Hp12:=hid (Hp11.out.later b1 Hp11.out.lt)
  have Hb712:=hid (Hb711.out.later b1 Hb711.out.lt)
  have Hlt12:=hid (Hlt11.out.later b1 Hlt11.out.lt)
  have Kq12:=hid (Kq11.out.later b1)
  have Kta12:=hid (Kta11.out.later b1)
  have Ktb12:=hid (Ktb11.out.later b1)
  clear HW11 Hp11 Hb711 Hlt11 Kq11 Kta11 Ktb11
  clear b1
  have cp0 : w11.cell? ⟨w3.heap.size,0,none⟩ = some (.string q.s):=Hp12.out.cell 0
  have cp1 : w11.cell? ⟨w3.heap.size,1,none⟩ = some (.bool q.n):=Hp12.out.cell 1
  have cp2 : w11.cell? ⟨w3.heap.size,2,none⟩ = some (.slice q.a q.xs.length q.ca):=Hp12.out.cell 2
  have cp3 : w11.cell? ⟨w3.heap.size,3,none⟩ = some (.slice q.b q.ys.length q.cb):=Hp12.out.cell 3
  have cp4 : w11.cell? ⟨w3.heap.size,4,none⟩ = some (.slice q.t q.ts.length q.ct):=Hp12.out.cell 4
  go_wp2_with fail
  refine Calls.mono (kFind ⟨#[77,50]⟩ Kq12.out (by have:=(hx_one HQ.out).1; omega) (hx_find HQ.out)) ?_
  rintro e vfind ⟨rfl,b1⟩
  clear cp0 cp1 cp2 cp3 cp4
  have HW13:=hid (bt HW12.out b1)
  have Hp13:=hid (Hp12.out.later b1 Hp12.out.lt)
  have Kq13:=hid (Kq12.out.later b1)
  clear HW12 Hp12 Kq12
  clear b1
  have cp0 : vfind.cell? ⟨w3.heap.size,0,none⟩ = some (.string q.s):=Hp13.out.cell 0
  have cp1 : vfind.cell? ⟨w3.heap.size,1,none⟩ = some (.bool q.n):=Hp13.out.cell 1
  have cp2 : vfind.cell? ⟨w3.heap.size,2,none⟩ = some (.slice q.a q.xs.length q.ca):=Hp13.out.cell 2
  have cp3 : vfind.cell? ⟨w3.heap.size,3,none⟩ = some (.slice q.b q.ys.length q.cb):=Hp13.out.cell 3
  have cp4 : vfind.cell? ⟨w3.heap.size,4,none⟩ = some (.slice q.t q.ts.length q.ct):=Hp13.out.cell 4
  go_wp2_with fail
  refine Calls.mono (kFind ⟨#[83,50]⟩ Kq13.out (by have:=(hx_one HQ.out).1; omega) (hx_miss HQ.out)) ?_
  rintro e vmiss ⟨rfl,b1⟩
  clear cp0 cp1 cp2 cp3 cp4
  have HW14:=hid (bt HW13.out b1)
  have Hp14:=hid (Hp13.out.later b1 Hp13.out.lt)
  have Kq14:=hid (Kq13.out.later b1)
  clear HW13 Hp13 Kq13
  clear b1
  go_wp2_with fail
  refine Calls.mono (pexample_any vmiss) ?_
  rintro e v9 ⟨t9,rfl,ht,ot,b1⟩
  have HW15:=hid (bt HW14.out b1)
  have Hp15:=hid (Hp14.out.later b1 Hp14.out.lt)
  have Kq15:=hid (Kq14.out.later b1)
  clear HW14 Hp14 Kq14
  have HTt9 : Hid (t9.v = exV):=ht
  have K0t9:=hid ot
  clear ht ot b1
  go_wp2_with fail
  refine Calls.mono (kConj HTt9.out K0t9.out) ?_
  rintro e v10 ⟨u,rfl,hu,ou,b1⟩
  have HW16:=hid (bt HW15.out b1)
  have Hp16:=hid (Hp15.out.later b1 Hp15.out.lt)
  have Kq16:=hid (Kq15.out.later b1)
  have Kt916:=hid (K0t9.out.later b1)
  clear HW15 Hp15 Kq15 K0t9
  have HU:=hid hu
  have KU:=hid ou
  clear hu ou b1
  obtain ⟨Yb9,hYb9⟩ : ∃ Y,v10.alloc (.cells #[.string u.s,.int .i32 u.f,.int .i32 u.r,.bool u.n,.slice u.a u.xs.length u.ca,.slice u.b u.ys.length u.cb,.bool u.m,.slice u.c u.us.length u.cc,.slice u.d u.vs.length u.cd] 37) = Y:=⟨_,rfl⟩
  have G0b9 : Hid (Box Yb9 v10.heap.size 37 #[.string u.s,.int .i32 u.f,.int .i32 u.r,.bool u.n,.slice u.a u.xs.length u.ca,.slice u.b u.ys.length u.cb,.bool u.m,.slice u.c u.us.length u.cc,.slice u.d u.vs.length u.cd]):=by
   subst hYb9
   exact Box.made v10 _ _
  obtain ⟨Zb9,hZb9⟩ : ∃ Z,Yb9.setCell ⟨v10.heap.size,0,none⟩ (.string ⟨#[77,50,99]⟩) = Z:=⟨_,rfl⟩
  have y0b9 : Yb9.cell? ⟨v10.heap.size,0,none⟩ = some (.string u.s):=G0b9.out.cell 0
  have y1b9 : Yb9.frozen? ⟨v10.heap.size,0,none⟩ = false:=G0b9.out.free 0
  have Gb9 : Hid (Box Zb9 v10.heap.size 37 #[.string ⟨#[77,50,99]⟩,.int .i32 u.f,.int .i32 u.r,.bool u.n,.slice u.a u.xs.length u.ca,.slice u.b u.ys.length u.cb,.bool u.m,.slice u.c u.us.length u.cc,.slice u.d u.vs.length u.cd]):=by
   subst hZb9
   exact G0b9.out.set 0 _
  have Lb9 : Hid (Below v10.heap.size v10 Zb9):=by
   subst hZb9 hYb9
   exact (alloc_later _ _).setCell (p:=⟨v10.heap.size,0,none⟩) (Nat.le_refl _) _
  clear G0b9
  have HW17:=hid (bt HW16.out Lb9.out)
  have Hp17:=hid (Hp16.out.later Lb9.out Hp16.out.lt)
  have Kq17:=hid (Kq16.out.later Lb9.out)
  have Ku17:=hid (KU.out.later Lb9.out)
  clear HW16 Hp16 Kq16 KU
  have cp0 : Zb9.cell? ⟨w3.heap.size,0,none⟩ = some (.string q.s):=Hp17.out.cell 0
  have cp1 : Zb9.cell? ⟨w3.heap.size,1,none⟩ = some (.bool q.n):=Hp17.out.cell 1
  have cp2 : Zb9.cell? ⟨w3.heap.size,2,none⟩ = some (.slice q.a q.xs.length q.ca):=Hp17.out.cell 2
  have cp3 : Zb9.cell? ⟨w3.heap.size,3,none⟩ = some (.slice q.b q.ys.length q.cb):=Hp17.out.cell 3
  have cp4 : Zb9.cell? ⟨w3.heap.size,4,none⟩ = some (.slice q.t q.ts.length q.ct):=Hp17.out.cell 4
  have cb90 : Zb9.cell? ⟨v10.heap.size,0,none⟩ = some (.string ⟨#[77,50,99]⟩):=Gb9.out.cell 0
  have cb91 : Zb9.cell? ⟨v10.heap.size,1,none⟩ = some (.int .i32 u.f):=Gb9.out.cell 1
  have cb92 : Zb9.cell? ⟨v10.heap.size,2,none⟩ = some (.int .i32 u.r):=Gb9.out.cell 2
  have cb93 : Zb9.cell? ⟨v10.heap.size,3,none⟩ = some (.bool u.n):=Gb9.out.cell 3
  have cb94 : Zb9.cell? ⟨v10.heap.size,4,none⟩ = some (.slice u.a u.xs.length u.ca):=Gb9.out.cell 4
  have cb95 : Zb9.cell? ⟨v10.heap.size,5,none⟩ = some (.slice u.b u.ys.length u.cb):=Gb9.out.cell 5
  have cb96 : Zb9.cell? ⟨v10.heap.size,6,none⟩ = some (.bool u.m):=Gb9.out.cell 6
  have cb97 : Zb9.cell? ⟨v10.heap.size,7,none⟩ = some (.slice u.c u.us.length u.cc):=Gb9.out.cell 7
  have cb98 : Zb9.cell? ⟨v10.heap.size,8,none⟩ = some (.slice u.d u.vs.length u.cd):=Gb9.out.cell 8
  go_wp2_with fail
  refine Calls.mono (kWith_good (t:=(⟨⟨#[77,50,99]⟩,u.f,u.r,u.n,u.a,u.ca,u.xs,u.b,u.cb,u.ys,u.m,u.c,u.cc,u.us,u.d,u.cd,u.vs⟩ : TL)) HQ.out HU.out Kq17.out ⟨by show (3 : Nat) <= maxLen; unfold maxLen; decide,Ku17.out.rot,Ku17.out.sx,Ku17.out.sy,Ku17.out.su,Ku17.out.sv⟩ hx_good exC_chk (by decide) hc_good hc_ok) ?_
  rintro e v11 ⟨r,rfl,hr,kr,b1⟩
  clear y0b9 y1b9 cp0 cp1 cp2 cp3 cp4 cb90 cb91 cb92 cb93 cb94 cb95 cb96 cb97 cb98
  have HW18:=hid (bt HW17.out b1)
  have Hp18:=hid (Hp17.out.later b1 Hp17.out.lt)
  have Hb918:=hid (Gb9.out.later b1 Gb9.out.lt)
  have Kq18:=hid (Kq17.out.later b1)
  have Ku18:=hid (Ku17.out.later b1)
  clear HW17 Hp17 Gb9 Kq17 Ku17
  have HR : Hid (r.v = hcV):=hr
  have KR:=hid kr
  clear hr kr b1
  obtain ⟨Yr,hYr⟩ : ∃ Yr,v11.alloc (.cells #[.string r.s,.bool r.n,.slice r.a r.xs.length r.ca,.slice r.b r.ys.length r.cb,.slice r.t r.ts.length r.ct] 27) = Yr:=⟨_,rfl⟩
  have Gr : Hid (Box Yr v11.heap.size 27 #[.string r.s,.bool r.n,.slice r.a r.xs.length r.ca,.slice r.b r.ys.length r.cb,.slice r.t r.ts.length r.ct]):=by
   subst hYr
   exact Box.made v11 _ _
  have Lr : Hid (Below v11.heap.size v11 Yr):=by
   subst hYr
   exact alloc_later _ _
  have HW19:=hid (bt HW18.out Lr.out)
  have Hp19:=hid (Hp18.out.later Lr.out Hp18.out.lt)
  have Kq19:=hid (Kq18.out.later Lr.out)
  have Kr19:=hid (KR.out.later Lr.out)
  clear HW18 Hp18 Kq18 KR
  have cp0 : Yr.cell? ⟨w3.heap.size,0,none⟩ = some (.string q.s):=Hp19.out.cell 0
  have cp1 : Yr.cell? ⟨w3.heap.size,1,none⟩ = some (.bool q.n):=Hp19.out.cell 1
  have cp2 : Yr.cell? ⟨w3.heap.size,2,none⟩ = some (.slice q.a q.xs.length q.ca):=Hp19.out.cell 2
  have cp3 : Yr.cell? ⟨w3.heap.size,3,none⟩ = some (.slice q.b q.ys.length q.cb):=Hp19.out.cell 3
  have cp4 : Yr.cell? ⟨w3.heap.size,4,none⟩ = some (.slice q.t q.ts.length q.ct):=Hp19.out.cell 4
  go_wp2_with fail
  refine Calls.mono (kReal_no HQ.out Kq19.out) ?_
  rintro e v12 ⟨rfl,b1⟩
  clear cp0 cp1 cp2 cp3 cp4
  have HW20:=hid (bt HW19.out b1)
  have Hp20:=hid (Hp19.out.later b1 Hp19.out.lt)
  have Hr20:=hid (Gr.out.later b1 Gr.out.lt)
  have Kq20:=hid (Kq19.out.later b1)
  have Kr20:=hid (Kr19.out.later b1)
  clear HW19 Hp19 Gr Kq19 Kr19
  clear b1
  have cr0 : v12.cell? ⟨v11.heap.size,0,none⟩ = some (.string r.s):=Hr20.out.cell 0
  have cr1 : v12.cell? ⟨v11.heap.size,1,none⟩ = some (.bool r.n):=Hr20.out.cell 1
  have cr2 : v12.cell? ⟨v11.heap.size,2,none⟩ = some (.slice r.a r.xs.length r.ca):=Hr20.out.cell 2
  have cr3 : v12.cell? ⟨v11.heap.size,3,none⟩ = some (.slice r.b r.ys.length r.cb):=Hr20.out.cell 3
  have cr4 : v12.cell? ⟨v11.heap.size,4,none⟩ = some (.slice r.t r.ts.length r.ct):=Hr20.out.cell 4
  go_wp2_with fail
  refine Calls.mono (kReal_yes HR.out Kr20.out) ?_
  rintro e v13 ⟨rfl,b1⟩
  clear cr0 cr1 cr2 cr3 cr4
  have HW21:=hid (bt HW20.out b1)
  have Hp21:=hid (Hp20.out.later b1 Hp20.out.lt)
  have Hr21:=hid (Hr20.out.later b1 Hr20.out.lt)
  have Kq21:=hid (Kq20.out.later b1)
  have Kr21:=hid (Kr20.out.later b1)
  clear HW20 Hp20 Hr20 Kq20 Kr20
  clear b1
  go_wp2_with fail
  refine Calls.mono (hull_any v13) ?_
  rintro e v14 ⟨p14,rfl,hp,op,b1⟩
  have HW22:=hid (bt HW21.out b1)
  have Hp22:=hid (Hp21.out.later b1 Hp21.out.lt)
  have Kq22:=hid (Kq21.out.later b1)
  clear HW21 Hp21 Kq21
  have HPp14 : Hid (p14.v = hullV):=hp
  have K0p14:=hid op
  clear hp op b1
  go_wp2_with fail
  refine Calls.mono (kReal_hull HPp14.out K0p14.out) ?_
  rintro e v15 ⟨rfl,b1⟩
  have HW23:=hid (bt HW22.out b1)
  have Hp23:=hid (Hp22.out.later b1 Hp22.out.lt)
  have Kq23:=hid (Kq22.out.later b1)
  have Kp1423:=hid (K0p14.out.later b1)
  clear HW22 Hp22 Kq22 K0p14
  clear b1
  have cp0 : v15.cell? ⟨w3.heap.size,0,none⟩ = some (.string q.s):=Hp23.out.cell 0
  have cp1 : v15.cell? ⟨w3.heap.size,1,none⟩ = some (.bool q.n):=Hp23.out.cell 1
  have cp2 : v15.cell? ⟨w3.heap.size,2,none⟩ = some (.slice q.a q.xs.length q.ca):=Hp23.out.cell 2
  have cp3 : v15.cell? ⟨w3.heap.size,3,none⟩ = some (.slice q.b q.ys.length q.cb):=Hp23.out.cell 3
  have cp4 : v15.cell? ⟨w3.heap.size,4,none⟩ = some (.slice q.t q.ts.length q.ct):=Hp23.out.cell 4
  go_wp2_with fail
  refine Calls.mono (kWithout HQ.out Kq23.out) ?_
  rintro e v16 ⟨q15,rfl,_,b1⟩
  clear cp0 cp1 cp2 cp3 cp4
  have HW24:=hid (bt HW23.out b1)
  have Hp24:=hid (Hp23.out.later b1 Hp23.out.lt)
  have Kq24:=hid (Kq23.out.later b1)
  clear HW23 Hp23 Kq23
  clear b1
  obtain ⟨Yz15,hYz15⟩ : ∃ Yz15,v16.alloc (.cells #[.string q15.s,.bool q15.n,.slice q15.a q15.xs.length q15.ca,.slice q15.b q15.ys.length q15.cb,.slice q15.t q15.ts.length q15.ct] 27) = Yz15:=⟨_,rfl⟩
  have Gz15 : Hid (Box Yz15 v16.heap.size 27 #[.string q15.s,.bool q15.n,.slice q15.a q15.xs.length q15.ca,.slice q15.b q15.ys.length q15.cb,.slice q15.t q15.ts.length q15.ct]):=by
   subst hYz15
   exact Box.made v16 _ _
  have Lz15 : Hid (Below v16.heap.size v16 Yz15):=by
   subst hYz15
   exact alloc_later _ _
  have HW25:=hid (bt HW24.out Lz15.out)
  have Hp25:=hid (Hp24.out.later Lz15.out Hp24.out.lt)
  have Kq25:=hid (Kq24.out.later Lz15.out)
  clear HW24 Hp24 Kq24
  have cp0 : Yz15.cell? ⟨w3.heap.size,0,none⟩ = some (.string q.s):=Hp25.out.cell 0
  have cp1 : Yz15.cell? ⟨w3.heap.size,1,none⟩ = some (.bool q.n):=Hp25.out.cell 1
  have cp2 : Yz15.cell? ⟨w3.heap.size,2,none⟩ = some (.slice q.a q.xs.length q.ca):=Hp25.out.cell 2
  have cp3 : Yz15.cell? ⟨w3.heap.size,3,none⟩ = some (.slice q.b q.ys.length q.cb):=Hp25.out.cell 3
  have cp4 : Yz15.cell? ⟨w3.heap.size,4,none⟩ = some (.slice q.t q.ts.length q.ct):=Hp25.out.cell 4
  go_wp2_with fail
  refine Calls.mono (kMoved HQ.out Kq25.out) ?_
  rintro e v17 ⟨q16,rfl,_,b1⟩
  clear cp0 cp1 cp2 cp3 cp4
  have HW26:=hid (bt HW25.out b1)
  have Hp26:=hid (Hp25.out.later b1 Hp25.out.lt)
  have Kq26:=hid (Kq25.out.later b1)
  clear HW25 Hp25 Kq25
  clear b1
  obtain ⟨Yz16,hYz16⟩ : ∃ Yz16,v17.alloc (.cells #[.string q16.s,.bool q16.n,.slice q16.a q16.xs.length q16.ca,.slice q16.b q16.ys.length q16.cb,.slice q16.t q16.ts.length q16.ct] 27) = Yz16:=⟨_,rfl⟩
  have Gz16 : Hid (Box Yz16 v17.heap.size 27 #[.string q16.s,.bool q16.n,.slice q16.a q16.xs.length q16.ca,.slice q16.b q16.ys.length q16.cb,.slice q16.t q16.ts.length q16.ct]):=by
   subst hYz16
   exact Box.made v17 _ _
  have Lz16 : Hid (Below v17.heap.size v17 Yz16):=by
   subst hYz16
   exact alloc_later _ _
  have HW27:=hid (bt HW26.out Lz16.out)
  have Hp27:=hid (Hp26.out.later Lz16.out Hp26.out.lt)
  have Kq27:=hid (Kq26.out.later Lz16.out)
  clear HW26 Hp26 Kq26
  obtain ⟨Ys,hYs⟩ : ∃ Ys,Yz16.alloc (.cells #[.string ⟨#[]⟩,.string ⟨#[112,111,114,116,32,72,117,108,108,10]⟩,.string ⟨#[112,111,114,116,32,72,117,108,108,32,54,47,52,10]⟩,.string ⟨#[112,111,114,116,32,72,117,108,108,32,49]⟩,.string ⟨#[80,111,114,116,32,72,117,108,108,32,49,10]⟩,.string ⟨#[112,111,114,116,32,72,117,108,108,32,49,32,10]⟩] 9) = Ys:=⟨_,rfl⟩
  have Gs : Hid (Box Ys Yz16.heap.size 9 #[.string ⟨#[]⟩,.string ⟨#[112,111,114,116,32,72,117,108,108,10]⟩,.string ⟨#[112,111,114,116,32,72,117,108,108,32,54,47,52,10]⟩,.string ⟨#[112,111,114,116,32,72,117,108,108,32,49]⟩,.string ⟨#[80,111,114,116,32,72,117,108,108,32,49,10]⟩,.string ⟨#[112,111,114,116,32,72,117,108,108,32,49,32,10]⟩]):=by
   subst hYs
   exact Box.made Yz16 _ _
  have Ls : Hid (Below Yz16.heap.size Yz16 Ys):=by
   subst hYs
   exact alloc_later _ _
  have HW28:=hid (bt HW27.out Ls.out)
  clear HW27
  go_wp2_with fail
  go_loopw [162] (fun x wr => ∃ k : Nat,k <= 6 /\ x = .int .i64 (k : Int) /\ Hid (Below Ys.heap.size Ys wr)) (fun x _ => 6 - (intOf x).toNat)
  case atStart => exact ⟨0,Nat.zero_le _,rfl,Below.refl _ _⟩
  case round =>
   obtain ⟨k,hk,rfl,HBk⟩:=hrel
   have HW29:=hid (bt HW28.out HBk.out)
   have Hs29:=hid (Gs.out.later HBk.out Gs.out.lt)
   clear HW28 Gs
   by_cases hlt : k < 6
   · obtain ⟨s,hs,hc⟩ : ∃ s,s ∈ ytL /\ wr.cell? ⟨Yz16.heap.size,k,none⟩ = some (.string s):=by
      match k,hlt with
      | 0,_ => exact ⟨_,by unfold ytL; simp,Hs29.out.cell 0⟩
      | 1,_ => exact ⟨_,by unfold ytL; simp,Hs29.out.cell 1⟩
      | 2,_ => exact ⟨_,by unfold ytL; simp,Hs29.out.cell 2⟩
      | 3,_ => exact ⟨_,by unfold ytL; simp,Hs29.out.cell 3⟩
      | 4,_ => exact ⟨_,by unfold ytL; simp,Hs29.out.cell 4⟩
      | 5,_ => exact ⟨_,by unfold ytL; simp,Hs29.out.cell 5⟩
     have hk0 : (0 : Int) <= (k : Int):=by omega
     have hk1 : (k : Int) < 6:=by omega
     have HSM:=hid hs
     clear hs
     go_wp2_with fail
     refine Calls.mono (pParse_any s wr (HTAB.out _ HW29.out) (HERR.out _ HW29.out)) ?_
     rintro e x9 ⟨q1,v1,c1,z1,rfl,hr1,hm1⟩
     clear hc
     have HW30:=hid (bt HW29.out hm1.bel)
     have Hs30:=hid (Hs29.out.later hm1.bel Hs29.out.lt)
     clear HW29 Hs29
     obtain ⟨e1,e2⟩:=ytL_bad HSM.out hr1
     subst e1 e2
     have HBP:=hid hm1.bel
     clear hr1 hm1
     obtain ⟨W12,W13,A10,A11,A12,A13,A14,D10,D11,hw12,hw13,hz1,p10,p11,p12,p13,p14,d10,d11,⟨r10,r11,r12,r13,r14⟩,⟨e10,e11⟩,⟨f10,f11,f12,f13,f14⟩,⟨g10,g11⟩,HD1⟩:=ppair x9 q1 (240) (0)
     have Gf : Hid (Box D11 (x9.heap.size + 1) 40 #[.int .i64 (240),.int .i64 (0)]):=HD1.out.2.1
     have HW31:=hid (bt HW30.out HD1.out.2.2)
     have Hs31:=hid (Hs30.out.later HD1.out.2.2 Hs30.out.lt)
     clear HW30 Hs30
     have cf0 : D11.cell? ⟨(x9.heap.size + 1),0,none⟩ = some (.int .i64 (240)):=Gf.out.cell 0
     have cf1 : D11.cell? ⟨(x9.heap.size + 1),1,none⟩ = some (.int .i64 (0)):=Gf.out.cell 1
     have HBN:=hid (bt HBk.out (bt HBP.out HD1.out.2.2))
     go_wp2_with fail
     go_roundw
     case rel => exact ⟨k + 1,by omega,by go_num,HBN⟩
     case measure => simp [intOf]; omega
   · obtain rfl : k = 6:=by omega
     clear hlt
     go_wp2_with fail
     refine Calls.mono (kRepeat wr) ?_
     rintro e y1 ⟨t25,rfl,hsz,b1⟩
     have HW32:=hid (bt HW29.out b1)
     have Hs32:=hid (Hs29.out.later b1 Hs29.out.lt)
     clear HW29 Hs29
     clear b1
     go_wp2_with fail
     refine Calls.mono (pParse_any t25 y1 (HTAB.out _ HW32.out) (HERR.out _ HW32.out)) ?_
     rintro e y2 ⟨q2,v2,c2,z2,rfl,hr1,hm1⟩
     have HW33:=hid (bt HW32.out hm1.bel)
     have Hs33:=hid (Hs32.out.later hm1.bel Hs32.out.lt)
     clear HW32 Hs32
     obtain ⟨e1,e2⟩:=prs_long hr1 hsz.out
     subst e1 e2
     clear hr1 hm1
     obtain ⟨W22,W23,A20,A21,A22,A23,A24,D20,D21,hw22,hw23,hz2,p20,p21,p22,p23,p24,d20,d21,⟨r20,r21,r22,r23,r24⟩,⟨e20,e21⟩,⟨f20,f21,f22,f23,f24⟩,⟨g20,g21⟩,HD2⟩:=ppair y2 q2 (3) (-1)
     have Gf2 : Hid (Box D21 (y2.heap.size + 1) 40 #[.int .i64 (3),.int .i64 (-1)]):=HD2.out.2.1
     have HW34:=hid (bt HW33.out HD2.out.2.2)
     have Hs34:=hid (Hs33.out.later HD2.out.2.2 Hs33.out.lt)
     clear HW33 Hs33
     go_wp2_with fail
     refine Calls.mono (pParse_any ⟨#[112,111,114,116,32,72,117,108,108,32,49,10,77,50,32,50,32,49,32,49,32,48,10,77,50,32,51,32,49,32,49,32,48,10]⟩ D21 (HTAB.out _ HW34.out) (HERR.out _ HW34.out)) ?_
     rintro e y3 ⟨q3,v3,c3,z3,rfl,hr1,hm1⟩
     clear p20 p21 p22 p23 p24 d20 d21 r20 r21 r22 r23 r24 e20 e21 f20 f21 f22 f23 f24 g20 g21 hz2
     have HW35:=hid (bt HW34.out hm1.bel)
     have Hs35:=hid (Hs34.out.later hm1.bel Hs34.out.lt)
     have Hf235:=hid (Gf2.out.later hm1.bel Gf2.out.lt)
     clear HW34 Hs34 Gf2
     obtain ⟨e1,e2⟩:=prs_twice hr1
     subst e1 e2
     clear hr1 hm1
     obtain ⟨W32,W33,A30,A31,A32,A33,A34,D30,D31,hw32,hw33,hz3,p30,p31,p32,p33,p34,d30,d31,⟨r30,r31,r32,r33,r34⟩,⟨e30,e31⟩,⟨f30,f31,f32,f33,f34⟩,⟨g30,g31⟩,HD3⟩:=ppair y3 q3 (5) (2)
     have Gf3 : Hid (Box D31 (y3.heap.size + 1) 40 #[.int .i64 (5),.int .i64 (2)]):=HD3.out.2.1
     have HW36:=hid (bt HW35.out HD3.out.2.2)
     have Hs36:=hid (Hs35.out.later HD3.out.2.2 Hs35.out.lt)
     have Hf236:=hid (Hf235.out.later HD3.out.2.2 Hf235.out.lt)
     clear HW35 Hs35 Hf235
     go_wp2_with fail
     refine Calls.mono (pParse_any ⟨#[112,111,114,116,32,72,117,108,108,32,49,10,77,50,32,50,32,49,32,49,32,48]⟩ D31 (HTAB.out _ HW36.out) (HERR.out _ HW36.out)) ?_
     rintro e y4 ⟨q4,v4,c4,z4,rfl,hr1,hm1⟩
     clear p30 p31 p32 p33 p34 d30 d31 r30 r31 r32 r33 r34 e30 e31 f30 f31 f32 f33 f34 g30 g31 hz3
     have HW37:=hid (bt HW36.out hm1.bel)
     have Hs37:=hid (Hs36.out.later hm1.bel Hs36.out.lt)
     have Hf237:=hid (Hf236.out.later hm1.bel Hf236.out.lt)
     have Hf337:=hid (Gf3.out.later hm1.bel Gf3.out.lt)
     clear HW36 Hs36 Hf236 Gf3
     obtain ⟨e1,e2⟩:=prs_open hr1
     subst e1 e2
     clear hr1 hm1
     obtain ⟨W42,W43,A40,A41,A42,A43,A44,D40,D41,hw42,hw43,hz4,p40,p41,p42,p43,p44,d40,d41,⟨r40,r41,r42,r43,r44⟩,⟨e40,e41⟩,⟨f40,f41,f42,f43,f44⟩,⟨g40,g41⟩,HD4⟩:=ppair y4 q4 (240) (1)
     have Gf4 : Hid (Box D41 (y4.heap.size + 1) 40 #[.int .i64 (240),.int .i64 (1)]):=HD4.out.2.1
     have HW38:=hid (bt HW37.out HD4.out.2.2)
     have Hs38:=hid (Hs37.out.later HD4.out.2.2 Hs37.out.lt)
     have Hf238:=hid (Hf237.out.later HD4.out.2.2 Hf237.out.lt)
     have Hf338:=hid (Hf337.out.later HD4.out.2.2 Hf337.out.lt)
     clear HW37 Hs37 Hf237 Hf337
     go_wp2_with fail
     refine Calls.mono (plives_any D41 (HTAB.out _ HW38.out)) ?_
     rintro e y5 ⟨rfl,b1⟩
     clear p40 p41 p42 p43 p44 d40 d41 r40 r41 r42 r43 r44 e40 e41 f40 f41 f42 f43 f44 g40 g41 hz4
     have HW39:=hid (bt HW38.out b1)
     have Hs39:=hid (Hs38.out.later b1 Hs38.out.lt)
     have Hf239:=hid (Hf238.out.later b1 Hf238.out.lt)
     have Hf339:=hid (Hf338.out.later b1 Hf338.out.lt)
     have Hf439:=hid (Gf4.out.later b1 Gf4.out.lt)
     clear HW38 Hs38 Hf238 Hf338 Gf4
     clear b1
     have cf20 : y5.cell? ⟨(y2.heap.size + 1),0,none⟩ = some (.int .i64 (3)):=Hf239.out.cell 0
     have cf21 : y5.cell? ⟨(y2.heap.size + 1),1,none⟩ = some (.int .i64 (-1)):=Hf239.out.cell 1
     have cf30 : y5.cell? ⟨(y3.heap.size + 1),0,none⟩ = some (.int .i64 (5)):=Hf339.out.cell 0
     have cf31 : y5.cell? ⟨(y3.heap.size + 1),1,none⟩ = some (.int .i64 (2)):=Hf339.out.cell 1
     have cf40 : y5.cell? ⟨(y4.heap.size + 1),0,none⟩ = some (.int .i64 (240)):=Hf439.out.cell 0
     have cf41 : y5.cell? ⟨(y4.heap.size + 1),1,none⟩ = some (.int .i64 (1)):=Hf439.out.cell 1
     go_wp2_with fail
     go_ret
     exact ⟨rfl,HW39.out⟩
end Go.Proofs.YtnhmaijmmkplkaaGreatDoor
