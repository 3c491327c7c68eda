/- My texts on the way to PortNames, one behind the other: contracts of the program and of the document's answers. -/
import Derived.Test.YtnhmaijmmkplkaaGreatDoorK1
import Derived.Test.YtnhmaijmmkplkaaGreatDoorK2
import Derived.Test.YtnhmaijmmkplkaaGreatDoorK3
import Derived.Test.YtnhmaijmmkplkaaGreatDoorK4
import Derived.Test.YtnhmaijmmkplkaaGreatDoorK5
import Derived.Test.YtnhmaijmmkplkaaGreatDoorK6
import Derived.LoopN
import Derived.Deep.RegionHeld3
import Derived.Deep.RegionLaw
import Derived.Lib.SliceRun
import Derived.Laws.OwnMore
import Derived.WalkMore
namespace Go.Proofs.YtnhmaijmmkplkaaGreatDoor
set_option maxHeartbeats 6400000
open Go.RowKit
set_option linter.unusedVariables false
set_option linter.unusedSimpArgs false
theorem pzero9 {W : World} {b t : Nat} (h : Box W b t #[.string ⟨#[]⟩,.int .i32 0,.int .i32 0,.bool false,.slice none 0 0,.slice none 0 0,.bool false,.slice none 0 0,.slice none 0 0]) : (W.setCell ⟨b,0,none⟩ (.string ⟨#[]⟩) = W /\ W.setCell ⟨b,1,none⟩ (.int .i32 0) = W /\ W.setCell ⟨b,2,none⟩ (.int .i32 0) = W /\ W.setCell ⟨b,3,none⟩ (.bool false) = W /\ W.setCell ⟨b,4,none⟩ (.slice none 0 0) = W /\ W.setCell ⟨b,5,none⟩ (.slice none 0 0) = W /\ W.setCell ⟨b,6,none⟩ (.bool false) = W /\ W.setCell ⟨b,7,none⟩ (.slice none 0 0) = W /\ W.setCell ⟨b,8,none⟩ (.slice none 0 0) = W) /\ (W.cell? ⟨b,0,none⟩ = some (.string ⟨#[]⟩) /\ W.cell? ⟨b,1,none⟩ = some (.int .i32 0) /\ W.cell? ⟨b,2,none⟩ = some (.int .i32 0) /\ W.cell? ⟨b,3,none⟩ = some (.bool false) /\ W.cell? ⟨b,4,none⟩ = some (.slice none 0 0) /\ W.cell? ⟨b,5,none⟩ = some (.slice none 0 0) /\ W.cell? ⟨b,6,none⟩ = some (.bool false) /\ W.cell? ⟨b,7,none⟩ = some (.slice none 0 0) /\ W.cell? ⟨b,8,none⟩ = some (.slice none 0 0)) /\ (W.frozen? ⟨b,0,none⟩ = false /\ W.frozen? ⟨b,1,none⟩ = false /\ W.frozen? ⟨b,2,none⟩ = false /\ W.frozen? ⟨b,3,none⟩ = false /\ W.frozen? ⟨b,4,none⟩ = false /\ W.frozen? ⟨b,5,none⟩ = false /\ W.frozen? ⟨b,6,none⟩ = false /\ W.frozen? ⟨b,7,none⟩ = false /\ W.frozen? ⟨b,8,none⟩ = false) :=
 ⟨⟨h.same rfl,h.same rfl,h.same rfl,h.same rfl,h.same rfl,h.same rfl,h.same rfl,h.same rfl,h.same rfl⟩,⟨h.cell 0,h.cell 1,h.cell 2,h.cell 3,h.cell 4,h.cell 5,h.cell 6,h.cell 7,h.cell 8⟩,h.free 0,h.free 1,h.free 2,h.free 3,h.free 4,h.free 5,h.free 6,h.free 7,h.free 8⟩
def TV.q1 (t : TV) : Rat:=rq t.n t.xs t.ys
def TV.q2 (t : TV) : Rat:=rq t.m t.us t.vs
def TV.Is (v : TV) (q1 q2 : Rat) : Prop:=(rchk v.n v.xs v.ys = 0 /\ rq v.n v.xs v.ys = q1) /\ (rchk v.m v.us v.vs = 0 /\ rq v.m v.us v.vs = q2) /\ Wd v.xs /\ Wd v.ys /\ Wd v.us /\ Wd v.vs
def TV.zero : TV:=⟨⟨#[]⟩,0,0,false,[],[],false,[],[]⟩
def TL.zero : TL:=⟨⟨#[]⟩,0,0,false,none,0,[],none,0,[],false,none,0,[],none,0,[]⟩
theorem TL.zero_ow (W : World) (base : Nat) : TL.zero.g.Ow W base:=⟨World.ownsRow_nil _ _ _ _,World.ownsRow_nil _ _ _ _,World.ownsRow_nil _ _ _ _,World.ownsRow_nil _ _ _ _⟩
theorem TL.zero_in {x y : Nat} (h : x <= y) : TL.zero.g.In x y:=by
 have hk : ∀ a b : Value,a = .slice none 0 0 -> Kp a b:=fun a b e => by subst e; exact .inl rfl
 refine ⟨⟨hk _ _ rfl,hk _ _ rfl,hk _ _ rfl,hk _ _ rfl,hk _ _ rfl,hk _ _ rfl⟩,G6.four ?_ ?_ ?_ ?_⟩ <;> (intro g e; cases e)
theorem qin_wide {g : G6} {lo hi lo' hi' : Nat} (h : g.In lo hi) (h1 : lo' <= lo) (h2 : hi <= hi') : g.In lo' hi':=⟨h.1,fun j hj => by
 have q:=h.2 j hj
 intro b e
 have:=q b e
 omega⟩
def MvT (n : Int) (t v : TV) (c : Int) : Prop:=(mlong t.q1 t.q2 (oP t.f t.r n).1 (oP t.f t.r n).2 /\ c = 3) \/ (¬ mlong t.q1 t.q2 (oP t.f t.r n).1 (oP t.f t.r n).2 /\ c = 0 /\ v.s = t.s /\ v.f = t.f /\ v.r = t.r /\ v.Is (t.q1 * (oP t.f t.r n).1 - t.q2 * (oP t.f t.r n).2) (t.q1 * (oP t.f t.r n).2 + t.q2 * (oP t.f t.r n).1))
def TRet (R : TV -> Int -> Prop) (w : World) (e : Ending) (w' : World) : Prop:=∃ (u : TL) (c : Int),e = .returned (.tuple #[.agg #[.string u.s,.int .i32 u.f,.int .i32 u.r,.bool u.n,.slice u.a u.xs.length u.ca,.slice u.b u.ys.length u.cb,.bool u.m,.slice u.c u.us.length u.cc,.slice u.d u.vs.length u.cd],.int .i64 c]) /\ R u.v c /\ u.g.Ow w' w.heap.size /\ u.g.In w.heap.size w'.heap.size /\ Below w.heap.size w w'
set_option maxRecDepth 100000 in
theorem pmoved_any (t : TL) (n : Int) (w : World) (ht : t.ok w) (hk : t.chk = 0) (n0 : -1024 <= n) (n1 : n <= 1024) : Calls Tryz.prog 56 #[.agg t.cells,.int .i64 n] w (TRet (MvT n t.v) w):=by
 obtain ⟨X,hX⟩ : ∃ X,w.alloc (.cells #[.string t.s,.int .i32 t.f,.int .i32 t.r,.bool t.n,.slice t.a t.xs.length t.ca,.slice t.b t.ys.length t.cb,.bool t.m,.slice t.c t.us.length t.cc,.slice t.d t.vs.length t.cd] 37) = X:=⟨_,rfl⟩
 obtain ⟨Y,hY⟩ : ∃ Y,X.alloc (.cells #[.string ⟨#[]⟩,.int .i32 0,.int .i32 0,.bool false,.slice none 0 0,.slice none 0 0,.bool false,.slice none 0 0,.slice none 0 0] 37) = Y:=⟨_,rfl⟩
 have hXs : X.heap.size = w.heap.size + 1:=by subst hX; simp
 have HX : Hid (Box Y w.heap.size 37 #[.string t.s,.int .i32 t.f,.int .i32 t.r,.bool t.n,.slice t.a t.xs.length t.ca,.slice t.b t.ys.length t.cb,.bool t.m,.slice t.c t.us.length t.cc,.slice t.d t.vs.length t.cd]):=by
  subst hY hX
  exact (Box.made w _ _).later (alloc_later _ _) (Box.made w 37 _).lt
 have HR : Hid (Box Y (w.heap.size + 1) 37 #[.string ⟨#[]⟩,.int .i32 0,.int .i32 0,.bool false,.slice none 0 0,.slice none 0 0,.bool false,.slice none 0 0,.slice none 0 0]):=by
  rw [<- hXs]
  subst hY
  exact Box.made X _ _
 have HB : Hid (Below w.heap.size w Y):=by
  subst hY hX
  exact bt (alloc_later _ _) (alloc_later _ _)
 have HYs : Hid (w.heap.size + 1 < Y.heap.size):=HR.out.lt
 have hro:=(tchk_ok hk).2.1
 have hgc:=(tchk_ok hk).2.2
 have HP:=hid (oPower_any t.f t.r n Y (trok hro) n0 n1)
 have HM : Hid (∀ (g : G6) (V : World),Below Y.heap.size Y V -> g.Ow V Y.heap.size -> g.Is (oP t.f t.r n).1 (oP t.f t.r n).2 -> Calls Tryz.prog 108 #[.agg #[.bool t.n,.slice t.a t.xs.length t.ca,.slice t.b t.ys.length t.cb,.bool t.m,.slice t.c t.us.length t.cc,.slice t.d t.vs.length t.cd],.agg #[.bool g.n,.slice g.a g.xs.length g.ca,.slice g.b g.ys.length g.cb,.bool g.m,.slice g.c g.us.length g.cc,.slice g.d g.vs.length g.cd]] V (KGq V 0 (mlong t.v.q1 t.v.q2 (oP t.f t.r n).1 (oP t.f t.r n).2) (t.v.q1 * (oP t.f t.r n).1 - t.v.q2 * (oP t.f t.r n).2) (t.v.q1 * (oP t.f t.r n).2 + t.v.q2 * (oP t.f t.r n).1))):=fun g V hV hg hi => by
  have hs:=hg.sl hi
  have hv:=bt HB.out hV
  have q:=gMul_cut t.n t.a t.ca t.xs t.b t.cb t.ys t.m t.c t.cc t.us t.d t.cd t.vs g.n g.a g.ca g.xs g.b g.cb g.ys g.m g.c g.cc g.us g.d g.cd g.vs V (ht.sx.later hv) (ht.sy.later hv) (ht.su.later hv) (ht.sv.later hv) hs.1 hs.2.1 hs.2.2.1 hs.2.2.2
  rw [hgc,hi.chk,fstE_zero,hi.1.2,hi.2.1.2] at q
  exact Calls.mono q (fun x w' h => kgq_of h)
 have HD1 : Hid (mlong t.v.q1 t.v.q2 (oP t.f t.r n).1 (oP t.f t.r n).2 -> ∀ v,MvT n t.v v 3):=fun h v => .inl ⟨h,rfl⟩
 have HD2 : Hid (¬ mlong t.v.q1 t.v.q2 (oP t.f t.r n).1 (oP t.f t.r n).2 -> ∀ v : TV,v.s = t.v.s -> v.f = t.v.f -> v.r = t.v.r -> v.Is (t.v.q1 * (oP t.f t.r n).1 - t.v.q2 * (oP t.f t.r n).2) (t.v.q1 * (oP t.f t.r n).2 + t.v.q2 * (oP t.f t.r n).1) -> MvT n t.v v 0):=fun h v h1 h2 h3 h4 => .inr ⟨h,rfl,h1,h2,h3,h4⟩
 unfold TL.cells
 clear ht hk hro hgc n0 n1
 generalize MvT n t.v = R at *
 generalize (oP t.f t.r n).1 = P1 at *
 generalize (oP t.f t.r n).2 = P2 at *
 generalize mlong t.v.q1 t.v.q2 P1 P2 = ML at *
 generalize t.v.q1 * P1 - t.v.q2 * P2 = Z1 at *
 generalize t.v.q1 * P2 + t.v.q2 * P1 = Z2 at *
 have k1 : Y.cell? ⟨w.heap.size,1,none⟩ = some (.int .i32 t.f):=HX.out.cell 1
 have k2 : Y.cell? ⟨w.heap.size,2,none⟩ = some (.int .i32 t.r):=HX.out.cell 2
 go_enter Tryz.func56,Tryz.ntmps56
 go_wp2_with fail
 refine Calls.mono HP.out ?_
 rintro e w1 ⟨g,rfl,ho,hi,hb,_⟩
 obtain ⟨Q,hQ⟩ : ∃ Q,w1.alloc (.cells #[.bool g.n,.slice g.a g.xs.length g.ca,.slice g.b g.ys.length g.cb,.bool g.m,.slice g.c g.us.length g.cc,.slice g.d g.vs.length g.cd] 35) = Q:=⟨_,rfl⟩
 have HG : Hid (Box Q w1.heap.size 35 #[.bool g.n,.slice g.a g.xs.length g.ca,.slice g.b g.ys.length g.cb,.bool g.m,.slice g.c g.us.length g.cc,.slice g.d g.vs.length g.cd]):=by
  subst hQ
  exact Box.made w1 _ _
 have HBQ : Hid (Below w1.heap.size w1 Q):=by
  subst hQ
  exact alloc_later _ _
 have HYQ:=hid (bt hb.out HBQ.out)
 have HXQ:=hid (HX.out.later HYQ.out HX.out.lt)
 have HRQ:=hid (HR.out.later HYQ.out HR.out.lt)
 have HMQ:=hid (HM.out g Q HYQ.out (ho.out.later HBQ.out) hi.out)
 have HWQ:=hid (bt HB.out HYQ.out)
 have hw1 : Y.heap.size <= w1.heap.size:=hb.out.size
 clear HM HP ho hi hb HBQ k1 k2 HX HR
 have k3 : Q.cell? ⟨w.heap.size,3,none⟩ = some (.bool t.n):=HXQ.out.cell 3
 have k4 : Q.cell? ⟨w.heap.size,4,none⟩ = some (.slice t.a t.xs.length t.ca):=HXQ.out.cell 4
 have k5 : Q.cell? ⟨w.heap.size,5,none⟩ = some (.slice t.b t.ys.length t.cb):=HXQ.out.cell 5
 have k6 : Q.cell? ⟨w.heap.size,6,none⟩ = some (.bool t.m):=HXQ.out.cell 6
 have k7 : Q.cell? ⟨w.heap.size,7,none⟩ = some (.slice t.c t.us.length t.cc):=HXQ.out.cell 7
 have k8 : Q.cell? ⟨w.heap.size,8,none⟩ = some (.slice t.d t.vs.length t.cd):=HXQ.out.cell 8
 have g0 : Q.cell? ⟨w1.heap.size,0,none⟩ = some (.bool g.n):=HG.out.cell 0
 have g1 : Q.cell? ⟨w1.heap.size,1,none⟩ = some (.slice g.a g.xs.length g.ca):=HG.out.cell 1
 have g2 : Q.cell? ⟨w1.heap.size,2,none⟩ = some (.slice g.b g.ys.length g.cb):=HG.out.cell 2
 have g3 : Q.cell? ⟨w1.heap.size,3,none⟩ = some (.bool g.m):=HG.out.cell 3
 have g4 : Q.cell? ⟨w1.heap.size,4,none⟩ = some (.slice g.c g.us.length g.cc):=HG.out.cell 4
 have g5 : Q.cell? ⟨w1.heap.size,5,none⟩ = some (.slice g.d g.vs.length g.cd):=HG.out.cell 5
 go_wp2_with fail
 refine Calls.mono HMQ.out ?_
 rintro e w2 ⟨r,code,rfl,ho2,ht2,hin2,hb2⟩
 obtain ⟨Q2,hQ2⟩ : ∃ Q2,w2.alloc (.cells #[.bool r.n,.slice r.a r.xs.length r.ca,.slice r.b r.ys.length r.cb,.bool r.m,.slice r.c r.us.length r.cc,.slice r.d r.vs.length r.cd] 35) = Q2:=⟨_,rfl⟩
 have HG2 : Hid (Box Q2 w2.heap.size 35 #[.bool r.n,.slice r.a r.xs.length r.ca,.slice r.b r.ys.length r.cb,.bool r.m,.slice r.c r.us.length r.cc,.slice r.d r.vs.length r.cd]):=by
  subst hQ2
  exact Box.made w2 _ _
 have HBQ2 : Hid (Below w2.heap.size w2 Q2):=by
  subst hQ2
  exact alloc_later _ _
 have HQQ:=hid (bt hb2 HBQ2.out)
 have HX2:=hid (HXQ.out.later HQQ.out HXQ.out.lt)
 have HR2:=hid (HRQ.out.later HQQ.out HRQ.out.lt)
 have HW2:=hid (bt HWQ.out HQQ.out)
 have HO2 : Hid (r.Ow Q2 Q.heap.size):=ho2.out.later HBQ2.out
 have hsz : w.heap.size + 1 < Q.heap.size:=by have h1:=HYs.out; have h2:=HYQ.out.size; omega
 have HI2 : Hid (r.In Q.heap.size w2.heap.size):=hin2.out
 have hw2 : w2.heap.size <= Q2.heap.size:=HBQ2.out.size
 clear HMQ k3 k4 k5 k6 k7 k8 g0 g1 g2 g3 g4 g5 HG HXQ HRQ HWQ ho2 hin2 hb2
 by_cases hL : ML
 · have hc:=(ht2.out.long rfl hL).2
   subst hc
   have HE:=hid (HD1.out hL)
   clear hL HD2 ht2
   obtain ⟨⟨s0,s1,s2,s3,s4,s5,s6,s7,s8⟩,⟨x0,x1,x2,x3,x4,x5,x6,x7,x8⟩,⟨u0,u1,u2,u3,u4,u5,u6,u7,u8⟩⟩:=pzero9 HR2.out
   go_wp2_with fail
   exact bodyPost_ret (tres_run (by rfl) HR2.out _ rfl) rfl ⟨TL.zero,3,rfl,HE.out _,TL.zero_ow _ _,TL.zero_in HW2.out.size,HW2.out⟩
 · obtain ⟨hc,h1,h2⟩:=ht2.out.good rfl hL
   subst hc
   have HE:=hid (HD2.out hL ⟨t.s,t.f,t.r,r.n,r.xs,r.ys,r.m,r.us,r.vs⟩ rfl rfl rfl ⟨h1,h2,ht2.out.wd⟩)
   clear hL HD1 ht2 h1 h2
   have k0 : Q2.cell? ⟨w.heap.size,0,none⟩ = some (.string t.s):=HX2.out.cell 0
   have k1 : Q2.cell? ⟨w.heap.size,1,none⟩ = some (.int .i32 t.f):=HX2.out.cell 1
   have k2 : Q2.cell? ⟨w.heap.size,2,none⟩ = some (.int .i32 t.r):=HX2.out.cell 2
   have g0 : Q2.cell? ⟨w2.heap.size,0,none⟩ = some (.bool r.n):=HG2.out.cell 0
   have g1 : Q2.cell? ⟨w2.heap.size,1,none⟩ = some (.slice r.a r.xs.length r.ca):=HG2.out.cell 1
   have g2 : Q2.cell? ⟨w2.heap.size,2,none⟩ = some (.slice r.b r.ys.length r.cb):=HG2.out.cell 2
   have g3 : Q2.cell? ⟨w2.heap.size,3,none⟩ = some (.bool r.m):=HG2.out.cell 3
   have g4 : Q2.cell? ⟨w2.heap.size,4,none⟩ = some (.slice r.c r.us.length r.cc):=HG2.out.cell 4
   have g5 : Q2.cell? ⟨w2.heap.size,5,none⟩ = some (.slice r.d r.vs.length r.cd):=HG2.out.cell 5
   obtain ⟨A0,A1,A2,A3,A4,A5,A6,A7,A8,q0,q1,q2,q3,q4,q5,q6,q7,q8,⟨p0,p1,p2,p3,p4,p5,p6,p7,p8⟩,⟨f0,f1,f2,f3,f4,f5,f6,f7,f8⟩⟩:=tchain9 HR2.out (.string t.s) (.int .i32 t.f) (.int .i32 t.r) (.bool r.n) (.slice r.a r.xs.length r.ca) (.slice r.b r.ys.length r.cb) (.bool r.m) (.slice r.c r.us.length r.cc) (.slice r.d r.vs.length r.cd)
   have HA : Hid (Box A8 (w.heap.size + 1) 37 #[.string t.s,.int .i32 t.f,.int .i32 t.r,.bool r.n,.slice r.a r.xs.length r.ca,.slice r.b r.ys.length r.cb,.bool r.m,.slice r.c r.us.length r.cc,.slice r.d r.vs.length r.cd] /\ Below w.heap.size w A8 /\ A8.heap.size = Q2.heap.size /\ r.Ow A8 w.heap.size):=by
    have hb:=HR2.out
    have hw:=HW2.out
    have ho:=HO2.out.base (Nat.le_of_lt (Nat.lt_of_succ_lt hsz) : w.heap.size <= Q.heap.size)
    have hne : ∀ v : Value,∀ k l,Q2.ownsRow Q.heap.size 69 1 v k l -> ∀ g,v.ownBlock = some g -> g ≠ w.heap.size + 1:=fun v k l h g hg => by have:=(h.lt g hg).1; omega
    have h0:=HO2.out
    clear p0 p1 p2 p3 p4 p5 p6 p7 p8 f0 f1 f2 f3 f4 f5 f6 f7 f8
    subst q0 q1 q2 q3 q4 q5 q6 q7 q8
    have put : ∀ v k l,Q2.ownsRow Q.heap.size 69 1 v k l -> _:=fun v k l h => owns_base (own_put9 h (w.heap.size + 1) (hne v k l h) (.string t.s) (.int .i32 t.f) (.int .i32 t.r) (.bool r.n) (.slice r.a r.xs.length r.ca) (.slice r.b r.ys.length r.cb) (.bool r.m) (.slice r.c r.us.length r.cc) (.slice r.d r.vs.length r.cd)) (Nat.le_of_lt (Nat.lt_of_succ_lt hsz) : w.heap.size <= Q.heap.size)
    exact ⟨box_put9 hb _ _ _ _ _ _ _ _ _,below_put9 hw _ (by omega) _ _ _ _ _ _ _ _ _,by simp [World.setCell],put _ _ _ h0.1,put _ _ _ h0.2.1,put _ _ _ h0.2.2.1,put _ _ _ h0.2.2.2⟩
   clear HX2 HR2 HW2 HO2 HG2
   go_wp2_with fail
   refine bodyPost_ret (tres_run (by rfl) HA.out.1 _ rfl) rfl ⟨⟨t.s,t.f,t.r,r.n,r.a,r.ca,r.xs,r.b,r.cb,r.ys,r.m,r.c,r.cc,r.us,r.d,r.cd,r.vs⟩,0,rfl,HE.out,HA.out.2.2.2,?_,HA.out.2.1⟩
   exact qin_wide HI2.out (by omega) (by rw [HA.out.2.2.1]; exact hw2)
theorem tput9 {W A8 : World} {b base : Nat} {r : TL} (hb : Box W b 37 #[.string ⟨#[]⟩,.int .i32 0,.int .i32 0,.bool false,.slice none 0 0,.slice none 0 0,.bool false,.slice none 0 0,.slice none 0 0]) (hB : base <= b) {w : World} (hw : Below base w W) {r0 : Nat} (ho : r.g.Ow W r0) (hr : b < r0)
 (h : ((((((((W.setCell ⟨b,0,none⟩ (.string r.s)).setCell ⟨b,1,none⟩ (.int .i32 r.f)).setCell ⟨b,2,none⟩ (.int .i32 r.r)).setCell ⟨b,3,none⟩ (.bool r.n)).setCell ⟨b,4,none⟩ (.slice r.a r.xs.length r.ca)).setCell ⟨b,5,none⟩ (.slice r.b r.ys.length r.cb)).setCell ⟨b,6,none⟩ (.bool r.m)).setCell ⟨b,7,none⟩ (.slice r.c r.us.length r.cc)).setCell ⟨b,8,none⟩ (.slice r.d r.vs.length r.cd) = A8) : Box A8 b 37 r.cells /\ Below base w A8 /\ A8.heap.size = W.heap.size /\ r.g.Ow A8 r0:=by
 subst h
 have put : ∀ v k l,W.ownsRow r0 69 1 v k l -> _:=fun v k l h => own_put9 h b (fun g hg => by have:=(h.lt g hg).1; omega) (.string r.s) (.int .i32 r.f) (.int .i32 r.r) (.bool r.n) (.slice r.a r.xs.length r.ca) (.slice r.b r.ys.length r.cb) (.bool r.m) (.slice r.c r.us.length r.cc) (.slice r.d r.vs.length r.cd)
 exact ⟨box_put9 hb _ _ _ _ _ _ _ _ _,below_put9 hw _ hB _ _ _ _ _ _ _ _ _,by simp [World.setCell],put _ _ _ ho.1,put _ _ _ ho.2.1,put _ _ _ ho.2.2.1,put _ _ _ ho.2.2.2⟩
set_option maxRecDepth 100000 in
theorem pMovedC_any (t : TL) (n : Int) (g : Nat) (w : World) (ht : t.ok w) (hk : t.chk = 0) (n0 : -1024 <= n) (n1 : n <= 1024) (hg : Box w g 3 #[.int .i64 n]) : Calls Tryz.prog 55 #[.agg t.cells,.pointer (some ⟨g,0,none⟩)] w (TRet (MvT n t.v) w):=by
 obtain ⟨X,hX⟩ : ∃ X,w.alloc (.cells #[.string t.s,.int .i32 t.f,.int .i32 t.r,.bool t.n,.slice t.a t.xs.length t.ca,.slice t.b t.ys.length t.cb,.bool t.m,.slice t.c t.us.length t.cc,.slice t.d t.vs.length t.cd] 37) = X:=⟨_,rfl⟩
 obtain ⟨Y,hY⟩ : ∃ Y,X.alloc (.cells #[.string ⟨#[]⟩,.int .i32 0,.int .i32 0,.bool false,.slice none 0 0,.slice none 0 0,.bool false,.slice none 0 0,.slice none 0 0] 37) = Y:=⟨_,rfl⟩
 have hXs : X.heap.size = w.heap.size + 1:=by subst hX; simp
 have HBOX : Hid (Box Y w.heap.size 37 #[.string t.s,.int .i32 t.f,.int .i32 t.r,.bool t.n,.slice t.a t.xs.length t.ca,.slice t.b t.ys.length t.cb,.bool t.m,.slice t.c t.us.length t.cc,.slice t.d t.vs.length t.cd]):=by
  subst hY hX
  exact (Box.made w _ _).later (alloc_later _ _) (Box.made w 37 _).lt
 have HR : Hid (Box Y (w.heap.size + 1) 37 #[.string ⟨#[]⟩,.int .i32 0,.int .i32 0,.bool false,.slice none 0 0,.slice none 0 0,.bool false,.slice none 0 0,.slice none 0 0]):=by
  rw [<- hXs]
  subst hY
  exact Box.made X _ _
 have HB : Hid (Below w.heap.size w Y):=by
  subst hY hX
  exact bt (alloc_later _ _) (alloc_later _ _)
 have HYs : Hid (w.heap.size + 1 < Y.heap.size):=HR.out.lt
 have HC:=hid (pmoved_any t n Y (ht.later HB.out) hk n0 n1)
 generalize MvT n t.v = R at *
 have gg : Y.cell? ⟨g,0,none⟩ = some (.int .i64 n):=(hg.later HB.out hg.lt).cell 0
 have k0 : Y.cell? ⟨w.heap.size,0,none⟩ = some (.string t.s):=HBOX.out.cell 0
 have k1 : Y.cell? ⟨w.heap.size,1,none⟩ = some (.int .i32 t.f):=HBOX.out.cell 1
 have k2 : Y.cell? ⟨w.heap.size,2,none⟩ = some (.int .i32 t.r):=HBOX.out.cell 2
 have k3 : Y.cell? ⟨w.heap.size,3,none⟩ = some (.bool t.n):=HBOX.out.cell 3
 have k4 : Y.cell? ⟨w.heap.size,4,none⟩ = some (.slice t.a t.xs.length t.ca):=HBOX.out.cell 4
 have k5 : Y.cell? ⟨w.heap.size,5,none⟩ = some (.slice t.b t.ys.length t.cb):=HBOX.out.cell 5
 have k6 : Y.cell? ⟨w.heap.size,6,none⟩ = some (.bool t.m):=HBOX.out.cell 6
 have k7 : Y.cell? ⟨w.heap.size,7,none⟩ = some (.slice t.c t.us.length t.cc):=HBOX.out.cell 7
 have k8 : Y.cell? ⟨w.heap.size,8,none⟩ = some (.slice t.d t.vs.length t.cd):=HBOX.out.cell 8
 unfold TL.cells
 clear ht hk n0 n1 hg
 go_enter Tryz.func55,Tryz.ntmps55
 go_wp2_with fail
 refine Calls.mono HC.out ?_
 rintro e w1 ⟨u,c,rfl,hr,ho,hi,hb⟩
 have HR1:=hid (HR.out.later hb HR.out.lt)
 have HB1:=hid (bt HB.out hb)
 have HO:=hid ho
 have HI:=hid hi
 have HRR:=hid hr
 have hsz:=hb.size
 have hy:=HYs.out
 clear hb HC k0 k1 k2 k3 k4 k5 k6 k7 k8 gg HR HBOX ho hi hr
 obtain ⟨A0,A1,A2,A3,A4,A5,A6,A7,A8,q0,q1,q2,q3,q4,q5,q6,q7,q8,⟨p0,p1,p2,p3,p4,p5,p6,p7,p8⟩,⟨f0,f1,f2,f3,f4,f5,f6,f7,f8⟩⟩:=tchain9 HR1.out (.string u.s) (.int .i32 u.f) (.int .i32 u.r) (.bool u.n) (.slice u.a u.xs.length u.ca) (.slice u.b u.ys.length u.cb) (.bool u.m) (.slice u.c u.us.length u.cc) (.slice u.d u.vs.length u.cd)
 have HA:=hid (tput9 (A8:=A8) HR1.out (Nat.le_succ _) HB1.out HO.out hy (by rw [q0,q1,q2,q3,q4,q5,q6,q7,q8]))
 clear HR1 HB1 HO
 go_wp2_with fail
 exact bodyPost_ret (tres_run (by rfl) HA.out.1 _ rfl) rfl ⟨u,c,rfl,HRR.out,HA.out.2.2.2.base (by omega),qin_wide HI.out (by omega) (by rw [HA.out.2.2.1]; exact Nat.le_refl _),HA.out.2.1⟩
def CjT (t v : TV) (c : Int) : Prop:=c = 0 /\ v.s = t.s /\ v.f = t.f /\ v.r = -t.r /\ v.Is t.q1 (-t.q2)
theorem pConjC_any (t : TL) (w : World) (ht : t.ok w) (hk : t.chk = 0) : Calls Tryz.prog 12 #[.agg t.cells] w (TRet (CjT t.v) w):=by
 have hg:=(tchk_ok hk).2.2
 obtain ⟨g1,g2⟩:=gchk_ok hg
 have hl : ¬ (rlong (rq t.n t.xs t.ys) \/ rlong (-(rq t.m t.us t.vs))):=by
  rintro (h | h)
  · exact znotlong ht.sx.wd ht.sy.wd g1 h
  · exact znotlong ht.su.wd ht.sv.wd g2 (rlong_neg.1 h)
 refine Calls.mono (tConj_full t.s t.f t.r t.n t.a t.ca t.xs t.b t.cb t.ys t.m t.c t.cc t.us t.d t.cd t.vs w ht.size ht.rot ht.sx ht.sy ht.su ht.sv) ?_
 rintro x w' ⟨S,F,R,n,a,ca,xs,b,cb,ys,m,c,cc,us,d,cd,vs,code,rfl,ho,tt,hb,W1,k1,k2⟩
 obtain ⟨hc,e1,e2⟩:=tt.num.good hk hl
 obtain ⟨e3,e4,e5⟩:=tt.good hc
 have e : S = t.s:=ByteArray.ext (Array.toList_inj.1 e3)
 exact ⟨⟨S,F,R,n,a,ca,xs,b,cb,ys,m,c,cc,us,d,cd,vs⟩,code,rfl,⟨hc,e,e4,e5,e1,e2,tt.num.wd⟩,ho,G6.in_of (g:=⟨n,a,ca,xs,b,cb,ys,m,c,cc,us,d,cd,vs⟩) ho k1 k2,hb⟩
def FstI (q : Nat -> Bool) (n : Nat) (z : Int) : Prop:=(∃ i : Nat,i < n /\ z = i /\ q i = true /\ ∀ j,j < i -> q j = false) \/ (z = -1 /\ ∀ j,j < n -> q j = false)
theorem FstI.one {q : Nat -> Bool} {n : Nat} {z z' : Int} (h : FstI q n z) (h' : FstI q n z') : z = z':=by
 rcases h with ⟨i,hi,rfl,hq,hb⟩ | ⟨rfl,hb⟩ <;> rcases h' with ⟨j,hj,rfl,hq',hb'⟩ | ⟨rfl,hb'⟩
 · rcases Nat.lt_trichotomy i j with g | g | g
   · rw [hb' i g] at hq; cases hq
   · rw [g]
   · rw [hb j g] at hq'; cases hq'
 · rw [hb' i hi] at hq; cases hq
 · rw [hb j hj] at hq'; cases hq'
 · rfl
theorem pFind1_any (k : ByteArray) (t : TL) (g : Nat) (w : World) (hk : w.cell? ⟨g,0,none⟩ = some (.string k)) (hg : g < w.heap.size) : Calls Tryz.prog 47 #[.agg t.cells,.pointer (some ⟨g,0,none⟩)] w fun e w' => e = .returned (.bool (t.s.toList == k.toList)) /\ Below w.heap.size w w':=by
 unfold TL.cells
 go_enter Tryz.func47,Tryz.ntmps47
 go_wp2_with fail
 go_ret
 exact ⟨rfl,(Below.refl _ _).alloc (Nat.le_refl _) _⟩
set_option maxRecDepth 100000 in
theorem pindexF_any (g : Nat) (q : Nat -> Bool) (t : Option Addr) (n ct : Nat) (ts : List TL) (w : World) (hn : n <= 1000000) (hl : ts.length = n) (ht : RdT w t ts) (hC : ∀ j V,j < n -> Below w.heap.size w V -> Calls Tryz.prog 47 #[.agg (tT ts j).cells,.pointer (some ⟨g,0,none⟩)] V fun e w' => e = .returned (.bool (q j)) /\ Below V.heap.size V w') :
 Calls Tryz.prog 46 #[.slice t n ct,.func (.func 47) #[] #[.pointer (some ⟨g,0,none⟩)]] w fun e w' => ∃ z : Int,e = .returned (.int .i64 z) /\ FstI q n z /\ Below w.heap.size w w':=by
 have HX:=hid ht
 have HL:=hid hl
 have HC:=hid hC
 clear ht hl hC
 go_enter Tryz.func46,Tryz.ntmps46
 go_wp2_with fail
 go_loopw [8] (fun x wr => ∃ k : Nat,k <= n /\ x = .int .i64 (k : Int) /\ Hid (Below w.heap.size w wr) /\ Hid (∀ j,j < k -> q j = false)) (fun x _ => n - (intOf x).toNat)
 case atStart => exact ⟨0,Nat.zero_le _,rfl,Below.refl _ _,(fun j hj => by omega : ∀ j,j < 0 -> _)⟩
 case round =>
  obtain ⟨k,hk,rfl,HW,HT⟩:=hrel
  by_cases hlt : k < n
  · have hkx : k < ts.length:=by have:=HL.out; omega
    rcases HX.out.2 with h0 | ⟨bb,o,rfl,hg,hx⟩
    · rw [h0] at hkx; exact absurd hkx (by simp)
    have hci:=hx k _ (tT_at hkx)
    have HCk:=hid (HC.out k wr hlt HW.out)
    have e0:=(HW.out.cell (p:=⟨bb,o + k * 9 + 0,none⟩) hg).trans (hci 0 (by decide))
    have e1:=(HW.out.cell (p:=⟨bb,o + k * 9 + 1,none⟩) hg).trans (hci 1 (by decide))
    have e2:=(HW.out.cell (p:=⟨bb,o + k * 9 + 2,none⟩) hg).trans (hci 2 (by decide))
    have e3:=(HW.out.cell (p:=⟨bb,o + k * 9 + 3,none⟩) hg).trans (hci 3 (by decide))
    have e4:=(HW.out.cell (p:=⟨bb,o + k * 9 + 4,none⟩) hg).trans (hci 4 (by decide))
    have e5:=(HW.out.cell (p:=⟨bb,o + k * 9 + 5,none⟩) hg).trans (hci 5 (by decide))
    have e6:=(HW.out.cell (p:=⟨bb,o + k * 9 + 6,none⟩) hg).trans (hci 6 (by decide))
    have e7:=(HW.out.cell (p:=⟨bb,o + k * 9 + 7,none⟩) hg).trans (hci 7 (by decide))
    have e8:=(HW.out.cell (p:=⟨bb,o + k * 9 + 8,none⟩) hg).trans (hci 8 (by decide))
    clear hci hx
    generalize tT ts k = tt at *
    have c0 : wr.cell? ⟨bb,o + k * 9,none⟩ = some (.string tt.s):=e0
    have c1 : wr.cell? ⟨bb,o + k * 9 + 1,none⟩ = some (.int .i32 tt.f):=e1
    have c2 : wr.cell? ⟨bb,o + k * 9 + 2,none⟩ = some (.int .i32 tt.r):=e2
    have c3 : wr.cell? ⟨bb,o + k * 9 + 3,none⟩ = some (.bool tt.n):=e3
    have c4 : wr.cell? ⟨bb,o + k * 9 + 4,none⟩ = some (.slice tt.a tt.xs.length tt.ca):=e4
    have c5 : wr.cell? ⟨bb,o + k * 9 + 5,none⟩ = some (.slice tt.b tt.ys.length tt.cb):=e5
    have c6 : wr.cell? ⟨bb,o + k * 9 + 6,none⟩ = some (.bool tt.m):=e6
    have c7 : wr.cell? ⟨bb,o + k * 9 + 7,none⟩ = some (.slice tt.c tt.us.length tt.cc):=e7
    have c8 : wr.cell? ⟨bb,o + k * 9 + 8,none⟩ = some (.slice tt.d tt.vs.length tt.cd):=e8
    clear e0 e1 e2 e3 e4 e5 e6 e7 e8
    have hk1 : (k : Int) < (n : Int):=by omega
    go_wp2_with fail
    refine Calls.mono HCk.out ?_
    rintro e w2 ⟨rfl,hb⟩
    have HB:=hid (bt HW.out hb)
    clear hb c0 c1 c2 c3 c4 c5 c6 c7 c8 HCk
    cases hq : q k with
    | true =>
     have HR:=hid hq
     go_wp2_with fail
     go_ret
     exact ⟨(k : Int),rfl,.inl ⟨k,hlt,rfl,HR.out,HT.out⟩,HB.out⟩
    | false =>
     have HN : Hid (∀ j,j < k + 1 -> q j = false):=fun j hj => by
      rcases Nat.lt_or_ge j k with g1 | g1
      · exact HT.out j g1
      · obtain rfl : j = k:=by omega
        exact hq
     go_wp2_with fail
     go_roundw
     case rel => exact ⟨k + 1,by omega,by go_num,HB.out,HN⟩
     case measure => simp [intOf]; omega
  · obtain rfl : k = n:=by omega
    have hkk : ¬ (k : Int) < (k : Int):=by omega
    go_wp2_with fail
    go_ret
    exact ⟨-1,rfl,.inr ⟨rfl,HT.out⟩,HW.out⟩
set_option maxRecDepth 100000 in
theorem pFind_any (s : ByteArray) (n : Bool) (a : Option Addr) (ca : Nat) (xs : List Int) (b : Option Addr) (cb : Nat) (ys : List Int) (t : Option Addr) (ct : Nat) (ts : List TL) (k : ByteArray) (w : World) (hn : ts.length <= 1000000) (ht : RdT w t ts) :
 Calls Tryz.prog 11 #[.agg #[.string s,.bool n,.slice a xs.length ca,.slice b ys.length cb,.slice t ts.length ct],.string k] w fun e w' => ∃ z : Int,e = .returned (.int .i64 z) /\ FstI (fun j => (tT ts j).s.toList == k.toList) ts.length z /\ Below w.heap.size w w':=by
 obtain ⟨X,hX⟩ : ∃ X,w.alloc (.cells #[.string s,.bool n,.slice a xs.length ca,.slice b ys.length cb,.slice t ts.length ct] 27) = X:=⟨_,rfl⟩
 have HX : Hid (Box X w.heap.size 27 #[.string s,.bool n,.slice a xs.length ca,.slice b ys.length cb,.slice t ts.length ct]):=by
  subst hX
  exact Box.made w _ _
 obtain ⟨Y,hY⟩ : ∃ Y,X.alloc (.cells #[.string k] 9) = Y:=⟨_,rfl⟩
 have HK : Hid (Box Y X.heap.size 9 #[.string k]):=by
  subst hY
  exact Box.made X _ _
 have HY : Hid (Box Y w.heap.size 27 #[.string s,.bool n,.slice a xs.length ca,.slice b ys.length cb,.slice t ts.length ct]):=by
  subst hY
  exact HX.out.later (alloc_later _ _) HX.out.lt
 have HB : Hid (Below w.heap.size w Y):=by
  subst hY hX
  exact bt (alloc_later _ _) (alloc_later _ _)
 have HI:=hid (pindexF_any X.heap.size (fun j => (tT ts j).s.toList == k.toList) t ts.length ct ts Y hn rfl (ht.later HB.out) (fun j V hj hV => by
  have hk:=HK.out.later hV HK.out.lt
  exact pFind1_any k (tT ts j) X.heap.size V (hk.cell 0) hk.lt))
 have k4 : Y.cell? ⟨w.heap.size,4,none⟩ = some (.slice t ts.length ct):=HY.out.cell 4
 clear ht
 go_enter Tryz.func11,Tryz.ntmps11
 go_wp2_with fail
 refine Calls.mono HI.out ?_
 rintro e w1 ⟨z,rfl,hz,hb⟩
 have HZ:=hid hz
 have HB1:=hid (bt HB.out hb)
 clear hz hb
 go_wp2_with fail
 go_ret
 exact ⟨z,rfl,HZ.out,HB1.out⟩
def clB (u t : TL) : Bool:=(u.s.toList == t.s.toList) || (u.f == t.f && u.r == t.r)
set_option maxRecDepth 100000 in
theorem pClash1_any (t u : TL) (g : Nat) (w : World) (hk : Box w g 37 t.cells) : Calls Tryz.prog 99 #[.agg u.cells,.pointer (some ⟨g,0,none⟩)] w fun e w' => e = .returned (.bool (clB u t)) /\ Below w.heap.size w w':=by
 have HB:=hid ((Below.refl w.heap.size w).alloc (Nat.le_refl _) (.cells u.cells 37))
 have HX : Hid (Box (w.alloc (.cells u.cells 37)) w.heap.size 37 u.cells):=Box.made w _ _
 have HK : Hid (Box (w.alloc (.cells u.cells 37)) g 37 t.cells):=hk.later (alloc_later _ _) hk.lt
 obtain ⟨X,hX⟩ : ∃ X,w.alloc (.cells u.cells 37) = X:=⟨_,rfl⟩
 rw [hX] at HB HX HK
 unfold TL.cells at hX
 have a0 : X.cell? ⟨w.heap.size,0,none⟩ = some (.string u.s):=HX.out.cell 0
 have a1 : X.cell? ⟨w.heap.size,1,none⟩ = some (.int .i32 u.f):=HX.out.cell 1
 have a2 : X.cell? ⟨w.heap.size,2,none⟩ = some (.int .i32 u.r):=HX.out.cell 2
 have b0 : X.cell? ⟨g,0,none⟩ = some (.string t.s):=HK.out.cell 0
 have b1 : X.cell? ⟨g,1,none⟩ = some (.int .i32 t.f):=HK.out.cell 1
 have b2 : X.cell? ⟨g,2,none⟩ = some (.int .i32 t.r):=HK.out.cell 2
 have hro:=troEq u.f u.r t.f t.r X
 have HQ : Hid (clB u t = ((u.s.toList == t.s.toList) || (u.f == t.f && u.r == t.r))):=rfl
 generalize clB u t = Q at *
 unfold TL.cells
 clear hk
 cases hs : (u.s.toList == t.s.toList) with
 | true =>
  rw [hs] at HQ
  go_enter Tryz.func99,Tryz.ntmps99
  go_wp2_with fail
  go_ret
  exact ⟨ret_bool (HQ.out.trans (Bool.true_or _)).symm,HB.out⟩
 | false =>
  rw [hs] at HQ
  have HQ3 : Q = (u.f == t.f && u.r == t.r):=HQ.out.trans (Bool.false_or _)
  go_enter Tryz.func99,Tryz.ntmps99
  go_wp2_with fail
  all_goals go_ret
  all_goals (
   refine ⟨ret_bool ?_,HB.out⟩
   rw [HQ3]
   simp [*])
set_option maxRecDepth 100000 in
theorem pindexC_any (g : Nat) (q : Nat -> Bool) (t : Option Addr) (n ct : Nat) (ts : List TL) (w : World) (hn : n <= 1000000) (hl : ts.length = n) (ht : RdT w t ts) (hC : ∀ j V,j < n -> Below w.heap.size w V -> Calls Tryz.prog 99 #[.agg (tT ts j).cells,.pointer (some ⟨g,0,none⟩)] V fun e w' => e = .returned (.bool (q j)) /\ Below V.heap.size V w') :
 Calls Tryz.prog 46 #[.slice t n ct,.func (.func 99) #[] #[.pointer (some ⟨g,0,none⟩)]] w fun e w' => ∃ z : Int,e = .returned (.int .i64 z) /\ FstI q n z /\ Below w.heap.size w w':=by
 have HX:=hid ht
 have HL:=hid hl
 have HC:=hid hC
 clear ht hl hC
 go_enter Tryz.func46,Tryz.ntmps46
 go_wp2_with fail
 go_loopw [8] (fun x wr => ∃ k : Nat,k <= n /\ x = .int .i64 (k : Int) /\ Hid (Below w.heap.size w wr) /\ Hid (∀ j,j < k -> q j = false)) (fun x _ => n - (intOf x).toNat)
 case atStart => exact ⟨0,Nat.zero_le _,rfl,Below.refl _ _,(fun j hj => by omega : ∀ j,j < 0 -> _)⟩
 case round =>
  obtain ⟨k,hk,rfl,HW,HT⟩:=hrel
  by_cases hlt : k < n
  · have hkx : k < ts.length:=by have:=HL.out; omega
    rcases HX.out.2 with h0 | ⟨bb,o,rfl,hg,hx⟩
    · rw [h0] at hkx; exact absurd hkx (by simp)
    have hci:=hx k _ (tT_at hkx)
    have HCk:=hid (HC.out k wr hlt HW.out)
    have e0:=(HW.out.cell (p:=⟨bb,o + k * 9 + 0,none⟩) hg).trans (hci 0 (by decide))
    have e1:=(HW.out.cell (p:=⟨bb,o + k * 9 + 1,none⟩) hg).trans (hci 1 (by decide))
    have e2:=(HW.out.cell (p:=⟨bb,o + k * 9 + 2,none⟩) hg).trans (hci 2 (by decide))
    have e3:=(HW.out.cell (p:=⟨bb,o + k * 9 + 3,none⟩) hg).trans (hci 3 (by decide))
    have e4:=(HW.out.cell (p:=⟨bb,o + k * 9 + 4,none⟩) hg).trans (hci 4 (by decide))
    have e5:=(HW.out.cell (p:=⟨bb,o + k * 9 + 5,none⟩) hg).trans (hci 5 (by decide))
    have e6:=(HW.out.cell (p:=⟨bb,o + k * 9 + 6,none⟩) hg).trans (hci 6 (by decide))
    have e7:=(HW.out.cell (p:=⟨bb,o + k * 9 + 7,none⟩) hg).trans (hci 7 (by decide))
    have e8:=(HW.out.cell (p:=⟨bb,o + k * 9 + 8,none⟩) hg).trans (hci 8 (by decide))
    clear hci hx
    generalize tT ts k = tt at *
    have c0 : wr.cell? ⟨bb,o + k * 9,none⟩ = some (.string tt.s):=e0
    have c1 : wr.cell? ⟨bb,o + k * 9 + 1,none⟩ = some (.int .i32 tt.f):=e1
    have c2 : wr.cell? ⟨bb,o + k * 9 + 2,none⟩ = some (.int .i32 tt.r):=e2
    have c3 : wr.cell? ⟨bb,o + k * 9 + 3,none⟩ = some (.bool tt.n):=e3
    have c4 : wr.cell? ⟨bb,o + k * 9 + 4,none⟩ = some (.slice tt.a tt.xs.length tt.ca):=e4
    have c5 : wr.cell? ⟨bb,o + k * 9 + 5,none⟩ = some (.slice tt.b tt.ys.length tt.cb):=e5
    have c6 : wr.cell? ⟨bb,o + k * 9 + 6,none⟩ = some (.bool tt.m):=e6
    have c7 : wr.cell? ⟨bb,o + k * 9 + 7,none⟩ = some (.slice tt.c tt.us.length tt.cc):=e7
    have c8 : wr.cell? ⟨bb,o + k * 9 + 8,none⟩ = some (.slice tt.d tt.vs.length tt.cd):=e8
    clear e0 e1 e2 e3 e4 e5 e6 e7 e8
    have hk1 : (k : Int) < (n : Int):=by omega
    go_wp2_with fail
    refine Calls.mono HCk.out ?_
    rintro e w2 ⟨rfl,hb⟩
    have HB:=hid (bt HW.out hb)
    clear hb c0 c1 c2 c3 c4 c5 c6 c7 c8 HCk
    cases hq : q k with
    | true =>
     have HR:=hid hq
     go_wp2_with fail
     go_ret
     exact ⟨(k : Int),rfl,.inl ⟨k,hlt,rfl,HR.out,HT.out⟩,HB.out⟩
    | false =>
     have HN : Hid (∀ j,j < k + 1 -> q j = false):=fun j hj => by
      rcases Nat.lt_or_ge j k with g1 | g1
      · exact HT.out j g1
      · obtain rfl : j = k:=by omega
        exact hq
     go_wp2_with fail
     go_roundw
     case rel => exact ⟨k + 1,by omega,by go_num,HB.out,HN⟩
     case measure => simp [intOf]; omega
  · obtain rfl : k = n:=by omega
    have hkk : ¬ (k : Int) < (k : Int):=by omega
    go_wp2_with fail
    go_ret
    exact ⟨-1,rfl,.inr ⟨rfl,HT.out⟩,HW.out⟩
set_option maxRecDepth 100000 in
theorem pcontC_any (g : Nat) (q : Nat -> Bool) (t : Option Addr) (n ct : Nat) (ts : List TL) (w : World) (hn : n <= 1000000) (hl : ts.length = n) (ht : RdT w t ts) (hC : ∀ j V,j < n -> Below w.heap.size w V -> Calls Tryz.prog 99 #[.agg (tT ts j).cells,.pointer (some ⟨g,0,none⟩)] V fun e w' => e = .returned (.bool (q j)) /\ Below V.heap.size V w') :
 Calls Tryz.prog 50 #[.slice t n ct,.func (.func 99) #[] #[.pointer (some ⟨g,0,none⟩)]] w fun e w' => ∃ bo : Bool,e = .returned (.bool bo) /\ (bo = true ↔ ∃ j,j < n /\ q j = true) /\ Below w.heap.size w w':=by
 have HI:=hid (pindexC_any g q t n ct ts w hn hl ht hC)
 clear ht hC
 go_enter Tryz.func50,Tryz.ntmps50
 go_wp2_with fail
 refine Calls.mono HI.out ?_
 rintro e w1 ⟨z,rfl,hz,hb⟩
 have e0 : decide (0 <= z) = true ↔ ∃ j,j < n /\ q j = true:=by
  rw [decide_eq_true_iff]
  rcases hz with ⟨i,hi,rfl,hq,_⟩ | ⟨rfl,hb⟩
  · exact ⟨fun _ => ⟨i,hi,hq⟩,fun _ => by omega⟩
  · exact ⟨fun h => by omega,fun ⟨j,hj,h⟩ => by rw [hb j hj] at h; cases h⟩
 have HE:=hid e0
 have HB:=hid hb
 clear e0 hz hb
 go_wp2_with fail
 go_ret
 exact ⟨decide (0 <= z),rfl,HE.out,HB.out⟩
set_option maxRecDepth 100000 in
theorem pClashes_any (p : PL) (t : TL) (w : World) (hn : p.ts.length <= 1000000) (hp : p.ok w) :
 Calls Tryz.prog 42 #[.agg p.cells,.agg t.cells] w fun e w' => ∃ bo : Bool,e = .returned (.bool bo) /\ (bo = true ↔ ∃ j,j < p.ts.length /\ clB (tT p.ts j) t = true) /\ Below w.heap.size w w':=by
 obtain ⟨X,hX⟩ : ∃ X,w.alloc (.cells p.cells 27) = X:=⟨_,rfl⟩
 obtain ⟨Y,hY⟩ : ∃ Y,X.alloc (.cells t.cells 37) = Y:=⟨_,rfl⟩
 have HX : Hid (Box X w.heap.size 27 p.cells):=by
  subst hX
  exact Box.made w _ _
 have HK : Hid (Box Y X.heap.size 37 t.cells):=by
  subst hY
  exact Box.made X _ _
 have HY : Hid (Box Y w.heap.size 27 p.cells):=by
  subst hY
  exact HX.out.later (alloc_later _ _) HX.out.lt
 have HB : Hid (Below w.heap.size w Y):=by
  subst hY hX
  exact bt (alloc_later _ _) (alloc_later _ _)
 have HI:=hid (pcontC_any X.heap.size (fun j => clB (tT p.ts j) t) p.t p.ts.length p.ct p.ts Y hn rfl (hp.ts.later HB.out) (fun j V hj hV => pClash1_any t (tT p.ts j) X.heap.size V (HK.out.later hV HK.out.lt)))
 have k4 : Y.cell? ⟨w.heap.size,4,none⟩ = some (.slice p.t p.ts.length p.ct):=HY.out.cell 4
 unfold PL.cells at hX
 unfold TL.cells at hY
 unfold PL.cells TL.cells
 clear hp HX HK HY
 go_enter Tryz.func42,Tryz.ntmps42
 go_wp2_with fail
 refine Calls.mono HI.out ?_
 rintro e w1 ⟨bo,rfl,hz,hb⟩
 have HZ:=hid hz
 have HB1:=hid (bt HB.out hb)
 clear hz hb
 go_wp2_with fail
 go_ret
 exact ⟨bo,rfl,HZ.out,HB1.out⟩
theorem rwords {n : Bool} {xs ys : List Int} (h : rchk n xs ys = 0) : xs.length <= 2048 /\ ys.length <= 2048:=⟨(rchk_ok h).1,(rchk_ok h).2.1⟩
theorem TL.few_of {t : TL} (h : t.chk = 0) : t.v.few:=by
 obtain ⟨_,_,hg⟩:=tchk_ok h
 obtain ⟨g1,g2⟩:=gchk_ok hg
 have a:=rwords g1
 have b:=rwords g2
 show t.xs.length <= 1099511627776 /\ t.ys.length <= 1099511627776 /\ t.us.length <= 1099511627776 /\ t.vs.length <= 1099511627776
 omega
theorem phd_ok {l : List UInt8} {rc : Int} {k : Nat} (h : phd l rc k = 0) : tname l = true /\ rc = 0 /\ k <= 24:=by
 unfold phd at h
 by_cases hn : tname l = true
 · rw [if_pos hn] at h
   by_cases hr : rc = 0
   · rw [hr,fstE_zero] at h
     by_cases hk : 24 < k
     · rw [if_pos hk] at h; cases h
     · exact ⟨hn,hr,by omega⟩
   · rw [fstE_err _ hr] at h
     exact absurd h hr
 · rw [if_neg hn] at h; cases h
structure PL.good (p : PL) : Prop where
 nm : tname p.s.data.toList = true
 mean : rchk p.n p.xs p.ys = 0
 len : p.ts.length <= 24
 all : TOkTo p.ts p.ts.length
theorem PChk.good {p : PL} {z : Int} (h : PChk p.hd p.ts 0 z) : p.good /\ z = 0:=by
 rcases h with ⟨h0,h1,_⟩ | ⟨h0,h1⟩
 · exact absurd h1.symm h0
 · obtain ⟨a,b,c⟩:=phd_ok h0
   rcases h1 with ⟨i,_,_,_,⟨q,e⟩ | ⟨_,_,e⟩⟩ | ⟨hT,_,e⟩
   · exact absurd e.symm q
   · cases e
   · exact ⟨⟨a,b,c,hT⟩,e⟩
theorem PL.good.chk {p : PL} (h : p.good) : PChk p.hd p.ts 0 0:=by
 refine .inr ⟨?_,.inr ⟨h.all,rfl,rfl⟩⟩
 unfold PL.hd phd
 rw [if_pos h.nm,h.mean,fstE_zero,if_neg (by have:=h.len; omega)]
theorem PL.good.few {p : PL} (h : p.good) : p.v.few:=by
 have a:=rwords h.mean
 refine ⟨by show p.xs.length <= _; omega,by show p.ys.length <= _; omega,by show (p.ts.map TL.v).length <= _; rw [List.length_map]; have:=h.len; omega,fun t ht => ?_⟩
 obtain ⟨u,hu,rfl⟩:=List.mem_map.1 ht
 obtain ⟨j,hj,he⟩:=List.mem_iff_getElem.1 hu
 refine TL.few_of ?_
 have q:=(h.all j hj).1
 have e : tT p.ts j = u:=by
  have:=tT_at hj
  rw [List.getElem?_eq_getElem hj,he] at this
  exact (Option.some.inj this).symm
 rw [<- e]
 exact q
def PL.has (p : PL) (t : TL) : Prop:=∃ j,j < p.ts.length /\ clB (tT p.ts j) t = true
def WtE (p : PL) (t : TL) (c : Int) : Prop:=(∃ z,PChk p.hd p.ts c z /\ c ≠ 0) \/ (p.good /\ ((t.chk ≠ 0 /\ c = t.chk) \/ (t.chk = 0 /\ ((p.has t /\ c = 5) \/ (¬ p.has t /\ ((p.ts.length = 24 /\ c = 3) \/ (p.ts.length ≠ 24 /\ c = 0)))))))
def PV.more (p : PV) (t : TV) : PV:=⟨p.s,p.n,p.xs,p.ys,p.ts ++ [t]⟩
set_option maxRecDepth 100000 in
theorem pWith_any (p : PL) (t : TL) (w : World) (hp : p.ok w) (ht : t.ok w) : Calls Tryz.prog 7 #[.agg p.cells,.agg t.cells] w fun e w' => ∃ (q : PL) (c : Int),e = .returned (.tuple #[.agg q.cells,.int .i64 c]) /\ WtE p t c /\ Made q (if c = 0 then p.v.more t.v else PV.zero) w w':=by
 obtain ⟨i0,hi0,hz0,hz1,hz2⟩:=info_parts Tryz.infoT
 obtain ⟨X,hX⟩ : ∃ X,w.alloc (.cells p.cells 27) = X:=⟨_,rfl⟩
 obtain ⟨X2,hX2⟩ : ∃ X2,X.alloc (.cells t.cells 37) = X2:=⟨_,rfl⟩
 obtain ⟨Y,hY⟩ : ∃ Y,X2.alloc (.cells #[.string ⟨#[]⟩,.bool false,.slice none 0 0,.slice none 0 0,.slice none 0 0] 27) = Y:=⟨_,rfl⟩
 have hXs : X.heap.size = w.heap.size + 1:=by subst hX; simp
 have hXs2 : X2.heap.size = w.heap.size + 1 + 1:=by subst hX2; simp [hXs]
 have HX : Hid (Box Y w.heap.size 27 p.cells):=by
  subst hY hX2 hX
  exact (Box.made w _ _).later (bt (alloc_later _ _) (alloc_later _ _)) (Box.made w 27 _).lt
 have HT : Hid (Box Y (w.heap.size + 1) 37 t.cells):=by
  rw [<- hXs]
  subst hY hX2
  exact (Box.made X _ _).later (alloc_later _ _) (Box.made X 37 _).lt
 have HR : Hid (Box Y (w.heap.size + 1 + 1) 27 #[.string ⟨#[]⟩,.bool false,.slice none 0 0,.slice none 0 0,.slice none 0 0]):=by
  rw [<- hXs2]
  subst hY
  exact Box.made X2 _ _
 have HB : Hid (Below w.heap.size w Y):=by
  subst hY hX2 hX
  exact bt (alloc_later _ _) (bt (alloc_later _ _) (alloc_later _ _))
 have HYs : Hid (w.heap.size + 1 + 1 < Y.heap.size):=HR.out.lt
 have HC1:=hid (plcheck_any p Y (hp.later HB.out))
 have HC2 : Hid (∀ V,Below Y.heap.size Y V -> Calls Tryz.prog 41 #[.agg t.cells] V fun e w' => e = .returned (.int .i64 t.chk) /\ Below V.heap.size V w'):=fun V hV => tlcheck_any t V (ht.later (bt HB.out hV))
 have HC3 : Hid (p.good -> ∀ V,Below Y.heap.size Y V -> Calls Tryz.prog 42 #[.agg p.cells,.agg t.cells] V fun e w' => ∃ bo : Bool,e = .returned (.bool bo) /\ (bo = true ↔ p.has t) /\ Below V.heap.size V w'):=fun h V hV => pClashes_any p t V (by have:=h.len; omega) (hp.later (bt HB.out hV))
 have HC4 : Hid (p.good -> ∀ V,Below Y.heap.size Y V -> Calls Tryz.prog 43 #[.agg p.cells] V fun e w' => ∃ q : PL,e = .returned (.agg #[.string q.s,.bool q.n,.slice q.a q.xs.length q.ca,.slice q.b q.ys.length q.cb,.slice q.t q.ts.length q.ct]) /\ Made q p.v V w'):=fun h V hV => pCopied_any p V (hp.later (bt HB.out hV)) h.few
 have HC5 : Hid (t.chk = 0 -> ∀ V,Below Y.heap.size Y V -> Calls Tryz.prog 44 #[.agg #[.string t.s,.int .i32 t.f,.int .i32 t.r,.bool t.n,.slice t.a t.xs.length t.ca,.slice t.b t.ys.length t.cb,.bool t.m,.slice t.c t.us.length t.cc,.slice t.d t.vs.length t.cd]] V fun e w' => ∃ u : TL,e = .returned (.agg #[.string u.s,.int .i32 u.f,.int .i32 u.r,.bool u.n,.slice u.a u.xs.length u.ca,.slice u.b u.ys.length u.cb,.bool u.m,.slice u.c u.us.length u.cc,.slice u.d u.vs.length u.cd]) /\ u.v = t.v /\ u.g.Ow w' V.heap.size /\ u.g.In V.heap.size w'.heap.size /\ Below V.heap.size V w'):=fun h V hV => tlcopy_any t V (ht.later (bt HB.out hV)) (TL.few_of h)
 have HG : Hid (∀ z,PChk p.hd p.ts 0 z -> p.good):=fun z h => h.good.1
 have HE1 : Hid (∀ c z,PChk p.hd p.ts c z -> c ≠ 0 -> WtE p t c):=fun c z h h0 => .inl ⟨z,h,h0⟩
 have HE2 : Hid (p.good -> t.chk ≠ 0 -> WtE p t t.chk):=fun h h0 => .inr ⟨h,.inl ⟨h0,rfl⟩⟩
 have HE3 : Hid (p.good -> t.chk = 0 -> p.has t -> WtE p t 5):=fun h h0 h1 => .inr ⟨h,.inr ⟨h0,.inl ⟨h1,rfl⟩⟩⟩
 have HE4 : Hid (p.good -> t.chk = 0 -> ¬ p.has t -> p.ts.length = 24 -> WtE p t 3):=fun h h0 h1 h2 => .inr ⟨h,.inr ⟨h0,.inr ⟨h1,.inl ⟨h2,rfl⟩⟩⟩⟩
 have HE5 : Hid (p.good -> t.chk = 0 -> ¬ p.has t -> p.ts.length ≠ 24 -> WtE p t 0):=fun h h0 h1 h2 => .inr ⟨h,.inr ⟨h0,.inr ⟨h1,.inr ⟨h2,rfl⟩⟩⟩⟩
 have HKP : Hid (∀ V,Box V w.heap.size 27 p.cells -> V.cell? ⟨w.heap.size,0,none⟩ = some (.string p.s) /\ V.cell? ⟨w.heap.size,1,none⟩ = some (.bool p.n) /\ V.cell? ⟨w.heap.size,2,none⟩ = some (.slice p.a p.xs.length p.ca) /\ V.cell? ⟨w.heap.size,3,none⟩ = some (.slice p.b p.ys.length p.cb) /\ V.cell? ⟨w.heap.size,4,none⟩ = some (.slice p.t p.ts.length p.ct)):=fun V h => ⟨h.cell 0,h.cell 1,h.cell 2,h.cell 3,h.cell 4⟩
 have HKT : Hid (∀ V,Box V (w.heap.size + 1) 37 t.cells -> V.cell? ⟨w.heap.size + 1,0,none⟩ = some (.string t.s) /\ V.cell? ⟨w.heap.size + 1,1,none⟩ = some (.int .i32 t.f) /\ V.cell? ⟨w.heap.size + 1,2,none⟩ = some (.int .i32 t.r) /\ V.cell? ⟨w.heap.size + 1,3,none⟩ = some (.bool t.n) /\ V.cell? ⟨w.heap.size + 1,4,none⟩ = some (.slice t.a t.xs.length t.ca) /\ V.cell? ⟨w.heap.size + 1,5,none⟩ = some (.slice t.b t.ys.length t.cb) /\ V.cell? ⟨w.heap.size + 1,6,none⟩ = some (.bool t.m) /\ V.cell? ⟨w.heap.size + 1,7,none⟩ = some (.slice t.c t.us.length t.cc) /\ V.cell? ⟨w.heap.size + 1,8,none⟩ = some (.slice t.d t.vs.length t.cd)):=fun V h => ⟨h.cell 0,h.cell 1,h.cell 2,h.cell 3,h.cell 4,h.cell 5,h.cell 6,h.cell 7,h.cell 8⟩
 clear hp ht
 obtain ⟨k0,k1,k2,k3,k4⟩:=HKP.out _ HX.out
 go_enter Tryz.func7,Tryz.ntmps7
 go_wp2_with fail
 refine Calls.mono HC1.out ?_
 rintro e w1 ⟨c,z,rfl,hc,b1⟩
 have HX1:=hid (HX.out.later b1 HX.out.lt)
 have HT1:=hid (HT.out.later b1 HT.out.lt)
 have HR1:=hid (HR.out.later b1 HR.out.lt)
 obtain ⟨W2,hW2⟩ : ∃ W2,w1.alloc (.cells #[.int .i64 0,.int .i64 0] 40) = W2:=⟨_,rfl⟩
 have HF : Hid (Box W2 w1.heap.size 40 #[.int .i64 0,.int .i64 0]):=by
  subst hW2
  exact Box.made w1 _ _
 have HB2 : Hid (Below w1.heap.size w1 W2):=by
  subst hW2
  exact alloc_later _ _
 have hs1 : Y.heap.size <= w1.heap.size:=b1.size
 obtain ⟨A0,A1,q0,q1,⟨r0,r1⟩,⟨v0,v1⟩,HA⟩:=rchain2 HF.out (by decide) (.int .i64 c) (.int .i64 z)
 have hy:=HYs.out
 have HYA : Hid (Below Y.heap.size Y A1):=HA.out.2.2.2.1 _ _ hs1 (bt b1 HB2.out)
 have HXA:=hid (HA.out.2.1 _ _ _ (show w.heap.size ≠ w1.heap.size by omega) (HX1.out.later HB2.out HX1.out.lt))
 have HTA:=hid (HA.out.2.1 _ _ _ (show w.heap.size + 1 ≠ w1.heap.size by omega) (HT1.out.later HB2.out HT1.out.lt))
 have HRA:=hid (HA.out.2.1 _ _ _ (show w.heap.size + 1 + 1 ≠ w1.heap.size by omega) (HR1.out.later HB2.out HR1.out.lt))
 have HBA:=hid (bt HB.out HYA.out)
 have y0 : A1.cell? ⟨w1.heap.size,0,none⟩ = some (.int .i64 c):=HA.out.1.cell 0
 have HCK:=hid hc
 clear b1 HC1 k0 k1 k2 k3 k4 HX1 HT1 HR1 HF HB2 HX HT HR hc
 by_cases hc0 : c = 0
 · subst hc0
   have hG:=HG.out _ HCK.out
   obtain ⟨m0,m1,m2,m3,m4,m5,m6,m7,m8⟩:=HKT.out _ HTA.out
   go_wp2_with fail
   refine Calls.mono (HC2.out A1 HYA.out) ?_
   rintro e w2 ⟨rfl,b2⟩
   have HX2:=hid (HXA.out.later b2 HXA.out.lt)
   have HT2:=hid (HTA.out.later b2 HTA.out.lt)
   have HR2:=hid (HRA.out.later b2 HRA.out.lt)
   have HY2:=hid (bt HYA.out b2)
   have HB2:=hid (bt HBA.out b2)
   clear b2 m0 m1 m2 m3 m4 m5 m6 m7 m8 HXA HTA HRA HYA HBA HC2 q0 q1 r0 r1 v0 v1 y0 HA HCK HE1 hW2 hs1
   by_cases hk : t.chk = 0
   · rw [hk]
     obtain ⟨k0,k1,k2,k3,k4⟩:=HKP.out _ HX2.out
     obtain ⟨m0,m1,m2,m3,m4,m5,m6,m7,m8⟩:=HKT.out _ HT2.out
     go_wp2_with fail
     refine Calls.mono (HC3.out hG w2 HY2.out) ?_
     rintro e w3 ⟨bo,rfl,hbo,b3⟩
     have HX3:=hid (HX2.out.later b3 HX2.out.lt)
     have HT3:=hid (HT2.out.later b3 HT2.out.lt)
     have HR3:=hid (HR2.out.later b3 HR2.out.lt)
     have HY3:=hid (bt HY2.out b3)
     have HB3:=hid (bt HB2.out b3)
     have HBO:=hid hbo
     clear hbo b3 k0 k1 k2 k3 k4 m0 m1 m2 m3 m4 m5 m6 m7 m8 HX2 HT2 HR2 HY2 HB2 HC3 HE2
     cases bo with
     | true =>
      have HE:=hid (HE3.out hG hk (HBO.out.1 rfl))
      obtain ⟨⟨s0,s1,s2,s3,s4⟩,⟨x0,x1,x2,x3,x4⟩,⟨u0,u1,u2,u3,u4⟩⟩:=pzero5 HR3.out
      clear HX3 HT3 HC4 HC5 HKP HKT
      go_wp2_with fail
      exact bodyPost_ret (pres_run (by rfl) HR3.out _ rfl) rfl ⟨PL.zero,5,rfl,HE.out,by rw [if_neg (by decide)]; exact Made.none HB3.out⟩
     | false =>
      have hnh : ¬ p.has t:=fun h => by have:=HBO.out.2 h; cases this
      obtain ⟨k0,k1,k2,k3,k4⟩:=HKP.out _ HX3.out
      by_cases hN : p.ts.length = 24
      · have hN' : (p.ts.length : Int) = 24:=by omega
        have HE:=hid (HE4.out hG hk hnh hN)
        obtain ⟨⟨s0,s1,s2,s3,s4⟩,⟨x0,x1,x2,x3,x4⟩,⟨u0,u1,u2,u3,u4⟩⟩:=pzero5 HR3.out
        clear HX3 HT3 HC4 HC5 HKP HKT
        go_wp2_with fail
        exact bodyPost_ret (pres_run (by rfl) HR3.out _ rfl) rfl ⟨PL.zero,3,rfl,HE.out,by rw [if_neg (by decide)]; exact Made.none HB3.out⟩
      · have hN' : ¬ (p.ts.length : Int) = 24:=by omega
        have HE:=hid (HE5.out hG hk hnh hN)
        have HLT:=hid hG.len
        go_wp2_with fail
        refine Calls.mono (HC4.out hG w3 HY3.out) ?_
        rintro e w4 ⟨q,rfl,hm⟩
        have HM:=hid hm
        obtain ⟨W5,hW5⟩ : ∃ W5,w4.alloc (.cells #[.string ⟨#[]⟩,.bool false,.slice none 0 0,.slice none 0 0,.slice none 0 0] 27) = W5:=⟨_,rfl⟩
        have HQ : Hid (Box W5 w4.heap.size 27 #[.string ⟨#[]⟩,.bool false,.slice none 0 0,.slice none 0 0,.slice none 0 0]):=by
         subst hW5
         exact Box.made w4 _ _
        have HB5 : Hid (Below w4.heap.size w4 W5):=by
         subst hW5
         exact alloc_later _ _
        have HT5:=hid (HT3.out.later (bt hm.bel HB5.out) HT3.out.lt)
        have HR5:=hid (HR3.out.later (bt hm.bel HB5.out) HR3.out.lt)
        have hlow : w.heap.size + 1 + 1 < w4.heap.size:=by have h1:=HY3.out.size; have h2:=hm.bel.size; omega
        obtain ⟨A0,A1,A2,A3,A4,q0,q1,q2,q3,q4,⟨r0,r1,r2,r3,r4⟩,⟨f0,f1,f2,f3,f4⟩,HA⟩:=pchain5 HQ.out (.string q.s) (.bool q.n) (.slice q.a q.xs.length q.ca) (.slice q.b q.ys.length q.cb) (.slice q.t q.ts.length q.ct)
        have HI0:=hid (CpI.of_made hm HB3.out HB5.out HA.out (by omega))
        have HTA : Hid (Box A4 (w.heap.size + 1) 37 t.cells):=HA.out.2.1 _ _ _ (by omega) HT5.out
        have HRA : Hid (Box A4 (w.heap.size + 1 + 1) 27 #[.string ⟨#[]⟩,.bool false,.slice none 0 0,.slice none 0 0,.slice none 0 0]):=HA.out.2.1 _ _ _ (by omega) HR5.out
        have hYA : Below Y.heap.size Y A4:=HA.out.2.2.2.1 _ _ (by have h1:=HY3.out.size; have h2:=hm.bel.size; omega) (bt (bt HY3.out hm.bel) HB5.out)
        have HYA:=hid hYA
        have HLQ : Hid (q.ts.length <= 24):=by
         have e:=congrArg PV.ts hm.v
         have e2:=congrArg List.length e
         rw [show q.v.ts = q.ts.map TL.v from rfl,show p.v.ts = p.ts.map TL.v from rfl,List.length_map,List.length_map] at e2
         rw [e2]
         exact HLT.out
        have hrow : Hid (∀ g,(Value.slice q.t q.ts.length q.ct).ownBlock = some g -> w.heap.size + 1 + 1 < g):=fun g hg => by have h1:=(hm.ow.row.lt g hg).1; have h2:=HY3.out.size; show _ < _; omega
        clear hm HC4 k0 k1 k2 k3 k4 HX3 HT3 HR3 HY3 HB3 HQ HB5 HT5 HR5 HA hYA
        go_wp2_with fail
        clear q0 q1 q2 q3 q4 r0 r1 r2 r3 r4 f0 f1 f2 f3 f4
        have HIA:=hid (HI0.out.later (Below.refl _ A4).drew)
        have HXA : Hid (Box A4.drew (w.heap.size + 1) 37 t.cells):=HTA.out.drewN 1
        have HRB : Hid (Box A4.drew (w.heap.size + 1 + 1) 27 #[.string ⟨#[]⟩,.bool false,.slice none 0 0,.slice none 0 0,.slice none 0 0]):=HRA.out.drewN 1
        have HC5':=hid (HC5.out hk)
        have HYB : Hid (Below Y.heap.size Y A4.drew):=HYA.out.drew
        obtain ⟨m0,m1,m2,m3,m4,m5,m6,m7,m8⟩:=HKT.out _ HTA.out
        generalize w4.heap.size = B at *
        have z0 : A4.cell? ⟨B,4,none⟩ = some (.slice q.t q.ts.length q.ct):=HI0.out.box.cell 4
        clear HI0 HTA HRA HYA HKT HKP HC5
        go_region_law (first
         | (go_simp; go_at_call 44; (with_reducible refine Calls.mono (HC5'.out _ HYB.out) ?_); rintro e w6 ⟨u,rfl,hu,ou,iu,b1⟩; have HU:=hid hu; have HI1:=hid (HIA.out.call b1 ou iu); have HR1:=hid (HRB.out.later b1 HRB.out.lt); have z1 : w6.cell? ⟨B,4,none⟩ = some (.slice q.t q.ts.length q.ct):=HI1.out.box.cell 4; have HI2:=hid (HI1.out.later (alloc_later w6 (.cells u.cells 37))); have z2 : (w6.alloc (.cells #[.string u.s,.int .i32 u.f,.int .i32 u.r,.bool u.n,.slice u.a u.xs.length u.ca,.slice u.b u.ys.length u.cb,.bool u.m,.slice u.c u.us.length u.cc,.slice u.d u.vs.length u.cd] 37)).cell? ⟨B,4,none⟩ = some (.slice q.t q.ts.length q.ct):=HI2.out.box.cell 4; have HR2:=hid (HR1.out.later (alloc_later w6 (.cells u.cells 37)) HR1.out.lt); dsimp only)
         | (refine step_append_own_at rfl (.tmp 35) (.tmp 38) 25 rfl w.heap.size 37 i0 (.agg #[.string ⟨#[]⟩,.int .i32 0,.int .i32 0,.bool false,.slice none 0 0,.slice none 0 0,.bool false,.slice none 0 0,.slice none 0 0]) 9 136 Tryz.underlying25 hi0 hz0 hz1 hz2 rfl (by decide) (.slice q.t q.ts.length q.ct) q.ts.length (flatT q.ts) rfl HI2.out.row ⟨w6.heap.size,0,none⟩ 1 1 u.cells.toList rfl rfl (qcells_new w6 _ _) u.one (by have:=HLQ.out; unfold maxLen; omega) (by have:=HLQ.out; omega) HI2.out.bel.size ?_; intro v1 y1 o1 g1 at1; obtain ⟨HB1,a',ct',rfl,Z,hZ,HZ⟩:=HI2.out.add o1 g1; have z3 : y1.cell? ⟨B,4,none⟩ = some (.slice q.t q.ts.length q.ct):=HB1.out.cell 4; have z5 : y1.frozen? ⟨B,4,none⟩ = false:=HB1.out.free 4; have HR4:=hid (HZ.out.2 (w.heap.size + 1 + 1) _ _ (by omega) HR2.out (.inl (by decide)))))
        all_goals
         have hl2 : (q.ts ++ [u]).length = q.ts.length + 1:=by simp
         have hk0 : Z.cell? ⟨B,0,none⟩ = some (.string q.s):=HZ.out.1.box.cell 0
         have hk1 : Z.cell? ⟨B,1,none⟩ = some (.bool q.n):=HZ.out.1.box.cell 1
         have hk2 : Z.cell? ⟨B,2,none⟩ = some (.slice q.a q.xs.length q.ca):=HZ.out.1.box.cell 2
         have hk3 : Z.cell? ⟨B,3,none⟩ = some (.slice q.b q.ys.length q.cb):=HZ.out.1.box.cell 3
         have hk4 : Z.cell? ⟨B,4,none⟩ = some (.slice a' (q.ts ++ [u]).length ct'):=HZ.out.1.box.cell 4
         rw [hl2] at hk4
         obtain ⟨A0,A1,A2,A3,A4,q0,q1,q2,q3,q4,⟨r0,r1,r2,r3,r4⟩,⟨f0,f1,f2,f3,f4⟩,HA⟩:=pchain5 HR4.out (.string q.s) (.bool q.n) (.slice q.a q.xs.length q.ca) (.slice q.b q.ys.length q.cb) (.slice a' (q.ts.length + 1) ct')
         have HD : Hid (Made ⟨q.s,q.n,q.a,q.ca,q.xs,q.b,q.cb,q.ys,a',ct',q.ts ++ [u]⟩ (p.v.more t.v) w A4):=by
          have e : p.v.more t.v = ⟨q.v.s,q.v.n,q.v.xs,q.v.ys,(q.ts ++ [u]).map TL.v⟩:=by
           rw [<- HM.out.v,<- HU.out]
           show PV.mk _ _ _ _ _ = _
           rw [List.map_append]
           rfl
          rw [e]
          exact CpI.done (HZ.out.1.re _) rfl (by omega) HA.out.2.2.1 HA.out.2.2.2.1 HA.out.2.2.2.2
         have HE':=hid HA.out.1
         clear z0 z1 z2 z3 z5 m0 m1 m2 m3 m4 m5 m6 m7 m8 HA HZ HR4 HR2 HI2 HI1 HIA hl2
         go_wp2_with fail
         refine bodyPost_ret (pres_run (by rfl) HE'.out _ rfl) rfl ⟨⟨q.s,q.n,q.a,q.ca,q.xs,q.b,q.cb,q.ys,a',ct',q.ts ++ [u]⟩,0,?_,HE.out,by rw [if_pos rfl]; exact HD.out⟩
         unfold PL.cells
         rw [show (q.ts ++ [u]).length = q.ts.length + 1 by simp]
         rfl
   · have h0' : (t.chk == 0) = false:=by simp [hk]
     have h0'' : (t.chk != 0) = true:=by simp [hk]
     have HE:=hid (HE2.out hG hk)
     have HKN:=hid hk
     obtain ⟨⟨s0,s1,s2,s3,s4⟩,⟨x0,x1,x2,x3,x4⟩,⟨u0,u1,u2,u3,u4⟩⟩:=pzero5 HR2.out
     clear HX2 HT2 HC3 HC4 HC5 HKP HKT HE3 HE4 HE5 hk
     go_wp2_with fail
     exact bodyPost_ret (pres_run (by rfl) HR2.out _ rfl) rfl ⟨PL.zero,t.chk,rfl,HE.out,by rw [if_neg HKN.out]; exact Made.none HB2.out⟩
 · have h0' : (c == 0) = false:=by simp [hc0]
   have h0'' : (c != 0) = true:=by simp [hc0]
   have HE:=hid (HE1.out c z HCK.out hc0)
   obtain ⟨⟨s0,s1,s2,s3,s4⟩,⟨x0,x1,x2,x3,x4⟩,⟨u0,u1,u2,u3,u4⟩⟩:=pzero5 HRA.out
   clear HC2 HC3 HC4 HC5 HG HE1 HE2 HE3 HE4 HE5 HKP HKT HXA HTA HYA
   go_wp2_with fail
   go_region_held3 (fun V : World => V.cell? ⟨w1.heap.size,0,none⟩ = some (.int .i64 c)) (first | exact y0 | go_keep) (fail)
   all_goals
    have HCN:=hid hc0
    clear hc0
    go_wp2_with fail
    exact bodyPost_ret (pres_run (by rfl) (HRA.out.drewN 1) _ rfl) rfl ⟨PL.zero,c,rfl,HE.out,by rw [if_neg HCN.out]; exact Made.none HBA.out.drew⟩
def ChT (p : PL) (R : Nat -> TV -> Int -> Prop) (q : PL) (c : Int) (w w' : World) : Prop:=(∃ (i : Nat) (v : TV),i < p.ts.length /\ (∀ j,j < i -> ∃ u,R j u 0) /\ R i v c /\ c ≠ 0 /\ Made q PV.zero w w') \/ (c = 0 /\ ∃ vs : List TV,vs.length = p.ts.length /\ (∀ j v,vs[j]? = some v -> R j v 0) /\ Made q ⟨p.s,p.n,p.xs,p.ys,vs⟩ w w')
set_option maxRecDepth 100000 in
theorem pchanged_any (f : Nat) (cap : Array Value) (p : PL) (w : World) (h : p.ok w) (hf : p.v.few) (eg : ∀ args W,(callFunc f args).run Tryz.prog W = .ok (.enter f args) W) (R : Nat -> TV -> Int -> Prop) (hC : ∀ j V,j < p.ts.length -> Below w.heap.size w V -> Calls Tryz.prog f (#[.agg (tT p.ts j).cells] ++ cap) V (TRet (R j) V)) : Calls Tryz.prog 54 #[.agg p.cells,.func (.func f) #[] cap] w fun e w' => ∃ (q : PL) (c : Int),e = .returned (.tuple #[.agg q.cells,.int .i64 c]) /\ ChT p R q c w w':=by
 obtain ⟨i0,hi0,hz0,hz1,hz2⟩:=info_parts Tryz.infoT
 obtain ⟨s,n,a,ca,xs,b,cb,ys,t,ct,ts⟩:=p
 obtain ⟨hfx,hfy,hfl,hfe⟩:=hf
 have HTS : Hid (RdT w t ts):=h.ts
 have HCW : Hid (∀ j V,j < ts.length -> Below w.heap.size w V -> Calls Tryz.prog f (#[.agg #[.string (tT ts j).s,.int .i32 (tT ts j).f,.int .i32 (tT ts j).r,.bool (tT ts j).n,.slice (tT ts j).a (tT ts j).xs.length (tT ts j).ca,.slice (tT ts j).b (tT ts j).ys.length (tT ts j).cb,.bool (tT ts j).m,.slice (tT ts j).c (tT ts j).us.length (tT ts j).cc,.slice (tT ts j).d (tT ts j).vs.length (tT ts j).cd]] ++ cap) V (TRet (R j) V)):=hC
 have sx : Sl w (.slice a xs.length ca) xs:=h.sx
 have sy : Sl w (.slice b ys.length cb) ys:=h.sy
 have hfl' : ts.length <= 1000000:=by
  have : (ts.map TL.v).length <= 1000000:=hfl
  simpa using this
 clear h hfl hfe hC
 unfold PL.cells
 dsimp only
 obtain ⟨N,hN⟩ : ∃ N,ts.length = N:=⟨_,rfl⟩
 have HLN:=hid hN
 rw [hN] at hfl' ⊢
 clear hN
 obtain ⟨X,hX⟩ : ∃ X,w.alloc (.cells #[.string s,.bool n,.slice a xs.length ca,.slice b ys.length cb,.slice t N ct] 27) = X:=⟨_,rfl⟩
 obtain ⟨Y,hY⟩ : ∃ Y,X.alloc (.cells #[.string ⟨#[]⟩,.bool false,.slice none 0 0,.slice none 0 0,.slice none 0 0] 27) = Y:=⟨_,rfl⟩
 have HX : Hid (Box Y w.heap.size 27 #[.string s,.bool n,.slice a xs.length ca,.slice b ys.length cb,.slice t N ct]):=by
  subst hY hX
  exact (Box.made w _ _).later (alloc_later _ _) (Box.made w 27 _).lt
 have HR : Hid (Box Y X.heap.size 27 #[.string ⟨#[]⟩,.bool false,.slice none 0 0,.slice none 0 0,.slice none 0 0]):=by
  subst hY
  exact Box.made X _ _
 have HXs : X.heap.size = w.heap.size + 1:=by subst hX; simp
 have HB : Hid (Below w.heap.size w Y):=by
  subst hY hX
  exact bt (alloc_later _ _) (alloc_later _ _)
 rw [HXs] at HR
 have HYs : Hid (w.heap.size + 1 < Y.heap.size):=HR.out.lt
 have HC : Hid (∀ V,Below Y.heap.size Y V -> Calls Tryz.prog 100 #[.agg #[.bool n,.slice a xs.length ca,.slice b ys.length cb]] V fun e w' => ∃ a1 c1 a2 c2,e = .returned (.agg #[.bool n,.slice a1 xs.length c1,.slice a2 ys.length c2]) /\ w'.ownsRow V.heap.size 69 1 (.slice a1 xs.length c1) xs.length (xs.map (Value.int .u32)) /\ w'.ownsRow V.heap.size 69 1 (.slice a2 ys.length c2) ys.length (ys.map (Value.int .u32)) /\ Below V.heap.size V w' /\ Cut V (.slice a1 xs.length c1) (.slice a2 ys.length c2) w'):=fun V hV => pcopyR_any n a ca xs b cb ys V (sx.later (bt HB.out hV)) (sy.later (bt HB.out hV)) hfx hfy
 have HS : Hid (∀ V,Box V w.heap.size 27 #[.string s,.bool n,.slice a xs.length ca,.slice b ys.length cb,.slice t N ct] -> V.cell? ⟨w.heap.size,0,none⟩ = some (.string s) /\ V.cell? ⟨w.heap.size,1,none⟩ = some (.bool n) /\ V.cell? ⟨w.heap.size,2,none⟩ = some (.slice a xs.length ca) /\ V.cell? ⟨w.heap.size,3,none⟩ = some (.slice b ys.length cb)):=fun V h => ⟨h.cell 0,h.cell 1,h.cell 2,h.cell 3⟩
 have HXL : Hid (∀ V,Below Y.heap.size Y V -> Box V w.heap.size 27 #[.string s,.bool n,.slice a xs.length ca,.slice b ys.length cb,.slice t N ct]):=fun V hV => HX.out.later hV HX.out.lt
 have hd0:=hid (Below.refl Y.heap.size Y)
 clear sx sy hfx hfy
 go_enter Tryz.func54,Tryz.ntmps54
 go_wp2_with fail
 go_cut [6] from 11 (fun s3 wx => ∃ B a1 c1 a2 c2,s3 = .pointer (some ⟨B,0,none⟩) /\ Hid (CpI ⟨s,n,xs,ys,ts.map TL.v⟩ w B a1 c1 a2 c2 [] [] none 0 wx) /\ Hid (Box wx w.heap.size 27 #[.string s,.bool n,.slice a xs.length ca,.slice b ys.length cb,.slice t N ct] /\ Box wx (w.heap.size + 1) 27 #[.string ⟨#[]⟩,.bool false,.slice none 0 0,.slice none 0 0,.slice none 0 0]))
 case first =>
  have hs0:=HS.out _ (HXL.out _ hd0.out.drew)
  have hsa:=HS.out _ (HXL.out _ ((bel_al hd0.out (.cells #[.string ⟨#[]⟩,.bool false,.slice none 0 0,.slice none 0 0,.slice none 0 0] 27)).drew))
  go_region_held3 (fun V : World => V.cell? ⟨w.heap.size,0,none⟩ = some (.string s) /\ V.cell? ⟨w.heap.size,1,none⟩ = some (.bool n) /\ V.cell? ⟨w.heap.size,2,none⟩ = some (.slice a xs.length ca) /\ V.cell? ⟨w.heap.size,3,none⟩ = some (.slice b ys.length cb)) (first | exact hs2 | exact hs1a | exact hs1 | exact hsa | exact hs0 | go_keep)
   (first
    | (go_at_call 100; (with_reducible refine Calls.mono (HC.out _ (by first | exact hd0.out.drew | exact (bel_al hd0.out _).drew)) ?_); rintro e w1 ⟨a1,c1,a2,c2,rfl,o1,o2,b1,ct1⟩; (first | (have hbA:=hid (bt hd0.out.drew b1)) | (have hbA:=hid (bt (bel_al hd0.out _).drew b1))); have HA1:=hid (And.intro o1 (And.intro o2 (And.intro b1 ct1))); have hs1:=HS.out _ (HXL.out _ hbA.out); have hs1a:=HS.out _ (HXL.out _ (bel_al hbA.out (.cells #[.string ⟨#[]⟩,.bool false,.slice none 0 0,.slice none 0 0,.slice none 0 0] 27))); (first | (have HQ:=hid (Box.later ((Box.made Y 27 #[.string ⟨#[]⟩,.bool false,.slice none 0 0,.slice none 0 0,.slice none 0 0]).drewN 1) b1 (Box.made Y 27 _).lt)) | (have HQ:=hid (Box.made w1 27 #[.string ⟨#[]⟩,.bool false,.slice none 0 0,.slice none 0 0,.slice none 0 0]))); obtain ⟨A0,A1,A2,A3,A4,hA0,hA1,hA2,hA3,hA4,⟨q0,q1,q2,q3,q4⟩,⟨f0,f1,f2,f3,f4⟩,HA⟩:=pchain5 HQ.out (.string s) (.bool n) (.slice a1 xs.length c1) (.slice a2 ys.length c2) (.slice none 0 0); have hs2:=HS.out A4 (HA.out.2.1 _ _ _ (by have h1:=hbA.out.size; have h2:=HYs.out; omega) (by first | exact HXL.out _ hbA.out | exact HXL.out _ (bel_al hbA.out _)))))
  all_goals
   have HN1 : Hid (w.heap.size + 1 < w1.heap.size):=by have h1:=hbA.out.size; have h2:=HYs.out; show _ < _; omega
   have HE : Hid (∃ B,A4.cell? ⟨B,0,none⟩ = A4.cell? ⟨B,0,none⟩):=⟨0,rfl⟩
   clear HE q0 q1 q2 q3 q4 f0 f1 f2 f3 f4 hs0 hsa hs1 hs1a hs2 HC HS
   go_wp2_with fail
   go_meet
  · exact ⟨_,a1,c1,a2,c2,rfl,CpI.start (p:=⟨s,n,xs,ys,ts.map TL.v⟩) (bt HB.out hd0.out.drew) HA1.out.1 HA1.out.2.1 HA1.out.2.2.1 HA1.out.2.2.2 (alloc_later w1 _) HA.out HN1.out,HA.out.2.1 _ _ _ (by have h1:=HN1.out; omega) (HXL.out _ (bel_al hbA.out _)),HA.out.2.1 _ _ _ (by have h1:=HN1.out; omega) (HR.out.later (bel_al hbA.out _) HR.out.lt)⟩
  · exact ⟨_,a1,c1,a2,c2,rfl,CpI.start (p:=⟨s,n,xs,ys,ts.map TL.v⟩) (bt HB.out (bel_al hd0.out _).drew) HA1.out.1 HA1.out.2.1 HA1.out.2.2.1 HA1.out.2.2.2 (Below.refl _ w1) HA.out HYs.out,HA.out.2.1 _ _ _ (by have h1:=HYs.out; omega) (HXL.out _ hbA.out),HA.out.2.1 _ _ _ (by have h1:=HYs.out; omega) (HR.out.later hbA.out HR.out.lt)⟩
 case rest =>
  obtain ⟨B,a1,c1,a2,c2,rfl,HI,HBX⟩:=hcut
  have k4 : wc.cell? ⟨w.heap.size,4,none⟩ = some (.slice t N ct):=HBX.out.1.cell 4
  have HRC:=hid HBX.out.2
  have HBW:=hid HI.out.bel
  clear HBX HC HS HXL HX HR hd0 hX hY HXs HYs HB
  go_wp2_with fail
  clear k4
  go_loopw [20] (fun x wr => ∃ (i : Nat) (L : List TL) (q : Option Addr) (cq : Nat),x = .int .i64 (i : Int) /\ i <= N /\ L.length = i /\ Hid (∀ j v,(L.map TL.v)[j]? = some v -> R j v 0) /\ Hid (CpI ⟨s,n,xs,ys,ts.map TL.v⟩ w B a1 c1 a2 c2 L L q cq wr) /\ Hid (Box wr (w.heap.size + 1) 27 #[.string ⟨#[]⟩,.bool false,.slice none 0 0,.slice none 0 0,.slice none 0 0])) (fun x _ => N - (intOf x).toNat)
  case atStart => exact ⟨0,[],none,0,rfl,by omega,rfl,(fun j v h => by simp at h : ∀ j v,(([] : List TL).map TL.v)[j]? = some v -> R j v 0),HI,HRC⟩
  case round =>
   obtain ⟨i,L,q,cq,rfl,hi,hLi,HV,HI,HRC⟩:=hrel
   by_cases hin : i < N
   · have hil : i < ts.length:=by rw [HLN.out]; exact hin
     have HTW:=hid (HTS.out.later HI.out.bel)
     rcases HTW.out.2 with e | ⟨bb,o,rfl,hbb,hc⟩
     · rw [e] at hil; exact absurd hil (by simp)
     have HCC : Hid (∀ V,Below w.heap.size w V -> Calls Tryz.prog f (#[.agg #[.string (tT ts i).s,.int .i32 (tT ts i).f,.int .i32 (tT ts i).r,.bool (tT ts i).n,.slice (tT ts i).a (tT ts i).xs.length (tT ts i).ca,.slice (tT ts i).b (tT ts i).ys.length (tT ts i).cb,.bool (tT ts i).m,.slice (tT ts i).c (tT ts i).us.length (tT ts i).cc,.slice (tT ts i).d (tT ts i).vs.length (tT ts i).cd]] ++ cap) V (TRet (R i) V)):=fun V hV => HCW.out i V hil hV
     have HLL : Hid (L.length <= 1000000):=by show L.length <= _; omega
     have HVN : Hid (∀ u : TL,R i u.v 0 -> ∀ j v,((L ++ [u]).map TL.v)[j]? = some v -> R j v 0):=fun u hu j v hj => by
      rw [List.map_append,List.map_cons,List.map_nil] at hj
      rcases Nat.lt_or_ge j i with hji | hji
      · rw [List.getElem?_append_left (by rw [List.length_map]; omega)] at hj
        exact HV.out j v hj
      · rw [List.getElem?_append_right (by rw [List.length_map]; omega),List.length_map] at hj
        have hj0 : j - L.length = 0:=by
         rcases Nat.eq_zero_or_pos (j - L.length) with h | h
         · exact h
         · rw [List.getElem?_eq_none (by simp; omega)] at hj; cases hj
        rw [hj0] at hj
        have ej : j = i:=by omega
        rw [ej,<- Option.some.inj hj]
        exact hu
     have HVF : Hid (∀ j,j < i -> ∃ u,R j u 0):=fun j hj => ⟨_,HV.out j _ (List.getElem?_eq_getElem (by rw [List.length_map]; omega))⟩
     have hci:=hc i _ (tT_at hil)
     have e0:=hci 0 (by decide)
     have e1:=hci 1 (by decide)
     have e2:=hci 2 (by decide)
     have e3:=hci 3 (by decide)
     have e4:=hci 4 (by decide)
     have e5:=hci 5 (by decide)
     have e6:=hci 6 (by decide)
     have e7:=hci 7 (by decide)
     have e8:=hci 8 (by decide)
     clear hci hc
     generalize tT ts i = tt at *
     have c0 : wr.cell? ⟨bb,o + i * 9,none⟩ = some (.string tt.s):=e0
     have c1' : wr.cell? ⟨bb,o + i * 9 + 1,none⟩ = some (.int .i32 tt.f):=e1
     have c2' : wr.cell? ⟨bb,o + i * 9 + 2,none⟩ = some (.int .i32 tt.r):=e2
     have c3 : wr.cell? ⟨bb,o + i * 9 + 3,none⟩ = some (.bool tt.n):=e3
     have c4 : wr.cell? ⟨bb,o + i * 9 + 4,none⟩ = some (.slice tt.a tt.xs.length tt.ca):=e4
     have c5 : wr.cell? ⟨bb,o + i * 9 + 5,none⟩ = some (.slice tt.b tt.ys.length tt.cb):=e5
     have c6 : wr.cell? ⟨bb,o + i * 9 + 6,none⟩ = some (.bool tt.m):=e6
     have c7 : wr.cell? ⟨bb,o + i * 9 + 7,none⟩ = some (.slice tt.c tt.us.length tt.cc):=e7
     have c8 : wr.cell? ⟨bb,o + i * 9 + 8,none⟩ = some (.slice tt.d tt.vs.length tt.cd):=e8
     clear e0 e1 e2 e3 e4 e5 e6 e7 e8
     obtain ⟨A0,A1,A2,A3,A4,A5,A6,A7,A8,q0,q1,q2,q3,q4,q5,q6,q7,q8,⟨r0,r1,r2,r3,r4,r5,r6,r7,r8⟩,⟨f0,f1,f2,f3,f4,f5,f6,f7,f8⟩,HA⟩:=tlbox wr tt
     have HIA:=hid (HI.out.later HA.out.2)
     have HRA:=hid (HRC.out.later HA.out.2 HRC.out.lt)
     have HXA:=hid HA.out.1
     have m0 : A8.cell? ⟨wr.heap.size,0,none⟩ = some (.string tt.s):=HXA.out.cell 0
     have m1 : A8.cell? ⟨wr.heap.size,1,none⟩ = some (.int .i32 tt.f):=HXA.out.cell 1
     have m2 : A8.cell? ⟨wr.heap.size,2,none⟩ = some (.int .i32 tt.r):=HXA.out.cell 2
     have m3 : A8.cell? ⟨wr.heap.size,3,none⟩ = some (.bool tt.n):=HXA.out.cell 3
     have m4 : A8.cell? ⟨wr.heap.size,4,none⟩ = some (.slice tt.a tt.xs.length tt.ca):=HXA.out.cell 4
     have m5 : A8.cell? ⟨wr.heap.size,5,none⟩ = some (.slice tt.b tt.ys.length tt.cb):=HXA.out.cell 5
     have m6 : A8.cell? ⟨wr.heap.size,6,none⟩ = some (.bool tt.m):=HXA.out.cell 6
     have m7 : A8.cell? ⟨wr.heap.size,7,none⟩ = some (.slice tt.c tt.us.length tt.cc):=HXA.out.cell 7
     have m8 : A8.cell? ⟨wr.heap.size,8,none⟩ = some (.slice tt.d tt.vs.length tt.cd):=HXA.out.cell 8
     have hi0' : (0 : Int) <= (i : Int):=by omega
     have hi1 : (i : Int) < (N : Int):=by omega
     have HLE:=hid hLi
     clear HI HRC HA hbb hLi
     go_wp2_with fail
     clear q0 q1 q2 q3 q4 q5 q6 q7 q8 r0 r1 r2 r3 r4 r5 r6 r7 r8 f0 f1 f2 f3 f4 f5 f6 f7 f8 c0 c1' c2' c3 c4 c5 c6 c7 c8
     refine Calls.mono (HCC.out _ HIA.out.bel) ?_
     rintro e w1 ⟨u,c,rfl,hu,ou,iu,b1⟩
     obtain ⟨W2,hW2⟩ : ∃ W2,w1.alloc (.cells #[.string u.s,.int .i32 u.f,.int .i32 u.r,.bool u.n,.slice u.a u.xs.length u.ca,.slice u.b u.ys.length u.cb,.bool u.m,.slice u.c u.us.length u.cc,.slice u.d u.vs.length u.cd] 37) = W2:=⟨_,rfl⟩
     have HOB : Hid (Box W2 w1.heap.size 37 #[.string u.s,.int .i32 u.f,.int .i32 u.r,.bool u.n,.slice u.a u.xs.length u.ca,.slice u.b u.ys.length u.cb,.bool u.m,.slice u.c u.us.length u.cc,.slice u.d u.vs.length u.cd]):=by
      subst hW2
      exact Box.made w1 _ _
     have HB2 : Hid (Below w1.heap.size w1 W2):=by
      subst hW2
      exact alloc_later _ _
     have HU:=hid hu
     have HI1:=hid ((HIA.out.call b1 ou iu).later HB2.out)
     have HR1:=hid (HRA.out.later (bt b1 HB2.out) HRA.out.lt)
     have n0 : W2.cell? ⟨w1.heap.size,0,none⟩ = some (.string u.s):=HOB.out.cell 0
     have n1 : W2.cell? ⟨w1.heap.size,1,none⟩ = some (.int .i32 u.f):=HOB.out.cell 1
     have n2 : W2.cell? ⟨w1.heap.size,2,none⟩ = some (.int .i32 u.r):=HOB.out.cell 2
     have n3 : W2.cell? ⟨w1.heap.size,3,none⟩ = some (.bool u.n):=HOB.out.cell 3
     have n4 : W2.cell? ⟨w1.heap.size,4,none⟩ = some (.slice u.a u.xs.length u.ca):=HOB.out.cell 4
     have n5 : W2.cell? ⟨w1.heap.size,5,none⟩ = some (.slice u.b u.ys.length u.cb):=HOB.out.cell 5
     have n6 : W2.cell? ⟨w1.heap.size,6,none⟩ = some (.bool u.m):=HOB.out.cell 6
     have n7 : W2.cell? ⟨w1.heap.size,7,none⟩ = some (.slice u.c u.us.length u.cc):=HOB.out.cell 7
     have n8 : W2.cell? ⟨w1.heap.size,8,none⟩ = some (.slice u.d u.vs.length u.cd):=HOB.out.cell 8
     have hw12 : w1.heap.size < W2.heap.size:=HOB.out.lt
     have z1 : W2.cell? ⟨B,4,none⟩ = some (.slice q L.length cq):=HI1.out.box.cell 4
     clear m0 m1 m2 m3 m4 m5 m6 m7 m8 HIA HRA HXA HB2 HCC HOB b1 ou iu hu
     by_cases hc0 : c = 0
     · subst hc0
       obtain ⟨W3,hW3⟩ : ∃ W3,W2.alloc (.cells #[.string u.s,.int .i32 u.f,.int .i32 u.r,.bool u.n,.slice u.a u.xs.length u.ca,.slice u.b u.ys.length u.cb,.bool u.m,.slice u.c u.us.length u.cc,.slice u.d u.vs.length u.cd] 37) = W3:=⟨_,rfl⟩
       have HI2 : Hid (CpI ⟨s,n,xs,ys,ts.map TL.v⟩ w B a1 c1 a2 c2 L (L ++ [u]) q cq W3):=by
        subst hW3
        exact HI1.out.later (alloc_later _ _)
       have HR2 : Hid (Box W3 (w.heap.size + 1) 27 #[.string ⟨#[]⟩,.bool false,.slice none 0 0,.slice none 0 0,.slice none 0 0]):=by
        subst hW3
        exact HR1.out.later (alloc_later _ _) HR1.out.lt
       have HNW : Hid (∀ j v,u.cells.toList[j]? = some v -> W3.cell? ((⟨W2.heap.size,0,none⟩ : Addr).add j) = some v):=by
        subst hW3
        exact qcells_new W2 _ _
       have z2 : W3.cell? ⟨B,4,none⟩ = some (.slice q L.length cq):=HI2.out.box.cell 4
       go_wp2_with (first
        | (at_builtin; refine wpList_append_own_at _ rfl _ _ 25 rfl w.heap.size 37 i0 (.agg #[.string ⟨#[]⟩,.int .i32 0,.int .i32 0,.bool false,.slice none 0 0,.slice none 0 0,.bool false,.slice none 0 0,.slice none 0 0]) 9 136 Tryz.underlying25 hi0 hz0 hz1 hz2 rfl (by decide) (.slice q L.length cq) L.length (flatT L) rfl HI2.out.row ⟨W2.heap.size,0,none⟩ 1 1 u.cells.toList rfl rfl HNW.out u.one ?hm ?hb HI2.out.bel.size ?_; rotate_right; intro v1 y1 o1 g1 _ at1; obtain ⟨HB1,a',ct',rfl,Z,hZ,HZ⟩:=HI2.out.add o1 g1; have z3 : y1.cell? ⟨B,4,none⟩ = some (.slice q L.length cq):=HB1.out.cell 4; have z5 : y1.frozen? ⟨B,4,none⟩ = false:=HB1.out.free 4; have HR4:=hid (HZ.out.2 (w.heap.size + 1) _ _ ?hn HR2.out (.inl (by decide)))))
       case hm => have:=HLL.out; unfold maxLen; omega
       case hb => have:=HLL.out; omega
       case hn => have:=HI2.out.low; omega
       have HVN':=hid (HVN.out u HU.out)
       have HLX : Hid ((L ++ [u]).length = i + 1):=by rw [List.length_append,HLE.out]; rfl
       clear z1 z2 z3 z5 n0 n1 n2 n3 n4 n5 n6 n7 n8 HVN HVF HI1 HI2 HR1 HR2
       (try go_wp2_with fail)
       go_roundw
       case rel => exact ⟨i + 1,L ++ [u],a',ct',by go_num,by omega,HLX.out,HVN',HZ.out.1,HR4⟩
       case measure => simp [intOf]; omega
     · have h0' : (c == 0) = false:=by simp [hc0]
       have h0'' : (c != 0) = true:=by simp [hc0]
       obtain ⟨W3,hW3⟩ : ∃ W3,W2.alloc (.cells #[.string u.s,.int .i32 u.f,.int .i32 u.r,.bool u.n,.slice u.a u.xs.length u.ca,.slice u.b u.ys.length u.cb,.bool u.m,.slice u.c u.us.length u.cc,.slice u.d u.vs.length u.cd] 37) = W3:=⟨_,rfl⟩
       have HCN:=hid hc0
       have HTW2:=hid hil
       have HBW2:=hid HI1.out.bel
       have hlow:=HI1.out.low
       obtain ⟨⟨s0,s1,s2,s3,s4⟩,⟨x0,x1,x2,x3,x4⟩,⟨u0,u1,u2,u3,u4⟩⟩:=pzero5 HR1.out
       clear hc0 hil HVN HI1 z1 HLL
       go_wp2_with fail
       exact bodyPost_ret (pres_run (by rfl) HR1.out _ rfl) rfl ⟨PL.zero,c,rfl,.inl ⟨i,u.v,HTW2.out,HVF.out,HU.out,HCN.out,Made.none HBW2.out⟩⟩
   · obtain rfl : i = N:=by omega
     have hi1 : ¬ (i : Int) < (i : Int):=by omega
     have hk0 : wr.cell? ⟨B,0,none⟩ = some (.string s):=HI.out.box.cell 0
     have hk1 : wr.cell? ⟨B,1,none⟩ = some (.bool n):=HI.out.box.cell 1
     have hk2 : wr.cell? ⟨B,2,none⟩ = some (.slice a1 xs.length c1):=HI.out.box.cell 2
     have hk3 : wr.cell? ⟨B,3,none⟩ = some (.slice a2 ys.length c2):=HI.out.box.cell 3
     have hk4 : wr.cell? ⟨B,4,none⟩ = some (.slice q L.length cq):=HI.out.box.cell 4
     obtain ⟨A0,A1,A2,A3,A4,q0,q1,q2,q3,q4,⟨r0,r1,r2,r3,r4⟩,⟨f0,f1,f2,f3,f4⟩,HA⟩:=pchain5 HRC.out (.string s) (.bool n) (.slice a1 xs.length c1) (.slice a2 ys.length c2) (.slice q L.length cq)
     have HM : Hid (Made ⟨s,n,a1,c1,xs,a2,c2,ys,q,cq,L⟩ ⟨s,n,xs,ys,L.map TL.v⟩ w A4):=CpI.done (HI.out.re (L.map TL.v)) rfl (Nat.le_succ _) HA.out.2.2.1 HA.out.2.2.2.1 HA.out.2.2.2.2
     have HE:=hid HA.out.1
     have HLE : Hid ((L.map TL.v).length = ts.length):=by rw [List.length_map,hLi]; exact HLN.out.symm
     clear HI HRC HA HTS HCW hLi
     go_wp2_with fail
     exact bodyPost_ret (pres_run (by rfl) HE.out _ rfl) rfl ⟨⟨s,n,a1,c1,xs,a2,c2,ys,q,cq,L⟩,0,rfl,.inr ⟨rfl,L.map TL.v,HLE.out,HV.out,HM.out⟩⟩
def PaT (s : ByteArray) (v : TV) (c : Int) : Prop:=TTells (tpE s) (gplong (trest (trest (trest s.data.toList)))) (tword s.data.toList) (tnumV (tword (trest s.data.toList))) (tnumV (tword (trest (trest s.data.toList)))) (rpq (gp1 (trest (trest (trest s.data.toList))))) (rpq (gp2 (trest (trest (trest s.data.toList))))) v.s v.f v.r v.n v.xs v.ys v.m v.us v.vs c
theorem ptParse_any (s : ByteArray) (w : World) (hm : s.size <= 281474976710656) (htab : Tab w) (herr : ErrT w) : Calls Tryz.prog 168 #[.string s] w (TRet (PaT s) w):=by
 refine Calls.mono (tParse_any s w hm htab herr) ?_
 rintro x w' ⟨S,F,R,n,a,ca,xs,b,cb,ys,m,c,cc,us,d,cd,vs,code,rfl,ho,tt,hb,W1,k1,k2⟩
 exact ⟨⟨S,F,R,n,a,ca,xs,b,cb,ys,m,c,cc,us,d,cd,vs⟩,code,rfl,tt,ho,G6.in_of (g:=⟨n,a,ca,xs,b,cb,ys,m,c,cc,us,d,cd,vs⟩) ho k1 k2,hb⟩
def RdtW (p : PV) (w : World) (B : Nat) (a1 : Option Addr) (c1 : Nat) (a2 : Option Addr) (c2 : Nat) (L : List TL) (s : ByteArray) (W : World) (e : Ending) (W' : World) : Prop :=
 ∃ (u : TV) (c : Int),PaT s u c /\ (∀ b t vs,b ≠ B -> t ≠ 37 -> Box W b t vs -> Box W' b t vs) /\ ((c ≠ 0 /\ e = .returned (.bool false) /\ Below w.heap.size w W') \/ (c = 0 /\ e = .returned (.bool true) /\ ∃ (t : TL) (a' : Option Addr) (ct' : Nat),t.v = u /\ CpI p w B a1 c1 a2 c2 (L ++ [t]) (L ++ [t]) a' ct' W'))
theorem CpI.add2 {p : PV} {w : World} {B : Nat} {a1 : Option Addr} {c1 : Nat} {a2 : Option Addr} {c2 : Nat} {L : List TL} {u : TL} {a : Option Addr} {ct : Nat} {W V' W' : World} {v' : Value} (h : CpI p w B a1 c1 a2 c2 L (L ++ [u]) a ct W) (o : W'.ownsRow w.heap.size 37 9 v' (L.length + 1) (flatT L ++ u.cells.toList)) (hg : V'.grownBy W' (Value.slice a L.length ct).ownBlock) (hV : V' = W \/ V' = W.drew) :
 Hid (Box W' B 27 #[.string p.s,.bool p.n,.slice a1 p.xs.length c1,.slice a2 p.ys.length c2,.slice a L.length ct]) /\ ∃ a' ct',v' = .slice a' (L.length + 1) ct' /\ ∃ Z,W'.setCell ⟨B,4,none⟩ v' = Z /\ Hid (CpI p w B a1 c1 a2 c2 (L ++ [u]) (L ++ [u]) a' ct' Z /\ ∀ b t vs,b ≠ B -> Box W b t vs -> t ≠ 37 \/ (∀ g,(Value.slice a L.length ct).ownBlock = some g -> g ≠ b) -> Box Z b t vs):=by
 rcases hV with rfl | rfl
 · exact h.add o hg
 · obtain ⟨h1,a',ct',e,Z,hZ,hh⟩:=(h.later (Below.refl _ _).drew).add o hg
   exact ⟨h1,a',ct',e,Z,hZ,hh.out.1,fun b t vs hb g k => hh.out.2 b t vs hb (g.drewN 1) k⟩
set_option maxRecDepth 100000 in
theorem pReadTide_any {p : PV} {w : World} {B : Nat} {a1 : Option Addr} {c1 : Nat} {a2 : Option Addr} {c2 : Nat} {L : List TL} {q : Option Addr} {cq : Nat} {W : World} (hI : CpI p w B a1 c1 a2 c2 L L q cq W) (hL : L.length <= 1000000) (s : ByteArray) (hm : s.size <= 281474976710656) (htab : Tab W) (herr : ErrT W) : Calls Tryz.prog 111 #[.pointer (some ⟨B,0,none⟩),.string s] W (RdtW p w B a1 c1 a2 c2 L s W):=by
 obtain ⟨i0,hi0,hz0,hz1,hz2⟩:=info_parts Tryz.infoT
 have HI:=hid hI
 have HLL:=hid hL
 have HP:=hid (ptParse_any s W hm htab herr)
 clear hI htab herr
 go_enter Tryz.func111,Tryz.ntmps111
 go_wp2_with fail
 refine Calls.mono HP.out ?_
 rintro e w1 ⟨u,c,rfl,hu,ou,iu,b1⟩
 obtain ⟨W2,hW2⟩ : ∃ W2,w1.alloc (.cells #[.string u.s,.int .i32 u.f,.int .i32 u.r,.bool u.n,.slice u.a u.xs.length u.ca,.slice u.b u.ys.length u.cb,.bool u.m,.slice u.c u.us.length u.cc,.slice u.d u.vs.length u.cd] 37) = W2:=⟨_,rfl⟩
 have HOB : Hid (Box W2 w1.heap.size 37 #[.string u.s,.int .i32 u.f,.int .i32 u.r,.bool u.n,.slice u.a u.xs.length u.ca,.slice u.b u.ys.length u.cb,.bool u.m,.slice u.c u.us.length u.cc,.slice u.d u.vs.length u.cd]):=by
  subst hW2
  exact Box.made w1 _ _
 have HB2 : Hid (Below w1.heap.size w1 W2):=by
  subst hW2
  exact alloc_later _ _
 have HU:=hid hu
 have HI1:=hid ((HI.out.call b1 ou iu).later HB2.out)
 have HK : Hid (∀ b t vs,Box W b t vs -> Box W2 b t vs):=fun b t vs h => h.later (bt b1 HB2.out) h.lt
 have n0 : W2.cell? ⟨w1.heap.size,0,none⟩ = some (.string u.s):=HOB.out.cell 0
 have n1 : W2.cell? ⟨w1.heap.size,1,none⟩ = some (.int .i32 u.f):=HOB.out.cell 1
 have n2 : W2.cell? ⟨w1.heap.size,2,none⟩ = some (.int .i32 u.r):=HOB.out.cell 2
 have n3 : W2.cell? ⟨w1.heap.size,3,none⟩ = some (.bool u.n):=HOB.out.cell 3
 have n4 : W2.cell? ⟨w1.heap.size,4,none⟩ = some (.slice u.a u.xs.length u.ca):=HOB.out.cell 4
 have n5 : W2.cell? ⟨w1.heap.size,5,none⟩ = some (.slice u.b u.ys.length u.cb):=HOB.out.cell 5
 have n6 : W2.cell? ⟨w1.heap.size,6,none⟩ = some (.bool u.m):=HOB.out.cell 6
 have n7 : W2.cell? ⟨w1.heap.size,7,none⟩ = some (.slice u.c u.us.length u.cc):=HOB.out.cell 7
 have n8 : W2.cell? ⟨w1.heap.size,8,none⟩ = some (.slice u.d u.vs.length u.cd):=HOB.out.cell 8
 have hw12 : w1.heap.size < W2.heap.size:=HOB.out.lt
 have z1 : W2.cell? ⟨B,4,none⟩ = some (.slice q L.length cq):=HI1.out.box.cell 4
 clear HI HB2 HP HOB b1 ou iu hu
 by_cases hc0 : c = 0
 · subst hc0
   have HI2:=hid (HI1.out.later (alloc_later W2 (.cells u.cells 37)))
   have z2 : (W2.alloc (.cells #[.string u.s,.int .i32 u.f,.int .i32 u.r,.bool u.n,.slice u.a u.xs.length u.ca,.slice u.b u.ys.length u.cb,.bool u.m,.slice u.c u.us.length u.cc,.slice u.d u.vs.length u.cd] 37)).cell? ⟨B,4,none⟩ = some (.slice q L.length cq):=HI2.out.box.cell 4
   have HK2 : Hid (∀ b t vs,Box W b t vs -> Box (W2.alloc (.cells u.cells 37)) b t vs):=fun b t vs h => (HK.out b t vs h).later (alloc_later _ _) (HK.out b t vs h).lt
   go_wp2_with fail
   clear hW2 hw12
   go_region_law (first
    | (refine step_append_own_at rfl (.tmp 18) (.tmp 20) 25 rfl w.heap.size 37 i0 (.agg #[.string ⟨#[]⟩,.int .i32 0,.int .i32 0,.bool false,.slice none 0 0,.slice none 0 0,.bool false,.slice none 0 0,.slice none 0 0]) 9 136 Tryz.underlying25 hi0 hz0 hz1 hz2 rfl (by decide) (.slice q L.length cq) L.length (flatT L) rfl HI2.out.row ⟨W2.heap.size,0,none⟩ 1 1 u.cells.toList rfl rfl (qcells_new W2 _ _) u.one (by have:=HLL.out; unfold maxLen; omega) (by have:=HLL.out; omega) HI2.out.bel.size ?_; intro v1 y1 o1 g1 at1; obtain ⟨HB1,a',ct',rfl,Z,hZ,HZ⟩:=HI2.out.add2 o1 g1 (by first | exact Or.inr rfl | exact Or.inl rfl); have z3 : y1.cell? ⟨B,4,none⟩ = some (.slice q L.length cq):=HB1.out.cell 4; have z5 : y1.frozen? ⟨B,4,none⟩ = false:=HB1.out.free 4))
   all_goals
    clear z1 z2 z3 z5 n0 n1 n2 n3 n4 n5 n6 n7 n8 HI1 HI2
    go_wp2_with fail
    go_ret
    unfold RdtW
    exact ⟨u.v,0,HU.out,fun b t vs hb ht h => HZ.out.2 b t vs hb (HK2.out b t vs h) (.inl ht),.inr ⟨rfl,rfl,u,a',ct',rfl,HZ.out.1⟩⟩
 · have h0' : (c == 0) = false:=by simp [hc0]
   have h0'' : (c != 0) = true:=by simp [hc0]
   have HCN:=hid hc0
   have HBW:=hid HI1.out.bel
   clear hc0 HI1 z1
   go_wp2_with fail
   go_ret
   unfold RdtW
   exact ⟨u.v,c,HU.out,fun b t vs hb ht h => HK.out b t vs h,.inl ⟨HCN.out,rfl,HBW.out⟩⟩
theorem pcut_any (s : ByteArray) (w : World) (hs : s.size <= 65536) : Calls Tryz.prog 109 #[.string s,.string ⟨#[32]⟩] w fun e w' => ∃ (a r : ByteArray) (b : Bool),e = .returned (.tuple #[.string a,.string r,.bool b]) /\ a.data.toList = tword s.data.toList /\ r.data.toList = trest s.data.toList /\ a.size <= 65536 /\ r.size <= 65536 /\ Below w.heap.size w w':=by
 refine Calls.mono (zcut_any s 32 w (by omega)) ?_
 rintro e w' ⟨rfl,hb⟩
 have h:=zcut_len s.data.toList 32
 have hl : s.data.toList.length = s.size:=Array.length_toList
 refine ⟨_,_,_,rfl,rfl,rfl,?_,?_,hb⟩
 · show (Lib.cut s.data.toList [32]).1.toArray.size <= _
   rw [List.size_toArray]; omega
 · show (Lib.cut s.data.toList [32]).2.1.toArray.size <= _
   rw [List.size_toArray]; omega
theorem pchain4 {W : World} {b t : Nat} {u0 u1 u2 u3 u4 : Value} (h : Box W b t #[u0,u1,u2,u3,u4]) (v0 v1 v2 v3 : Value) : ∃ A0 A1 A2 A3,W.setCell ⟨b,0,none⟩ v0 = A0 /\ A0.setCell ⟨b,1,none⟩ v1 = A1 /\ A1.setCell ⟨b,2,none⟩ v2 = A2 /\ A2.setCell ⟨b,3,none⟩ v3 = A3 /\ (W.cell? ⟨b,0,none⟩ = some u0 /\ A0.cell? ⟨b,1,none⟩ = some u1 /\ A1.cell? ⟨b,2,none⟩ = some u2 /\ A2.cell? ⟨b,3,none⟩ = some u3) /\ (W.frozen? ⟨b,0,none⟩ = false /\ A0.frozen? ⟨b,1,none⟩ = false /\ A1.frozen? ⟨b,2,none⟩ = false /\ A2.frozen? ⟨b,3,none⟩ = false) /\
 Hid (Box A3 b t #[v0,v1,v2,v3,u4] /\ (∀ p t' vs,p ≠ b -> Box W p t' vs -> Box A3 p t' vs) /\ (∀ base e s v n xs,e ≠ t -> W.ownsRow base e s v n xs -> A3.ownsRow base e s v n xs) /\ (∀ B x,B <= b -> Below B x W -> Below B x A3) /\ A3.heap.size = W.heap.size):=by
 have h0 : Box _ b t #[v0,u1,u2,u3,u4]:=h.set 0 v0
 have h1 : Box _ b t #[v0,v1,u2,u3,u4]:=h0.set 1 v1
 have h2 : Box _ b t #[v0,v1,v2,u3,u4]:=h1.set 2 v2
 have h3 : Box _ b t #[v0,v1,v2,v3,u4]:=h2.set 3 v3
 exact ⟨_,_,_,_,rfl,rfl,rfl,rfl,⟨h.cell 0,h0.cell 1,h1.cell 2,h2.cell 3⟩,⟨h.free 0,h0.free 1,h1.free 2,h2.free 3⟩,h3,fun p t' vs hne g => ((((g.other ⟨b,0,none⟩ v0 hne).other ⟨b,1,none⟩ v1 hne).other ⟨b,2,none⟩ v2 hne).other ⟨b,3,none⟩ v3 hne),fun base e s v n xs ht g => (by have kk:=qown_box g h ht; exact (qown_put (qown_put (qown_put (qown_put g _ kk 0 v0) _ kk 1 v1) _ kk 2 v2) _ kk 3 v3)),fun B x hB g => ((((g.setCell (p:=⟨b,0,none⟩) hB v0).setCell (p:=⟨b,1,none⟩) hB v1).setCell (p:=⟨b,2,none⟩) hB v2).setCell (p:=⟨b,3,none⟩) hB v3),by simp [World.setCell]⟩
def hdGood (s : ByteArray) (code : Int) : Prop:=tword s.data.toList = [112,111,114,116] /\ tname (tword (trest s.data.toList)) = true /\ code = 0
def RdhW (w : World) (B : Nat) (s : ByteArray) (W : World) (e : Ending) (W' : World) : Prop :=
 ∃ (n : Bool) (xs ys : List Int) (code : Int),RTells (prErr ⟨(trest (trest s.data.toList)).toArray⟩) (rpq (trest (trest s.data.toList))) n xs ys code /\ (∀ b t vs,b ≠ B -> Box W b t vs -> Box W' b t vs) /\ ((¬ hdGood s code /\ e = .returned (.bool false) /\ Below w.heap.size w W') \/ (hdGood s code /\ e = .returned (.bool true) /\ ∃ (nm : ByteArray) (a1 a2 : Option Addr) (c1 c2 : Nat),nm.data.toList = tword (trest s.data.toList) /\ CpI ⟨nm,n,xs,ys,[]⟩ w B a1 c1 a2 c2 [] [] none 0 W'))
set_option maxRecDepth 100000 in
theorem pReadHead_any (w : World) (B : Nat) (s : ByteArray) (hs : s.size <= 65536) (W : World) (hW : Below w.heap.size w W) (hB : w.heap.size + 1 < B) (hb : Box W B 27 #[.string ⟨#[]⟩,.bool false,.slice none 0 0,.slice none 0 0,.slice none 0 0]) : Calls Tryz.prog 110 #[.pointer (some ⟨B,0,none⟩),.string s] W (RdhW w B s W):=by
 have HB:=hid hb
 have HWW:=hid hW
 have HLO:=hid hB
 have HC1:=hid (pcut_any s W hs)
 clear hb hW hB
 go_enter Tryz.func110,Tryz.ntmps110
 go_wp2_with fail
 refine Calls.mono HC1.out ?_
 rintro e w1 ⟨s1,s2,f1,rfl,h1,h2,_,hs2,b1⟩
 have HC2:=hid (pcut_any s2 w1 hs2)
 go_wp2_with fail
 refine Calls.mono HC2.out ?_
 rintro e w2 ⟨s3,s4,f2,rfl,h3,h4,hs3,hs4,b2⟩
 have HC3:=hid (rparse_any s4 w2 hs4)
 go_wp2_with fail
 refine Calls.mono HC3.out ?_
 rintro e w3 ⟨n,v,xs,u,ys,code,rfl,ov,ou,ht,b3,k3⟩
 obtain ⟨av,cv,rfl⟩:=own_slice' ov
 obtain ⟨au,cu,rfl⟩:=own_slice' ou
 have HT : Hid (RTells (prErr ⟨(trest (trest s.data.toList)).toArray⟩) (rpq (trest (trest s.data.toList))) n xs ys code):=by
  have e4 : s4.data.toList = trest (trest s.data.toList):=by rw [h4,h2]
  have e5 : (⟨(trest (trest s.data.toList)).toArray⟩ : ByteArray) = s4:=ByteArray.ext (by rw [<- e4])
  rw [e5,<- e4]
  exact ht
 have HNM : Hid (s3.data.toList = tword (trest s.data.toList)):=by show _ = _; rw [h3,h2]
 have HFS : Hid (s1.toList = [112,111,114,116] ↔ tword s.data.toList = [112,111,114,116]):=by
  show _ ↔ _
  rw [<- h1,ByteArray.toList_eq]
 have HO1:=hid ov
 have HO2:=hid ou
 have HK3:=hid k3
 have HV2:=hid (bt HWW.out (bt b1 b2))
 have HB3:=hid b3
 have HNE : Hid (w3.heap.size ≠ B):=by
  have h1:=(bt b1 (bt b2 b3)).size
  have h2:=HB.out.lt
  show _ ≠ _
  omega
 have HS3:=hid hs3
 obtain ⟨W4,hW4⟩ : ∃ W4,w3.alloc (.cells #[.bool n,.slice av xs.length cv,.slice au ys.length cu] 24) = W4:=⟨_,rfl⟩
 have HM4 : Hid (Box W4 w3.heap.size 24 #[.bool n,.slice av xs.length cv,.slice au ys.length cu]):=by
  subst hW4
  exact Box.made w3 _ _
 have HB4 : Hid (Below w3.heap.size w3 W4):=by
  subst hW4
  exact alloc_later _ _
 have HBK : Hid (∀ b t vs,Box W b t vs -> Box W4 b t vs):=fun b t vs h => h.later (bt b1 (bt b2 (bt b3 HB4.out))) h.lt
 have HBW:=hid (bt HWW.out (bt b1 (bt b2 (bt b3 HB4.out))))
 have HN:=hid (tName_any s3 W4 (by omega))
 clear HC1 HC2 HC3 h1 h2 h3 h4 ov ou ht k3 b1 b2 b3 hs2 hs3 hs4
 by_cases hf : s1.toList = [112,111,114,116]
 · have hf' : (s1.toList == [112,111,114,116]) = true:=by rw [hf]; rfl
   have HF:=hid (HFS.out.1 hf)
   clear hf
   go_wp2_with fail
   refine Calls.mono HN.out ?_
   rintro e w5 ⟨rfl,rfl⟩
   cases hn : tname s3.data.toList with
   | false =>
    have HNF:=hid hn
    clear hn hf'
    go_wp2_with fail
    go_ret
    unfold RdhW
    exact ⟨n,xs,ys,code,HT.out,fun b t vs _ h => HBK.out b t vs h,.inl ⟨fun h => (by have:=h.2.1; rw [<- HNM.out,HNF.out] at this; cases this),rfl,HBW.out⟩⟩
   | true =>
    have HNF:=hid hn
    clear hn
    by_cases hc0 : code = 0
    · subst hc0
      have m0 : W4.cell? ⟨w3.heap.size,0,none⟩ = some (.bool n):=HM4.out.cell 0
      have m1 : W4.cell? ⟨w3.heap.size,1,none⟩ = some (.slice av xs.length cv):=HM4.out.cell 1
      have m2 : W4.cell? ⟨w3.heap.size,2,none⟩ = some (.slice au ys.length cu):=HM4.out.cell 2
      have HCL:=hid (fun V : World => tclone_any s3 V (by have:=HS3.out; omega))
      clear hf'
      go_wp2_with fail
      clear hW4
      go_region_law (first
       | (go_simp; go_at_call 167; (with_reducible refine Calls.mono (HCL.out _) ?_); rintro e w6 ⟨rfl,b6'⟩; have b6 : Below W4.heap.size W4 w6:=(by first | exact b6' | exact bt ((Below.refl W4.heap.size W4).drew) b6'); clear b6'; have HB6:=hid ((HBK.out B _ _ HB.out).later b6 (HBK.out B _ _ HB.out).lt); obtain ⟨A0,A1,A2,A3,q0,q1,q2,q3,⟨r0,r1,r2,r3⟩,⟨f0,f1,f2,f3⟩,HA⟩:=pchain4 HB6.out (.string s3) (.bool n) (.slice av xs.length cv) (.slice au ys.length cu); have HM6:=hid (HM4.out.later b6 HM4.out.lt); have n0 : w6.cell? ⟨w3.heap.size,0,none⟩ = some (.bool n):=HM6.out.cell 0; have n1 : w6.cell? ⟨w3.heap.size,1,none⟩ = some (.slice av xs.length cv):=HM6.out.cell 1; have n2 : w6.cell? ⟨w3.heap.size,2,none⟩ = some (.slice au ys.length cu):=HM6.out.cell 2; have HMA : Hid (Box A0 w3.heap.size 24 #[.bool n,.slice av xs.length cv,.slice au ys.length cu]):=(by rw [<- q0]; exact HM6.out.other ⟨B,0,none⟩ (.string s3) HNE.out); have k0 : A0.cell? ⟨w3.heap.size,0,none⟩ = some (.bool n):=HMA.out.cell 0; have k1 : A0.cell? ⟨w3.heap.size,1,none⟩ = some (.slice av xs.length cv):=HMA.out.cell 1; have k2 : A0.cell? ⟨w3.heap.size,2,none⟩ = some (.slice au ys.length cu):=HMA.out.cell 2; have HL6:=hid b6; dsimp only))
      all_goals
       have HCP:=hid (CpI.start (p:=⟨s3,n,xs,ys,[]⟩) HV2.out HO1.out HO2.out HB3.out HK3.out (bt HB4.out HL6.out) HA.out HLO.out)
       have HKB : Hid (∀ b t vs,b ≠ B -> Box W b t vs -> Box A3 b t vs):=fun b t vs hne h => HA.out.2.1 b t vs hne ((HBK.out b t vs h).later HL6.out (HBK.out b t vs h).lt)
       clear n0 n1 n2 k0 k1 k2 HMA m0 m1 m2 r0 r1 r2 r3 f0 f1 f2 f3 HM6 HB6 HA
       go_wp2_with fail
       go_ret
       unfold RdhW
       exact ⟨n,xs,ys,0,HT.out,HKB.out,.inr ⟨⟨HF.out,by rw [<- HNM.out]; exact HNF.out,rfl⟩,rfl,s3,_,_,_,_,HNM.out,HCP.out⟩⟩
    · have h0' : (code == 0) = false:=by simp [hc0]
      have h0'' : (code != 0) = true:=by simp [hc0]
      have HCN:=hid hc0
      clear hc0 hf'
      go_wp2_with fail
      go_ret
      unfold RdhW
      exact ⟨n,xs,ys,code,HT.out,fun b t vs _ h => HBK.out b t vs h,.inl ⟨fun h => HCN.out h.2.2,rfl,HBW.out⟩⟩
 · have hf' : (s1.toList == [112,111,114,116]) = false:=by simp [hf]
   have HF:=hid (fun h => hf (HFS.out.2 h))
   clear hf
   go_wp2_with fail
   go_ret
   unfold RdhW
   exact ⟨n,xs,ys,code,HT.out,fun b t vs _ h => HBK.out b t vs h,.inl ⟨fun h => HF.out h.1,rfl,HBW.out⟩⟩
def lline (l : List UInt8) : List UInt8:=(Lib.cut l [10]).1
def lrest (l : List UInt8) : List UInt8:=(Lib.cut l [10]).2.1
def lend (l : List UInt8) : Bool:=(Lib.cut l [10]).2.2
def TdS : List UInt8 -> List TV -> List UInt8 -> Prop
 | l,[],r => r = l
 | l,u :: us,r => l ≠ [] /\ lend l = true /\ PaT ⟨(lline l).toArray⟩ u 0 /\ TdS (lrest l) us r
theorem TdS.snoc {u : TV} {r : List UInt8} (h0 : r ≠ []) (h1 : lend r = true) (h2 : PaT ⟨(lline r).toArray⟩ u 0) : ∀ {us : List TV} {l : List UInt8},TdS l us r -> TdS l (us ++ [u]) (lrest r)
 | [],l,h => by
  obtain rfl : r = l:=h
  exact ⟨h0,h1,h2,rfl⟩
 | v :: us,l,h => ⟨h.1,h.2.1,h.2.2.1,TdS.snoc h0 h1 h2 h.2.2.2⟩
theorem Made.put {q : PL} {v : PV} {w V W A : World} {b : Nat} (hm : Made q v V W) (hV : Below w.heap.size w V) (hb : w.heap.size <= b) (hA : Box A b 27 #[.string q.s,.bool q.n,.slice q.a q.xs.length q.ca,.slice q.b q.ys.length q.cb,.slice q.t q.ts.length q.ct] /\ (∀ b' t' vs,b' ≠ b -> Box W b' t' vs -> Box A b' t' vs) /\ (∀ base e s v n xs,e ≠ 27 -> W.ownsRow base e s v n xs -> A.ownsRow base e s v n xs) /\ (∀ B' x,B' <= b -> Below B' x W -> Below B' x A) /\ A.heap.size = W.heap.size) : Made q v w A:=by
 obtain ⟨_,_,h3,h4,h5⟩:=hA
 obtain ⟨c,d,c0,c1,l0,l1,sq⟩:=hm.sep
 have hs:=hV.size
 have ho:=hm.ow.base hs
 refine ⟨hm.v,⟨h3 _ _ _ _ _ _ (by decide) ho.mx,h3 _ _ _ _ _ _ (by decide) ho.my,h3 _ _ _ _ _ _ (by decide) ho.row,fun t ht => ?_⟩,⟨c,d,by omega,c1,fun g e => by have:=l0 g e; omega,l1,sq.wide (Nat.le_refl _) (by omega)⟩,h4 _ _ hb (bt hV hm.bel)⟩
 have q:=ho.els t ht
 exact ⟨h3 _ _ _ _ _ _ (by decide) q.1,h3 _ _ _ _ _ _ (by decide) q.2.1,h3 _ _ _ _ _ _ (by decide) q.2.2.1,h3 _ _ _ _ _ _ (by decide) q.2.2.2⟩
theorem PL.good.at_ {p : PL} (h : p.good) {j : Nat} (hj : j < p.ts.length) : (tT p.ts j).chk = 0:=(h.all j hj).1
def CnT (p : PL) (q : PL) (c : Int) (w w' : World) : Prop:=(∃ z,PChk p.hd p.ts c z /\ c ≠ 0 /\ Made q PV.zero w w') \/ (p.good /\ c = 0 /\ ∃ vs : List TV,vs.length = p.ts.length /\ (∀ j v,vs[j]? = some v -> CjT (tT p.ts j).v v 0) /\ Made q ⟨p.s,p.n,p.xs,p.ys,vs⟩ w w')
set_option maxRecDepth 100000 in
theorem pConj_any (p : PL) (w : World) (hp : p.ok w) : Calls Tryz.prog 29 #[.agg p.cells] w fun e w' => ∃ (q : PL) (c : Int),e = .returned (.tuple #[.agg q.cells,.int .i64 c]) /\ CnT p q c w w':=by
 obtain ⟨X,hX⟩ : ∃ X,w.alloc (.cells #[.string p.s,.bool p.n,.slice p.a p.xs.length p.ca,.slice p.b p.ys.length p.cb,.slice p.t p.ts.length p.ct] 27) = X:=⟨_,rfl⟩
 obtain ⟨Y,hY⟩ : ∃ Y,X.alloc (.cells #[.string ⟨#[]⟩,.bool false,.slice none 0 0,.slice none 0 0,.slice none 0 0] 27) = Y:=⟨_,rfl⟩
 have hXs : X.heap.size = w.heap.size + 1:=by subst hX; simp
 have HX : Hid (Box Y w.heap.size 27 #[.string p.s,.bool p.n,.slice p.a p.xs.length p.ca,.slice p.b p.ys.length p.cb,.slice p.t p.ts.length p.ct]):=by
  subst hY hX
  exact (Box.made w _ _).later (alloc_later _ _) (Box.made w 27 _).lt
 have HR : Hid (Box Y (w.heap.size + 1) 27 #[.string ⟨#[]⟩,.bool false,.slice none 0 0,.slice none 0 0,.slice none 0 0]):=by
  rw [<- hXs]
  subst hY
  exact Box.made X _ _
 have HB : Hid (Below w.heap.size w Y):=by
  subst hY hX
  exact bt (alloc_later _ _) (alloc_later _ _)
 have HYs : Hid (w.heap.size + 1 < Y.heap.size):=HR.out.lt
 have HCH : Hid (p.good -> ∀ V,Below Y.heap.size Y V -> Calls Tryz.prog 54 #[.agg #[.string p.s,.bool p.n,.slice p.a p.xs.length p.ca,.slice p.b p.ys.length p.cb,.slice p.t p.ts.length p.ct],.func (.func 12) #[] #[]] V fun e w' => ∃ (q : PL) (c : Int),e = .returned (.tuple #[.agg #[.string q.s,.bool q.n,.slice q.a q.xs.length q.ca,.slice q.b q.ys.length q.cb,.slice q.t q.ts.length q.ct],.int .i64 c]) /\ ChT p (fun j => CjT (tT p.ts j).v) q c V w'):=fun hg V hV => by
  have hpV:=hp.later (bt HB.out hV)
  exact pchanged_any 12 #[] p V hpV hg.few (enters_of Tryz.func12 (by kernel_rfl) rfl) _ (fun j U hj hU => pConjC_any (tT p.ts j) U ((hpV.ts.later hU).1 _ (tT_mem hj)) (hg.at_ hj))
 have HC1:=hid (plcheck_any p Y (hp.later HB.out))
 have HG : Hid (∀ z,PChk p.hd p.ts 0 z -> p.good):=fun z h => h.good.1
 have k0 : Y.cell? ⟨w.heap.size,0,none⟩ = some (.string p.s):=HX.out.cell 0
 have k1 : Y.cell? ⟨w.heap.size,1,none⟩ = some (.bool p.n):=HX.out.cell 1
 have k2 : Y.cell? ⟨w.heap.size,2,none⟩ = some (.slice p.a p.xs.length p.ca):=HX.out.cell 2
 have k3 : Y.cell? ⟨w.heap.size,3,none⟩ = some (.slice p.b p.ys.length p.cb):=HX.out.cell 3
 have k4 : Y.cell? ⟨w.heap.size,4,none⟩ = some (.slice p.t p.ts.length p.ct):=HX.out.cell 4
 unfold PL.cells
 clear hp
 go_enter Tryz.func29,Tryz.ntmps29
 go_wp2_with fail
 refine Calls.mono HC1.out ?_
 rintro e w1 ⟨c,z,rfl,hc,b1⟩
 have HX1:=hid (HX.out.later b1 HX.out.lt)
 have HR1:=hid (HR.out.later b1 HR.out.lt)
 obtain ⟨W2,hW2⟩ : ∃ W2,w1.alloc (.cells #[.int .i64 0,.int .i64 0] 40) = W2:=⟨_,rfl⟩
 have HF : Hid (Box W2 w1.heap.size 40 #[.int .i64 0,.int .i64 0]):=by
  subst hW2
  exact Box.made w1 _ _
 have HB2 : Hid (Below w1.heap.size w1 W2):=by
  subst hW2
  exact alloc_later _ _
 have hs1 : Y.heap.size <= w1.heap.size:=b1.size
 obtain ⟨A0,A1,q0,q1,⟨r0,r1⟩,⟨v0,v1⟩,HA⟩:=rchain2 HF.out (by decide) (.int .i64 c) (.int .i64 z)
 have hy:=HYs.out
 have HYA : Hid (Below Y.heap.size Y A1):=HA.out.2.2.2.1 _ _ hs1 (bt b1 HB2.out)
 have HXA:=hid (HA.out.2.1 _ _ _ (show w.heap.size ≠ w1.heap.size by omega) (HX1.out.later HB2.out HX1.out.lt))
 have HRA:=hid (HA.out.2.1 _ _ _ (show w.heap.size + 1 ≠ w1.heap.size by omega) (HR1.out.later HB2.out HR1.out.lt))
 have HBA:=hid (bt HB.out HYA.out)
 have y0 : A1.cell? ⟨w1.heap.size,0,none⟩ = some (.int .i64 c):=HA.out.1.cell 0
 have HCK:=hid hc
 clear b1 HC1 k0 k1 k2 k3 k4 HX1 HR1 HF HB2 HX HR hc hX hY
 by_cases hc0 : c = 0
 · subst hc0
   have hG:=HG.out _ HCK.out
   have k0 : A1.cell? ⟨w.heap.size,0,none⟩ = some (.string p.s):=HXA.out.cell 0
   have k1 : A1.cell? ⟨w.heap.size,1,none⟩ = some (.bool p.n):=HXA.out.cell 1
   have k2 : A1.cell? ⟨w.heap.size,2,none⟩ = some (.slice p.a p.xs.length p.ca):=HXA.out.cell 2
   have k3 : A1.cell? ⟨w.heap.size,3,none⟩ = some (.slice p.b p.ys.length p.cb):=HXA.out.cell 3
   have k4 : A1.cell? ⟨w.heap.size,4,none⟩ = some (.slice p.t p.ts.length p.ct):=HXA.out.cell 4
   have HGG:=hid hG
   go_wp2_with fail
   refine Calls.mono (HCH.out hG A1 HYA.out) ?_
   rintro e w5 ⟨q,c5,rfl,hch⟩
   have hm : ∃ v,Made q v A1 w5:=by
    rcases hch with ⟨_,_,_,_,_,_,h⟩ | ⟨_,_,_,_,h⟩
    · exact ⟨_,h⟩
    · exact ⟨_,h⟩
   obtain ⟨v5,hm⟩:=hm
   have HR5:=hid (HRA.out.later hm.bel HRA.out.lt)
   obtain ⟨A2,A3,A4,A5,A6,q0,q1,q2,q3,q4,⟨r0,r1,r2,r3,r4⟩,⟨f0,f1,f2,f3,f4⟩,HA⟩:=pchain5 HR5.out (.string q.s) (.bool q.n) (.slice q.a q.xs.length q.ca) (.slice q.b q.ys.length q.cb) (.slice q.t q.ts.length q.ct)
   have HD : Hid (CnT p q c5 w A6):=by
    rcases hch with ⟨i,v,hi,_,hr,hn,h⟩ | ⟨h0,vs,h1,h2,h⟩
    · exact absurd hr.1 hn
    · exact .inr ⟨HGG.out,h0,vs,h1,(fun j v hj => h2 j v hj),h.put HBA.out (Nat.le_succ _) HA.out⟩
   have HE:=hid HA.out.1
   clear hm hch HCH HG HXA HRA HYA HBA k0 k1 k2 k3 k4 HA HR5
   go_wp2_with fail
   exact bodyPost_ret (pres_run (by rfl) HE.out _ rfl) rfl ⟨q,c5,rfl,HD.out⟩
 · have h0' : (c == 0) = false:=by simp [hc0]
   have h0'' : (c != 0) = true:=by simp [hc0]
   obtain ⟨⟨s0,s1,s2,s3,s4⟩,⟨x0,x1,x2,x3,x4⟩,⟨u0,u1,u2,u3,u4⟩⟩:=pzero5 HRA.out
   clear HCH HG HXA HYA
   go_wp2_with fail
   go_region_held3 (fun V : World => V.cell? ⟨w1.heap.size,0,none⟩ = some (.int .i64 c)) (first | exact y0 | go_keep) (fail)
   all_goals
    have HCN:=hid hc0
    clear hc0
    go_wp2_with fail
    exact bodyPost_ret (pres_run (by rfl) (HRA.out.drewN 1) _ rfl) rfl ⟨PL.zero,c,rfl,.inl ⟨z,HCK.out,HCN.out,Made.none HBA.out.drew⟩⟩
def MoT (p : PL) (n : Int) (q : PL) (c : Int) (w w' : World) : Prop:=(∃ z,PChk p.hd p.ts c z /\ c ≠ 0 /\ Made q PV.zero w w') \/ (p.good /\ ((¬ (-1024 <= n /\ n <= 1024) /\ c = 2 /\ Made q PV.zero w w') \/ ((-1024 <= n /\ n <= 1024) /\ ((∃ i,i < p.ts.length /\ mlong (tT p.ts i).v.q1 (tT p.ts i).v.q2 (oP (tT p.ts i).f (tT p.ts i).r n).1 (oP (tT p.ts i).f (tT p.ts i).r n).2 /\ c = 3 /\ Made q PV.zero w w') \/ (c = 0 /\ ∃ vs : List TV,vs.length = p.ts.length /\ (∀ j v,vs[j]? = some v -> MvT n (tT p.ts j).v v 0) /\ Made q ⟨p.s,p.n,p.xs,p.ys,vs⟩ w w')))))
set_option maxRecDepth 100000 in
theorem pMoved_any (p : PL) (n : Int) (w : World) (hp : p.ok w) : Calls Tryz.prog 15 #[.agg p.cells,.int .i64 n] w fun e w' => ∃ (q : PL) (c : Int),e = .returned (.tuple #[.agg q.cells,.int .i64 c]) /\ MoT p n q c w w':=by
 obtain ⟨X,hX⟩ : ∃ X,w.alloc (.cells #[.string p.s,.bool p.n,.slice p.a p.xs.length p.ca,.slice p.b p.ys.length p.cb,.slice p.t p.ts.length p.ct] 27) = X:=⟨_,rfl⟩
 obtain ⟨X2,hX2⟩ : ∃ X2,X.alloc (.cells #[.int .i64 n] 3) = X2:=⟨_,rfl⟩
 obtain ⟨Y,hY⟩ : ∃ Y,X2.alloc (.cells #[.string ⟨#[]⟩,.bool false,.slice none 0 0,.slice none 0 0,.slice none 0 0] 27) = Y:=⟨_,rfl⟩
 have hXs : X.heap.size = w.heap.size + 1:=by subst hX; simp
 have hXs2 : X2.heap.size = w.heap.size + 1 + 1:=by subst hX2; simp [hXs]
 have HX : Hid (Box Y w.heap.size 27 #[.string p.s,.bool p.n,.slice p.a p.xs.length p.ca,.slice p.b p.ys.length p.cb,.slice p.t p.ts.length p.ct]):=by
  subst hY hX2 hX
  exact (Box.made w _ _).later (bt (alloc_later _ _) (alloc_later _ _)) (Box.made w 27 _).lt
 have HI : Hid (Box Y (w.heap.size + 1) 3 #[.int .i64 n]):=by
  rw [<- hXs]
  subst hY hX2
  exact (Box.made X _ _).later (alloc_later _ _) (Box.made X 3 _).lt
 have HR : Hid (Box Y (w.heap.size + 1 + 1) 27 #[.string ⟨#[]⟩,.bool false,.slice none 0 0,.slice none 0 0,.slice none 0 0]):=by
  rw [<- hXs2]
  subst hY
  exact Box.made X2 _ _
 have HB : Hid (Below w.heap.size w Y):=by
  subst hY hX2 hX
  exact bt (alloc_later _ _) (bt (alloc_later _ _) (alloc_later _ _))
 have HYs : Hid (w.heap.size + 1 + 1 < Y.heap.size):=HR.out.lt
 have HCH : Hid (p.good -> -1024 <= n -> n <= 1024 -> ∀ V,Below Y.heap.size Y V -> Box V (w.heap.size + 1) 3 #[.int .i64 n] -> Calls Tryz.prog 54 #[.agg #[.string p.s,.bool p.n,.slice p.a p.xs.length p.ca,.slice p.b p.ys.length p.cb,.slice p.t p.ts.length p.ct],.func (.func 55) #[] #[.pointer (some ⟨w.heap.size + 1,0,none⟩)]] V fun e w' => ∃ (q : PL) (c : Int),e = .returned (.tuple #[.agg #[.string q.s,.bool q.n,.slice q.a q.xs.length q.ca,.slice q.b q.ys.length q.cb,.slice q.t q.ts.length q.ct],.int .i64 c]) /\ ChT p (fun j => MvT n (tT p.ts j).v) q c V w'):=fun hg n0 n1 V hV hbx => by
  have hpV:=hp.later (bt HB.out hV)
  exact pchanged_any 55 #[.pointer (some ⟨w.heap.size + 1,0,none⟩)] p V hpV hg.few (enters_of Tryz.func55 (by kernel_rfl) rfl) _ (fun j U hj hU => pMovedC_any (tT p.ts j) n (w.heap.size + 1) U ((hpV.ts.later hU).1 _ (tT_mem hj)) (hg.at_ hj) n0 n1 (hbx.later hU hbx.lt))
 have HC1:=hid (plcheck_any p Y (hp.later HB.out))
 have HG : Hid (∀ z,PChk p.hd p.ts 0 z -> p.good):=fun z h => h.good.1
 have k0 : Y.cell? ⟨w.heap.size,0,none⟩ = some (.string p.s):=HX.out.cell 0
 have k1 : Y.cell? ⟨w.heap.size,1,none⟩ = some (.bool p.n):=HX.out.cell 1
 have k2 : Y.cell? ⟨w.heap.size,2,none⟩ = some (.slice p.a p.xs.length p.ca):=HX.out.cell 2
 have k3 : Y.cell? ⟨w.heap.size,3,none⟩ = some (.slice p.b p.ys.length p.cb):=HX.out.cell 3
 have k4 : Y.cell? ⟨w.heap.size,4,none⟩ = some (.slice p.t p.ts.length p.ct):=HX.out.cell 4
 unfold PL.cells
 clear hp
 go_enter Tryz.func15,Tryz.ntmps15
 go_wp2_with fail
 refine Calls.mono HC1.out ?_
 rintro e w1 ⟨c,z,rfl,hc,b1⟩
 have HX1:=hid (HX.out.later b1 HX.out.lt)
 have HR1:=hid (HR.out.later b1 HR.out.lt)
 have HI1:=hid (HI.out.later b1 HI.out.lt)
 obtain ⟨W2,hW2⟩ : ∃ W2,w1.alloc (.cells #[.int .i64 0,.int .i64 0] 40) = W2:=⟨_,rfl⟩
 have HF : Hid (Box W2 w1.heap.size 40 #[.int .i64 0,.int .i64 0]):=by
  subst hW2
  exact Box.made w1 _ _
 have HB2 : Hid (Below w1.heap.size w1 W2):=by
  subst hW2
  exact alloc_later _ _
 have hs1 : Y.heap.size <= w1.heap.size:=b1.size
 obtain ⟨A0,A1,q0,q1,⟨r0,r1⟩,⟨v0,v1⟩,HA⟩:=rchain2 HF.out (by decide) (.int .i64 c) (.int .i64 z)
 have hy:=HYs.out
 have HYA : Hid (Below Y.heap.size Y A1):=HA.out.2.2.2.1 _ _ hs1 (bt b1 HB2.out)
 have HXA:=hid (HA.out.2.1 _ _ _ (show w.heap.size ≠ w1.heap.size by omega) (HX1.out.later HB2.out HX1.out.lt))
 have HRA:=hid (HA.out.2.1 _ _ _ (show w.heap.size + 1 + 1 ≠ w1.heap.size by omega) (HR1.out.later HB2.out HR1.out.lt))
 have HIA:=hid (HA.out.2.1 _ _ _ (show w.heap.size + 1 ≠ w1.heap.size by omega) (HI1.out.later HB2.out HI1.out.lt))
 have HBA:=hid (bt HB.out HYA.out)
 have y0 : A1.cell? ⟨w1.heap.size,0,none⟩ = some (.int .i64 c):=HA.out.1.cell 0
 have HCK:=hid hc
 clear b1 HC1 k0 k1 k2 k3 k4 HX1 HR1 HF HB2 HX HR hc HI HI1
 by_cases hc0 : c = 0
 · subst hc0
   have hG:=HG.out _ HCK.out
   have HGG:=hid hG
   have kn : A1.cell? ⟨w.heap.size + 1,0,none⟩ = some (.int .i64 n):=HIA.out.cell 0
   by_cases hn : -1024 <= n /\ n <= 1024
   · obtain ⟨n0,n1⟩:=hn
     have HN:=hid (And.intro n0 n1)
     have n0' : ¬ n < -1024:=by omega
     have n1' : ¬ n > 1024:=by omega
     have n2' : ¬ 1024 < n:=by omega
     have k0 : A1.cell? ⟨w.heap.size,0,none⟩ = some (.string p.s):=HXA.out.cell 0
     have k1 : A1.cell? ⟨w.heap.size,1,none⟩ = some (.bool p.n):=HXA.out.cell 1
     have k2 : A1.cell? ⟨w.heap.size,2,none⟩ = some (.slice p.a p.xs.length p.ca):=HXA.out.cell 2
     have k3 : A1.cell? ⟨w.heap.size,3,none⟩ = some (.slice p.b p.ys.length p.cb):=HXA.out.cell 3
     have k4 : A1.cell? ⟨w.heap.size,4,none⟩ = some (.slice p.t p.ts.length p.ct):=HXA.out.cell 4
     have hcall:=HCH.out hG n0 n1 A1 HYA.out HIA.out
     clear n0 n1
     go_wp2_with fail
     refine Calls.mono hcall ?_
     rintro e w5 ⟨q,c5,rfl,hch⟩
     have hm : ∃ v,Made q v A1 w5:=by
      rcases hch with ⟨_,_,_,_,_,_,h⟩ | ⟨_,_,_,_,h⟩
      · exact ⟨_,h⟩
      · exact ⟨_,h⟩
     obtain ⟨v5,hm⟩:=hm
     have HR5:=hid (HRA.out.later hm.bel HRA.out.lt)
     obtain ⟨A2,A3,A4,A5,A6,q0,q1,q2,q3,q4,⟨r0,r1,r2,r3,r4⟩,⟨f0,f1,f2,f3,f4⟩,HA⟩:=pchain5 HR5.out (.string q.s) (.bool q.n) (.slice q.a q.xs.length q.ca) (.slice q.b q.ys.length q.cb) (.slice q.t q.ts.length q.ct)
     have HD : Hid (MoT p n q c5 w A6):=by
      rcases hch with ⟨i,v,hi,_,hr,hn,h⟩ | ⟨h0,vs,h1,h2,h⟩
      · rcases hr with ⟨hl,hc3⟩ | ⟨_,hc3,_⟩
        · exact .inr ⟨HGG.out,.inr ⟨HN.out,.inl ⟨i,hi,hl,hc3,h.put HBA.out (by omega) HA.out⟩⟩⟩
        · exact absurd hc3 hn
      · exact .inr ⟨HGG.out,.inr ⟨HN.out,.inr ⟨h0,vs,h1,(fun j v hj => h2 j v hj),h.put HBA.out (by omega) HA.out⟩⟩⟩
     have HE:=hid HA.out.1
     clear hm hch HCH HG HXA HRA HYA HBA k0 k1 k2 k3 k4 HA HR5 hcall
     go_wp2_with fail
     exact bodyPost_ret (pres_run (by rfl) HE.out _ rfl) rfl ⟨q,c5,rfl,HD.out⟩
   · have HN:=hid hn
     obtain ⟨⟨s0,s1,s2,s3,s4⟩,⟨x0,x1,x2,x3,x4⟩,⟨u0,u1,u2,u3,u4⟩⟩:=pzero5 HRA.out
     clear HCH HG HXA HYA
     by_cases hn0 : n < -1024
     · clear hn
       go_wp2_with fail
       exact bodyPost_ret (pres_run (by rfl) HRA.out _ rfl) rfl ⟨PL.zero,2,rfl,.inr ⟨HGG.out,.inl ⟨HN.out,rfl,Made.none HBA.out⟩⟩⟩
     · have hn1 : 1024 < n:=by omega
       clear hn
       go_wp2_with fail
       exact bodyPost_ret (pres_run (by rfl) HRA.out _ rfl) rfl ⟨PL.zero,2,rfl,.inr ⟨HGG.out,.inl ⟨HN.out,rfl,Made.none HBA.out⟩⟩⟩
 · have h0' : (c == 0) = false:=by simp [hc0]
   have h0'' : (c != 0) = true:=by simp [hc0]
   obtain ⟨⟨s0,s1,s2,s3,s4⟩,⟨x0,x1,x2,x3,x4⟩,⟨u0,u1,u2,u3,u4⟩⟩:=pzero5 HRA.out
   clear HCH HG HXA HYA
   go_wp2_with fail
   go_region_held3 (fun V : World => V.cell? ⟨w1.heap.size,0,none⟩ = some (.int .i64 c)) (first | exact y0 | go_keep) (fail)
   all_goals
    have HCN:=hid hc0
    clear hc0
    go_wp2_with fail
    exact bodyPost_ret (pres_run (by rfl) (HRA.out.drewN 1) _ rfl) rfl ⟨PL.zero,c,rfl,.inl ⟨z,HCK.out,HCN.out,Made.none HBA.out.drew⟩⟩
def smB (a b : TL) : Bool:=decide (a.s = b.s) && (a.f == b.f && a.r == b.r) && (decide (a.n = b.n /\ a.xs = b.xs /\ a.ys = b.ys) && decide (a.m = b.m /\ a.us = b.us /\ a.vs = b.vs))
def TL.short (t : TL) : Prop:=t.xs.length <= 281474976710656 /\ t.ys.length <= 281474976710656 /\ t.us.length <= 281474976710656 /\ t.vs.length <= 281474976710656
theorem tlsame_any (a b : TL) (w : World) (ha : a.ok w) (hb : b.ok w) (sa : a.short) (sb : b.short) : Calls Tryz.prog 77 #[.agg a.cells,.agg b.cells] w fun e w' => e = .returned (.bool (smB a b)) /\ Below w.heap.size w w' :=
 tSame_any a.s a.f a.r a.n a.a a.ca a.xs a.b a.cb a.ys a.m a.c a.cc a.us a.d a.cd a.vs b.s b.f b.r b.n b.a b.ca b.xs b.b b.cb b.ys b.m b.c b.cc b.us b.d b.cd b.vs w ha.sx ha.sy ha.su ha.sv hb.sx hb.sy hb.su hb.sv sa.1 sa.2.1 sa.2.2.1 sa.2.2.2 sb.1 sb.2.1 sb.2.2.1 sb.2.2.2
theorem nmEq {s t : ByteArray} : (s.toList == t.toList) = true ↔ s = t:=by
 constructor
 · intro h
   rw [ByteArray.toList_eq,ByteArray.toList_eq] at h
   exact ByteArray.ext (Array.toList_inj.1 (eq_of_beq h))
 · rintro rfl; simp
theorem nmEq' {s t : ByteArray} : s.data.toList = t.data.toList ↔ s = t:=⟨fun h => ByteArray.ext (Array.toList_inj.1 h),fun h => by rw [h]⟩
def vT (vs : List TV) (j : Nat) : TV:=vs[j]?.getD TV.zero
theorem vT_at {vs : List TV} {j : Nat} (h : j < vs.length) : vs[j]? = some (vT vs j):=by
 unfold vT
 rw [List.getElem?_eq_getElem h]; rfl
theorem vT_of {vs : List TV} {j : Nat} {v : TV} (h : vs[j]? = some v) : vT vs j = v:=by
 unfold vT
 rw [h]; rfl
theorem tT_v (ts : List TL) (j : Nat) : (tT ts j).v = vT (ts.map TL.v) j:=by
 unfold tT vT
 rw [List.getElem?_map]
 cases ts[j]? <;> rfl
def TV.chk (t : TV) : Int:=tchk t.s.data.toList t.f t.r (gchk t.n t.xs t.ys t.m t.us t.vs)
structure PV.Good (v : PV) : Prop where
 nm : tname v.s.data.toList = true
 mean : rchk v.n v.xs v.ys = 0
 len : v.ts.length <= 24
 chk : ∀ j,j < v.ts.length -> (vT v.ts j).chk = 0
 nms : ∀ k j,k < j -> j < v.ts.length -> (vT v.ts k).s ≠ (vT v.ts j).s
 rot : ∀ k j,k < j -> j < v.ts.length -> ¬ ((vT v.ts k).f = (vT v.ts j).f /\ (vT v.ts k).r = (vT v.ts j).r)
theorem PL.good_iff {p : PL} : p.good ↔ p.v.Good:=by
 have hl : p.v.ts.length = p.ts.length:=List.length_map ..
 have ht : ∀ j,vT p.v.ts j = (tT p.ts j).v:=fun j => (tT_v p.ts j).symm
 constructor
 · intro h
   refine ⟨h.nm,h.mean,by rw [hl]; exact h.len,fun j hj => ?_,fun k j hk hj => ?_,fun k j hk hj => ?_⟩
   · rw [ht]; exact (h.all j (by omega)).1
   · rw [ht,ht]
     intro e
     exact (h.all j (by omega)).2.1 ⟨k,hk,nmEq'.2 e⟩
   · rw [ht,ht]
     rintro ⟨e1,e2⟩
     exact (h.all j (by omega)).2.2 ⟨k,hk,Prod.ext e1 e2⟩
 · intro h
   refine ⟨h.nm,h.mean,by rw [<- hl]; exact h.len,fun j hj => ⟨?_,?_,?_⟩⟩
   · have q:=h.chk j (by omega)
     rw [ht] at q
     exact q
   · rintro ⟨k,hk,e⟩
     have q:=h.nms k j hk (by omega)
     rw [ht,ht] at q
     exact q (nmEq'.1 e)
   · rintro ⟨k,hk,e⟩
     have q:=h.rot k j hk (by omega)
     rw [ht,ht] at q
     exact q ⟨congrArg Prod.fst e,congrArg Prod.snd e⟩
theorem PCk.one0 {p : PL} {c z : Int} (h : PChk p.hd p.ts c z) (hg : p.v.Good) : c = 0:=by
 have g:=(PL.good_iff.2 hg).chk
 rcases h with ⟨h0,h1,_⟩ | ⟨h0,h1⟩ <;> rcases g with ⟨g0,g1,_⟩ | ⟨g0,g1⟩
 · exact absurd g1.symm g0
 · exact absurd g0 h0
 · exact absurd g1.symm g0
 · exact (h1.one g1).1
theorem TV.chk_is {t : TV} (h : t.chk = 0) (wx : Wd t.xs) (wy : Wd t.ys) (wu : Wd t.us) (wv : Wd t.vs) : t.Is t.q1 t.q2:=by
 obtain ⟨g1,g2⟩:=gchk_ok (tchk_ok h).2.2
 exact ⟨⟨g1,rfl⟩,⟨g2,rfl⟩,wx,wy,wu,wv⟩
theorem TV.Is.one {t u : TV} {q1 q2 : Rat} (h : t.Is q1 q2) (g : u.Is q1 q2) (hs : t.s = u.s) (hf : t.f = u.f) (hr : t.r = u.r) : t = u:=by
 obtain ⟨a1,a2,a3⟩:=rq_inj h.2.2.1 h.2.2.2.1 g.2.2.1 g.2.2.2.1 h.1.1 g.1.1 (h.1.2.trans g.1.2.symm)
 obtain ⟨b1,b2,b3⟩:=rq_inj h.2.2.2.2.1 h.2.2.2.2.2 g.2.2.2.2.1 g.2.2.2.2.2 h.2.1.1 g.2.1.1 (h.2.1.2.trans g.2.1.2.symm)
 cases t; cases u
 simp only at hs hf hr a1 a2 a3 b1 b2 b3
 subst hs hf hr a1 a2 a3 b1 b2 b3
 rfl
def Mv (n : Int) (t v : TV) : Prop:=v.s = t.s /\ v.f = t.f /\ v.r = t.r /\ v.Is (t.q1 * (oP t.f t.r n).1 - t.q2 * (oP t.f t.r n).2) (t.q1 * (oP t.f t.r n).2 + t.q2 * (oP t.f t.r n).1)
theorem MvT.mv {n : Int} {t v : TV} (h : MvT n t v 0) : Mv n t v:=by
 rcases h with ⟨_,e⟩ | ⟨_,_,h⟩
 · cases e
 · exact h
theorem pMoved_good (p : PL) (n : Int) (w : World) (hp : p.ok w) (hg : p.v.Good) (n0 : -1024 <= n) (n1 : n <= 1024) (hs : ∀ j,j < p.v.ts.length -> ¬ mlong (vT p.v.ts j).q1 (vT p.v.ts j).q2 (oP (vT p.v.ts j).f (vT p.v.ts j).r n).1 (oP (vT p.v.ts j).f (vT p.v.ts j).r n).2) :
 Calls Tryz.prog 15 #[.agg p.cells,.int .i64 n] w fun e w' => ∃ (q : PL) (vs : List TV),e = .returned (.tuple #[.agg q.cells,.int .i64 0]) /\ (vs.length = p.v.ts.length /\ ∀ j,j < p.v.ts.length -> Mv n (vT p.v.ts j) (vT vs j)) /\ Made q ⟨p.s,p.n,p.xs,p.ys,vs⟩ w w':=by
 have hl : p.v.ts.length = p.ts.length:=List.length_map ..
 refine Calls.mono (pMoved_any p n w hp) ?_
 rintro e w' ⟨q,c,rfl,h⟩
 rcases h with ⟨z,hz,hc,_⟩ | ⟨_,⟨hn,_⟩ | ⟨_,⟨i,hi,hm,_⟩ | ⟨rfl,vs,h1,h2,h3⟩⟩⟩
 · exact absurd (PCk.one0 hz hg) hc
 · exact absurd ⟨n0,n1⟩ hn
 · have q:=hs i (by omega)
   rw [show vT p.v.ts i = (tT p.ts i).v from (tT_v p.ts i).symm] at q
   exact absurd hm q
 · refine ⟨q,vs,rfl,⟨by omega,fun j hj => ?_⟩,h3⟩
   rw [show vT p.v.ts j = (tT p.ts j).v from (tT_v p.ts j).symm]
   exact (h2 j _ (vT_at (by omega))).mv
theorem vT_snoc_lt {vs : List TV} {t : TV} {j : Nat} (h : j < vs.length) : vT (vs ++ [t]) j = vT vs j:=by
 unfold vT
 rw [List.getElem?_append_left h]
theorem vT_snoc_eq {vs : List TV} {t : TV} : vT (vs ++ [t]) vs.length = t:=by
 unfold vT
 rw [List.getElem?_append_right (Nat.le_refl _),Nat.sub_self]; rfl
theorem pWith_told (p : PL) (t : TL) (w : World) (hp : p.ok w) (ht : t.ok w) (hg : p.v.Good) :
 Calls Tryz.prog 7 #[.agg p.cells,.agg t.cells] w fun e w' => ∃ (q : PL) (c : Int),e = .returned (.tuple #[.agg q.cells,.int .i64 c]) /\ ((c ≠ 0 /\ Made q PV.zero w w' /\ (t.v.chk ≠ 0 \/ p.v.ts.length = 24 \/ ∃ j,j < p.v.ts.length /\ ((vT p.v.ts j).s = t.s \/ ((vT p.v.ts j).f = t.f /\ (vT p.v.ts j).r = t.r)))) \/ (c = 0 /\ (p.v.more t.v).Good /\ (∀ j,j < p.v.ts.length -> (vT p.v.ts j).s ≠ t.s) /\ Made q (p.v.more t.v) w w')):=by
 have hl : p.v.ts.length = p.ts.length:=List.length_map ..
 have hT : ∀ j,vT p.v.ts j = (tT p.ts j).v:=fun j => (tT_v p.ts j).symm
 have hcl : ∀ j,clB (tT p.ts j) t = true ↔ ((vT p.v.ts j).s = t.s \/ ((vT p.v.ts j).f = t.f /\ (vT p.v.ts j).r = t.r)):=fun j => by
  unfold clB
  rw [hT,Bool.or_eq_true,nmEq,Bool.and_eq_true,beq_iff_eq,beq_iff_eq]
  exact Iff.rfl
 refine Calls.mono (pWith_any p t w hp ht) ?_
 rintro e w' ⟨q,c,rfl,h,hm⟩
 refine ⟨q,c,rfl,?_⟩
 rcases h with ⟨z,hz,hc⟩ | ⟨_,⟨h0,rfl⟩ | ⟨h0,⟨⟨j,hj,hh⟩,rfl⟩ | ⟨hh,⟨h24,rfl⟩ | ⟨h24,rfl⟩⟩⟩⟩
 · exact absurd (PCk.one0 hz hg) hc
 · rw [if_neg h0] at hm
   exact .inl ⟨h0,hm,.inl h0⟩
 · exact .inl ⟨by decide,hm,.inr (.inr ⟨j,by omega,(hcl j).1 hh⟩)⟩
 · exact .inl ⟨by decide,hm,.inr (.inl (by omega))⟩
 · have hno : ∀ j,j < p.v.ts.length -> ¬ ((vT p.v.ts j).s = t.s \/ ((vT p.v.ts j).f = t.f /\ (vT p.v.ts j).r = t.r)):=fun j hj hq => hh ⟨j,by omega,(hcl j).2 hq⟩
   have hl2 : (p.v.ts ++ [t.v]).length = p.v.ts.length + 1:=by simp
   have h24':=hg.len
   refine .inr ⟨rfl,⟨hg.nm,hg.mean,by show (p.v.ts ++ [t.v]).length <= 24; omega,fun j hj => ?_,fun k j hk hj => ?_,fun k j hk hj => ?_⟩,fun j hj hq => hno j hj (.inl hq),hm⟩
   · show (vT (p.v.ts ++ [t.v]) j).chk = 0
     have hj' : j < (p.v.ts ++ [t.v]).length:=hj
     rcases Nat.lt_or_ge j p.v.ts.length with g | g
     · rw [vT_snoc_lt g]; exact hg.chk j g
     · obtain rfl : j = p.v.ts.length:=by omega
       rw [vT_snoc_eq]; exact h0
   · show (vT (p.v.ts ++ [t.v]) k).s ≠ (vT (p.v.ts ++ [t.v]) j).s
     have hj' : j < (p.v.ts ++ [t.v]).length:=hj
     rcases Nat.lt_or_ge j p.v.ts.length with g | g
     · rw [vT_snoc_lt g,vT_snoc_lt (by omega)]; exact hg.nms k j hk g
     · obtain rfl : j = p.v.ts.length:=by omega
       rw [vT_snoc_eq,vT_snoc_lt hk]
       exact fun e => hno k hk (.inl e)
   · show ¬ ((vT (p.v.ts ++ [t.v]) k).f = (vT (p.v.ts ++ [t.v]) j).f /\ (vT (p.v.ts ++ [t.v]) k).r = (vT (p.v.ts ++ [t.v]) j).r)
     have hj' : j < (p.v.ts ++ [t.v]).length:=hj
     rcases Nat.lt_or_ge j p.v.ts.length with g | g
     · rw [vT_snoc_lt g,vT_snoc_lt (by omega)]; exact hg.rot k j hk g
     · obtain rfl : j = p.v.ts.length:=by omega
       rw [vT_snoc_eq,vT_snoc_lt hk]
       exact fun e => hno k hk (.inr e)
theorem mshort {q1 q2 P1 P2 : Rat} {K J : Nat} (h1 : Hgt q1 (2 ^ K)) (h2 : Hgt q2 (2 ^ K)) (g1 : Hgt P1 (2 ^ J)) (g2 : Hgt P2 (2 ^ J)) (hk : K + J + (K + J) + 1 < 65536) : ¬ mlong q1 q2 P1 P2:=by
 have mul : ∀ {a b : Rat},Hgt a (2 ^ K) -> Hgt b (2 ^ J) -> Hgt (a * b) (2 ^ (K + J)):=fun ha hb => by rw [Nat.pow_add]; exact ha.mul hb
 have two : ∀ m : Nat,2 * (2 ^ m * 2 ^ m) = 2 ^ (m + m + 1):=fun m => by rw [<- Nat.pow_add,Nat.pow_succ,Nat.mul_comm]
 have a1:=mul h1 g1
 have a2:=mul h2 g2
 have a3:=mul h1 g2
 have a4:=mul h2 g1
 have s1:=a1.sub a2
 have s2:=a3.add a4
 rw [two] at s1 s2
 rintro (((h | h) | h) | ((h | h) | h))
 · exact a1.short (by omega) h
 · exact a2.short (by omega) h
 · exact s1.short (by omega) h
 · exact a3.short (by omega) h
 · exact a4.short (by omega) h
 · exact s2.short (by omega) h
theorem oP_hgt {f r : Int} (h : rOK f r) (n : Int) (K : Nat) (hk : n.natAbs <= K) : Hgt (oP f r n).1 (2 ^ (21 * K)) /\ Hgt (oP f r n).2 (2 ^ (21 * K)):=by
 obtain ⟨a,b⟩:=oP_hg h n K hk
 unfold OHg o2 at a b
 exact ⟨⟨a.1,a.2⟩,⟨b.1,b.2⟩⟩
def TV.line (t : TV) : List UInt8:=ttext t.s.data.toList t.f t.r (gtext t.n t.xs t.ys t.m t.us t.vs) ++ [10]
def PV.head (p : PV) : List UInt8:=[112,111,114,116,32] ++ p.s.data.toList ++ [32] ++ rtext p.n p.xs p.ys ++ [10]
def PV.upto (p : PV) (i : Nat) : List UInt8:=p.head ++ (p.ts.take i).flatMap TV.line
def PV.text (p : PV) : List UInt8:=p.head ++ p.ts.flatMap TV.line
theorem PV.upto_zero (p : PV) : p.upto 0 = p.head:=by unfold PV.upto; rw [List.take_zero,List.flatMap_nil,List.append_nil]
theorem PV.upto_all (p : PV) : p.upto p.ts.length = p.text:=by unfold PV.upto PV.text; rw [List.take_length]
theorem PV.upto_next (p : PV) {i : Nat} {t : TV} (h : p.ts[i]? = some t) : p.upto (i + 1) = p.upto i ++ t.line:=by
 unfold PV.upto
 rw [List.take_add_one,h]
 show p.head ++ List.flatMap TV.line (List.take i p.ts ++ [t]) = _
 rw [List.flatMap_append,<- List.append_assoc,List.flatMap_cons,List.flatMap_nil,List.append_nil]
theorem PV.upto_le (p : PV) (i : Nat) : (p.upto i).length <= p.text.length:=by
 unfold PV.upto PV.text
 have h : p.ts = p.ts.take i ++ p.ts.drop i:=(List.take_append_drop i p.ts).symm
 rw [List.length_append,List.length_append]
 conv => rhs; rw [h,List.flatMap_append,List.length_append]
 omega
def PpT (p : PL) (S : ByteArray) (c : Int) : Prop:=(∃ z,PChk p.hd p.ts c z /\ c ≠ 0 /\ S = ⟨#[]⟩) \/ (p.good /\ ((65536 < p.v.text.length /\ c = 3 /\ S = ⟨#[]⟩) \/ (p.v.text.length <= 65536 /\ c = 0 /\ S.data.toList = p.v.text)))
theorem pline_err {t : TL} (hk : t.chk = 0) : (tpErr (tchk t.s.data.toList t.f t.r (gchk t.n t.xs t.ys t.m t.us t.vs)) t.s.data.toList t.f t.r (gpErr t.n t.xs t.ys t.m t.us t.vs) (gtext t.n t.xs t.ys t.m t.us t.vs) = 0 /\ t.v.line.length <= 65537) \/ (tpErr (tchk t.s.data.toList t.f t.r (gchk t.n t.xs t.ys t.m t.us t.vs)) t.s.data.toList t.f t.r (gpErr t.n t.xs t.ys t.m t.us t.vs) (gtext t.n t.xs t.ys t.m t.us t.vs) = 3 /\ 65537 < t.v.line.length):=by
 have hk' : tchk t.s.data.toList t.f t.r (gchk t.n t.xs t.ys t.m t.us t.vs) = 0:=hk
 have hl : t.v.line.length = (ttext t.s.data.toList t.f t.r (gtext t.n t.xs t.ys t.m t.us t.vs)).length + 1:=by
  show (ttext _ _ _ _ ++ [10]).length = _
  rw [List.length_append]; rfl
 have hg : gpErr t.n t.xs t.ys t.m t.us t.vs = if 65536 < (gtext t.n t.xs t.ys t.m t.us t.vs).length then 3 else 0:=by unfold gpErr; rw [(tchk_ok hk').2.2,fstE_zero]
 have hs : (gtext t.n t.xs t.ys t.m t.us t.vs).length <= (ttext t.s.data.toList t.f t.r (gtext t.n t.xs t.ys t.m t.us t.vs)).length:=by
  unfold ttext
  simp only [List.length_append,List.length_cons]
  omega
 rw [hl]
 by_cases h1 : 65536 < (gtext t.n t.xs t.ys t.m t.us t.vs).length
 · rw [if_pos h1] at hg
   right
   refine ⟨by rw [tpErr_num hk' (by rw [hg]; decide),hg],by omega⟩
 · rw [if_neg h1] at hg
   by_cases h2 : 65536 < (ttext t.s.data.toList t.f t.r (gtext t.n t.xs t.ys t.m t.us t.vs)).length
   · exact .inr ⟨tpErr_long hk' hg h2,by omega⟩
   · exact .inl ⟨tpErr_ok hk' hg h2,by omega⟩
theorem pline_ok {t : TL} {S : ByteArray} (h : S.data.toList = ttext t.s.data.toList t.f t.r (gtext t.n t.xs t.ys t.m t.us t.vs)) : (S ++ (⟨#[10]⟩ : ByteArray)).data.toList = t.v.line:=by
 rw [ByteArray.data_append,Array.toList_append,h]; rfl
theorem phead_ok {p : PL} {S : ByteArray} (h : S.data.toList = rtext p.n p.xs p.ys) : ((⟨#[112,111,114,116,32]⟩ : ByteArray) ++ p.s ++ (⟨#[32]⟩ : ByteArray) ++ S ++ (⟨#[10]⟩ : ByteArray)).data.toList = p.v.head:=by
 simp only [ByteArray.data_append,Array.toList_append,h]
 show _ = [112,111,114,116,32] ++ p.s.data.toList ++ [32] ++ rtext p.n p.xs p.ys ++ [10]
 simp
set_option maxRecDepth 100000 in
theorem pPrint_any (p : PL) (w : World) (hp : p.ok w) (htab : Tab w) : Calls Tryz.prog 37 #[.agg p.cells] w fun e w' => ∃ (S : ByteArray) (c : Int),e = .returned (.tuple #[.string S,.int .i64 c]) /\ PpT p S c /\ Below w.heap.size w w':=by
 obtain ⟨Y,hY⟩ : ∃ Y,w.alloc (.cells #[.string p.s,.bool p.n,.slice p.a p.xs.length p.ca,.slice p.b p.ys.length p.cb,.slice p.t p.ts.length p.ct] 27) = Y:=⟨_,rfl⟩
 have HX : Hid (Box Y w.heap.size 27 #[.string p.s,.bool p.n,.slice p.a p.xs.length p.ca,.slice p.b p.ys.length p.cb,.slice p.t p.ts.length p.ct]):=by
  subst hY
  exact Box.made w _ _
 have HB : Hid (Below w.heap.size w Y):=by
  subst hY
  exact alloc_later _ _
 have HC1:=hid (plcheck_any p Y (hp.later HB.out))
 have HTS : Hid (∀ V,Below w.heap.size w V -> RdT V p.t p.ts):=fun V hV => hp.ts.later hV
 have HRP : Hid (∀ V,Below Y.heap.size Y V -> Calls Tryz.prog 88 #[.agg #[.bool p.n,.slice p.a p.xs.length p.ca,.slice p.b p.ys.length p.cb]] V (RPr p.n p.xs p.ys V)):=fun V hV => grPrint_any p.n p.a p.ca p.xs p.b p.cb p.ys V (hp.sx.later (bt HB.out hV)) (hp.sy.later (bt HB.out hV)) (htab.later (bt HB.out hV))
 have HTP : Hid (∀ j V,j < p.ts.length -> Below w.heap.size w V -> (tT p.ts j).chk = 0 -> Calls Tryz.prog 89 #[.agg #[.string (tT p.ts j).s,.int .i32 (tT p.ts j).f,.int .i32 (tT p.ts j).r,.bool (tT p.ts j).n,.slice (tT p.ts j).a (tT p.ts j).xs.length (tT p.ts j).ca,.slice (tT p.ts j).b (tT p.ts j).ys.length (tT p.ts j).cb,.bool (tT p.ts j).m,.slice (tT p.ts j).c (tT p.ts j).us.length (tT p.ts j).cc,.slice (tT p.ts j).d (tT p.ts j).vs.length (tT p.ts j).cd]] V fun x w' => ∃ (S : ByteArray) (c : Int),x = .returned (.tuple #[.string S,.int .i64 c]) /\ ((c = 0 /\ (tT p.ts j).v.line.length <= 65537 /\ (S ++ (⟨#[10]⟩ : ByteArray)).data.toList = (tT p.ts j).v.line) \/ (c = 3 /\ 65537 < (tT p.ts j).v.line.length)) /\ Below V.heap.size V w'):=fun j V hj hV hk => by
  have ht:=(hp.ts.later hV).1 _ (tT_mem hj)
  refine Calls.mono (tPrint_any (tT p.ts j).s (tT p.ts j).f (tT p.ts j).r (tT p.ts j).n (tT p.ts j).a (tT p.ts j).ca (tT p.ts j).xs (tT p.ts j).b (tT p.ts j).cb (tT p.ts j).ys (tT p.ts j).m (tT p.ts j).c (tT p.ts j).cc (tT p.ts j).us (tT p.ts j).d (tT p.ts j).cd (tT p.ts j).vs V ht.size ht.rot ht.sx ht.sy ht.su ht.sv (htab.later hV)) ?_
  rintro x w' ⟨S,rfl,h1,h2,hb⟩
  refine ⟨S,_,rfl,?_,hb⟩
  rcases pline_err hk with ⟨e,l⟩ | ⟨e,l⟩
  · exact .inl ⟨e,l,pline_ok (h1 e)⟩
  · exact .inr ⟨e,l⟩
 have HG : Hid (∀ z,PChk p.hd p.ts 0 z -> p.good):=fun z h => h.good.1
 have HRS : Hid (p.good -> (rtext p.n p.xs p.ys).length <= 40964):=fun h => rtext_short hp.sx.wd hp.sy.wd h.mean
 have k0 : Y.cell? ⟨w.heap.size,0,none⟩ = some (.string p.s):=HX.out.cell 0
 have k1 : Y.cell? ⟨w.heap.size,1,none⟩ = some (.bool p.n):=HX.out.cell 1
 have k2 : Y.cell? ⟨w.heap.size,2,none⟩ = some (.slice p.a p.xs.length p.ca):=HX.out.cell 2
 have k3 : Y.cell? ⟨w.heap.size,3,none⟩ = some (.slice p.b p.ys.length p.cb):=HX.out.cell 3
 have k4 : Y.cell? ⟨w.heap.size,4,none⟩ = some (.slice p.t p.ts.length p.ct):=HX.out.cell 4
 unfold PL.cells
 clear hp htab
 go_enter Tryz.func37,Tryz.ntmps37
 go_wp2_with fail
 refine Calls.mono HC1.out ?_
 rintro e w1 ⟨c,z,rfl,hc,b1⟩
 have HX1:=hid (HX.out.later b1 HX.out.lt)
 obtain ⟨W2,hW2⟩ : ∃ W2,w1.alloc (.cells #[.int .i64 0,.int .i64 0] 40) = W2:=⟨_,rfl⟩
 have HF : Hid (Box W2 w1.heap.size 40 #[.int .i64 0,.int .i64 0]):=by
  subst hW2
  exact Box.made w1 _ _
 have HB2 : Hid (Below w1.heap.size w1 W2):=by
  subst hW2
  exact alloc_later _ _
 have hs1 : Y.heap.size <= w1.heap.size:=b1.size
 obtain ⟨A0,A1,q0,q1,⟨r0,r1⟩,⟨v0,v1⟩,HA⟩:=rchain2 HF.out (by decide) (.int .i64 c) (.int .i64 z)
 have HYA : Hid (Below Y.heap.size Y A1):=HA.out.2.2.2.1 _ _ hs1 (bt b1 HB2.out)
 have hlt:=HX.out.lt
 have HXA:=hid (HA.out.2.1 _ _ _ (show w.heap.size ≠ w1.heap.size by omega) (HX1.out.later HB2.out HX1.out.lt))
 have HBA:=hid (bt HB.out HYA.out)
 have y0 : A1.cell? ⟨w1.heap.size,0,none⟩ = some (.int .i64 c):=HA.out.1.cell 0
 have HCK:=hid hc
 clear b1 HC1 k0 k1 k2 k3 k4 HX1 HF HB2 HX hc
 by_cases hc0 : c = 0
 · subst hc0
   have hG:=HG.out _ HCK.out
   have HGG:=hid hG
   have k0 : A1.cell? ⟨w.heap.size,0,none⟩ = some (.string p.s):=HXA.out.cell 0
   have k1 : A1.cell? ⟨w.heap.size,1,none⟩ = some (.bool p.n):=HXA.out.cell 1
   have k2 : A1.cell? ⟨w.heap.size,2,none⟩ = some (.slice p.a p.xs.length p.ca):=HXA.out.cell 2
   have k3 : A1.cell? ⟨w.heap.size,3,none⟩ = some (.slice p.b p.ys.length p.cb):=HXA.out.cell 3
   have k4 : A1.cell? ⟨w.heap.size,4,none⟩ = some (.slice p.t p.ts.length p.ct):=HXA.out.cell 4
   go_wp2_with fail
   refine Calls.mono (HRP.out A1 HYA.out) ?_
   rintro e w3 ⟨S,rfl,hS,b3⟩
   rw [hG.mean]
   have HX3:=hid (HXA.out.later b3 HXA.out.lt)
   have HB3:=hid (bt HBA.out b3)
   have HSS:=hid (hS hG.mean)
   have HHD:=hid (phead_ok (p:=p) HSS.out)
   have hSz : S.size <= 40964:=by
    have h1:=HRS.out hG
    rw [<- HSS.out] at h1
    have h2 : S.data.toList.length = S.size:=Array.length_toList
    omega
   have hNz : p.s.size <= 20:=by
    have h1:=(tname_ok hG.nm).2
    have h2 : p.s.data.toList.length = p.s.size:=Array.length_toList
    omega
   clear b3 hS k0 k1 k2 k3 k4 HXA HYA HRP q0 q1 r0 r1 v0 v1 y0 HA HCK hW2 hs1 HRS
   have k0 : w3.cell? ⟨w.heap.size,0,none⟩ = some (.string p.s):=HX3.out.cell 0
   have k1 : w3.cell? ⟨w.heap.size,1,none⟩ = some (.bool p.n):=HX3.out.cell 1
   have k2 : w3.cell? ⟨w.heap.size,2,none⟩ = some (.slice p.a p.xs.length p.ca):=HX3.out.cell 2
   have k3 : w3.cell? ⟨w.heap.size,3,none⟩ = some (.slice p.b p.ys.length p.cb):=HX3.out.cell 3
   have k4 : w3.cell? ⟨w.heap.size,4,none⟩ = some (.slice p.t p.ts.length p.ct):=HX3.out.cell 4
   go_wp2_with fail
   clear k0 k1 k2 k3 k4
   have HTZ : Hid (((⟨#[112,111,114,116,32]⟩ : ByteArray) ++ p.s ++ (⟨#[32]⟩ : ByteArray) ++ S ++ (⟨#[10]⟩ : ByteArray)).size <= 60000):=by
    show _ <= _
    simp only [ByteArray.size_append]
    have e1 : (⟨#[112,111,114,116,32]⟩ : ByteArray).size = 5:=rfl
    have e2 : (⟨#[32]⟩ : ByteArray).size = 1:=rfl
    have e3 : (⟨#[10]⟩ : ByteArray).size = 1:=rfl
    omega
   clear hSz hNz HSS
   obtain ⟨N,hN⟩ : ∃ N,p.ts.length = N:=⟨_,rfl⟩
   have HLN:=hid hN
   have hN24 : N <= 24:=by rw [<- hN]; exact hG.len
   rw [hN]
   clear hN
   go_loopw [7,38] (fun v x wr => ∃ (i : Nat) (T : ByteArray),x = .int .i64 (i : Int) /\ i <= N /\ v = .string T /\ Hid (T.data.toList = p.v.upto i) /\ T.size <= 60000 + 65537 * i /\ Hid (Below w.heap.size w wr)) (fun _ x _ => N - (intOf x).toNat)
   case atStart => exact ⟨0,_,rfl,by omega,rfl,hid (HHD.out.trans (PV.upto_zero _).symm),by have:=HTZ.out; omega,HB3⟩
   case round =>
    obtain ⟨i,T,rfl,hi,rfl,HT,hTz,HBW⟩:=hrel
    by_cases hin : i < N
    · have hil : i < p.ts.length:=by rw [HLN.out]; exact hin
      have HTW:=hid (HTS.out wr HBW.out)
      rcases HTW.out.2 with e | ⟨bb,o,hpt,hbb,hc⟩
      · rw [e] at hil; exact absurd hil (by simp)
      have HCC : Hid (∀ V,Below w.heap.size w V -> _):=fun V hV => HTP.out i V hil hV (HGG.out.at_ hil)
      have HNX : Hid (p.v.upto (i + 1) = p.v.upto i ++ (tT p.ts i).v.line):=PV.upto_next _ (by
       show (p.ts.map TL.v)[i]? = _
       rw [List.getElem?_map,tT_at hil]; rfl)
      have hci:=hc i _ (tT_at hil)
      have e0:=hci 0 (by decide)
      have e1:=hci 1 (by decide)
      have e2:=hci 2 (by decide)
      have e3:=hci 3 (by decide)
      have e4:=hci 4 (by decide)
      have e5:=hci 5 (by decide)
      have e6:=hci 6 (by decide)
      have e7:=hci 7 (by decide)
      have e8:=hci 8 (by decide)
      clear hci hc
      rw [hpt]
      generalize tT p.ts i = tt at *
      have c0 : wr.cell? ⟨bb,o + i * 9,none⟩ = some (.string tt.s):=e0
      have c1 : wr.cell? ⟨bb,o + i * 9 + 1,none⟩ = some (.int .i32 tt.f):=e1
      have c2 : wr.cell? ⟨bb,o + i * 9 + 2,none⟩ = some (.int .i32 tt.r):=e2
      have c3 : wr.cell? ⟨bb,o + i * 9 + 3,none⟩ = some (.bool tt.n):=e3
      have c4 : wr.cell? ⟨bb,o + i * 9 + 4,none⟩ = some (.slice tt.a tt.xs.length tt.ca):=e4
      have c5 : wr.cell? ⟨bb,o + i * 9 + 5,none⟩ = some (.slice tt.b tt.ys.length tt.cb):=e5
      have c6 : wr.cell? ⟨bb,o + i * 9 + 6,none⟩ = some (.bool tt.m):=e6
      have c7 : wr.cell? ⟨bb,o + i * 9 + 7,none⟩ = some (.slice tt.c tt.us.length tt.cc):=e7
      have c8 : wr.cell? ⟨bb,o + i * 9 + 8,none⟩ = some (.slice tt.d tt.vs.length tt.cd):=e8
      clear e0 e1 e2 e3 e4 e5 e6 e7 e8
      obtain ⟨A0,A1,A2,A3,A4,A5,A6,A7,A8,q0,q1,q2,q3,q4,q5,q6,q7,q8,⟨r0,r1,r2,r3,r4,r5,r6,r7,r8⟩,⟨f0,f1,f2,f3,f4,f5,f6,f7,f8⟩,HA⟩:=tlbox wr tt
      have HBA':=hid (bt HBW.out HA.out.2)
      have m0 : A8.cell? ⟨wr.heap.size,0,none⟩ = some (.string tt.s):=HA.out.1.cell 0
      have m1 : A8.cell? ⟨wr.heap.size,1,none⟩ = some (.int .i32 tt.f):=HA.out.1.cell 1
      have m2 : A8.cell? ⟨wr.heap.size,2,none⟩ = some (.int .i32 tt.r):=HA.out.1.cell 2
      have m3 : A8.cell? ⟨wr.heap.size,3,none⟩ = some (.bool tt.n):=HA.out.1.cell 3
      have m4 : A8.cell? ⟨wr.heap.size,4,none⟩ = some (.slice tt.a tt.xs.length tt.ca):=HA.out.1.cell 4
      have m5 : A8.cell? ⟨wr.heap.size,5,none⟩ = some (.slice tt.b tt.ys.length tt.cb):=HA.out.1.cell 5
      have m6 : A8.cell? ⟨wr.heap.size,6,none⟩ = some (.bool tt.m):=HA.out.1.cell 6
      have m7 : A8.cell? ⟨wr.heap.size,7,none⟩ = some (.slice tt.c tt.us.length tt.cc):=HA.out.1.cell 7
      have m8 : A8.cell? ⟨wr.heap.size,8,none⟩ = some (.slice tt.d tt.vs.length tt.cd):=HA.out.1.cell 8
      have hi0' : (0 : Int) <= (i : Int):=by omega
      have hi1 : (i : Int) < (N : Int):=by omega
      clear HA hbb
      go_wp2_with fail
      clear q0 q1 q2 q3 q4 q5 q6 q7 q8 r0 r1 r2 r3 r4 r5 r6 r7 r8 f0 f1 f2 f3 f4 f5 f6 f7 f8 c0 c1 c2 c3 c4 c5 c6 c7 c8
      refine Calls.mono (HCC.out _ HBA'.out) ?_
      rintro e w5 ⟨S2,cc,rfl,hcs,hb5⟩
      have HB5:=hid (bt HBA'.out hb5)
      have hTl : T.data.toList.length = T.size:=Array.length_toList
      clear m0 m1 m2 m3 m4 m5 m6 m7 m8 HCC hb5
      rcases hcs with ⟨rfl,hl,hs⟩ | ⟨rfl,hl⟩
      · have HTN : Hid ((T ++ (S2 ++ (⟨#[10]⟩ : ByteArray))).data.toList = p.v.upto (i + 1)):=by
         show _ = _
         rw [ByteArray.data_append,Array.toList_append,hs,HT.out,HNX.out]
        have hS2 : S2.size + 1 <= 65537:=by
         have h1 : (S2 ++ (⟨#[10]⟩ : ByteArray)).data.toList.length = (S2 ++ (⟨#[10]⟩ : ByteArray)).size:=Array.length_toList
         rw [hs,ByteArray.size_append] at h1
         have e3 : (⟨#[10]⟩ : ByteArray).size = 1:=rfl
         omega
        have HTS2 : Hid ((T ++ (S2 ++ (⟨#[10]⟩ : ByteArray))).size <= 60000 + 65537 * (i + 1)):=by
         show _ <= _
         rw [ByteArray.size_append,ByteArray.size_append]
         have e3 : (⟨#[10]⟩ : ByteArray).size = 1:=rfl
         omega
        clear hs hl HNX
        go_wp2_with fail
        go_roundw
        case rel => exact ⟨i + 1,_,by go_num,by omega,rfl,HTN,HTS2.out,HB5⟩
        case measure => simp [intOf]; omega
      · have HLG : Hid (65536 < p.v.text.length):=by
         have h1:=PV.upto_le p.v (i + 1)
         rw [HNX.out,List.length_append] at h1
         show _ < _
         omega
        go_wp2_with fail
        go_ret2
        exact ⟨⟨#[]⟩,3,rfl,.inr ⟨HGG.out,.inl ⟨HLG.out,rfl,rfl⟩⟩,HB5.out⟩
    · obtain rfl : i = N:=by omega
      have hi1 : ¬ (i : Int) < (i : Int):=by omega
      have hTl : T.data.toList.length = T.size:=Array.length_toList
      have HTT : Hid (T.data.toList = p.v.text):=by
       have e : p.v.ts.length = i:=by
        show (p.ts.map TL.v).length = i
        rw [List.length_map]; exact HLN.out
       show _ = _
       rw [HT.out,<- PV.upto_all,e]
      by_cases hlg : 65536 < T.size
      · have hlg' : (65536 : Int) < (T.size : Int):=by omega
        have HLG : Hid (65536 < p.v.text.length):=by
         show _ < _
         rw [<- HTT.out,hTl]; exact hlg
        clear hTl hlg
        go_wp2_with fail
        go_ret2
        exact ⟨⟨#[]⟩,3,rfl,.inr ⟨HGG.out,.inl ⟨HLG.out,rfl,rfl⟩⟩,HBW.out⟩
      · have hlg' : ¬ (65536 : Int) < (T.size : Int):=by omega
        have HLG : Hid (p.v.text.length <= 65536):=by
         show _ <= _
         rw [<- HTT.out,hTl]; omega
        clear hTl hlg
        go_wp2_with fail
        go_ret2
        exact ⟨T,0,rfl,.inr ⟨HGG.out,.inr ⟨HLG.out,rfl,HTT.out⟩⟩,HBW.out⟩
 · have h0' : (c == 0) = false:=by simp [hc0]
   have h0'' : (c != 0) = true:=by simp [hc0]
   clear HTP HRP HG HXA HYA
   go_wp2_with fail
   go_region_held3 (fun V : World => V.cell? ⟨w1.heap.size,0,none⟩ = some (.int .i64 c)) (first | exact y0 | go_keep) (fail)
   all_goals
    have HCN:=hid hc0
    clear hc0
    go_wp2_with fail
    go_ret2
    exact ⟨⟨#[]⟩,c,rfl,.inl ⟨z,HCK.out,HCN.out,rfl⟩,HBA.out.drew⟩
end Go.Proofs.YtnhmaijmmkplkaaGreatDoor
namespace Go.Proofs.YtnhmaijmmkplkaaGreatDoor
set_option maxHeartbeats 6400000
open Go.RowKit Go.Lib
set_option linter.unusedVariables false
set_option linter.unusedSimpArgs false
theorem prErr_is0 {s : ByteArray} (h : prErr s = 0) : rgood s.data.toList:=by
 rcases Nat.lt_or_ge 65536 s.size with g | g
 · rw [prErr_long g] at h; exact absurd h (by decide)
 · exact Classical.byContradiction fun hn => by
    rw [prErr_bad g hn] at h
    exact absurd h (by decide)
theorem prErr_of {n : Bool} {xs ys : List Int} (wx : Wd xs) (wy : Wd ys) (h : rchk n xs ys = 0) {T : ByteArray} (hT : T.data.toList = rtext n xs ys) (hs : T.size <= 65536) : prErr T = 0:=prErr_good hs (by rw [hT]; exact rgood_text wx wy (zform2 h))
theorem lcut_eq (l : List UInt8) : cut (10 :: l) [10] = ([],l,true):=by
 unfold cut
 rw [index_one,indexByte]
 simp
theorem lcut_ne (c : UInt8) (l : List UInt8) (h : c ≠ 10) : cut (c :: l) [10] = (c :: (cut l [10]).1,(cut l [10]).2.1,(cut l [10]).2.2):=by
 have hb : (c == 10) = false:=by simpa using h
 unfold cut
 rw [index_one,index_one,indexByte,hb]
 by_cases hi : indexByte l 10 = -1
 · rw [hi]
   simp
 · have h0 : 0 <= indexByte l 10:=by
    have:=index_ge l [10]
    rw [index_one] at this
    omega
   have h1 : (indexByte l 10 == -1) = false:=by simpa using hi
   rw [h1]
   simp only [Bool.false_eq_true,if_false]
   rw [if_pos (by omega),if_pos h0]
   have e : (indexByte l 10 + 1).toNat = (indexByte l 10).toNat + 1:=by omega
   rw [e]
   simp
theorem lcut_split : ∀ (a b : List UInt8),(∀ x ∈ a,x ≠ 10) -> cut (a ++ 10 :: b) [10] = (a,b,true)
 | [],b,_ => lcut_eq b
 | c :: a,b,h => by
  show cut (c :: (a ++ 10 :: b)) [10] = _
  rw [lcut_ne c _ (h c (by simp)),lcut_split a b (fun x hx => h x (by simp [hx]))]
theorem lcut_nil : cut ([] : List UInt8) [10] = ([],[],false):=by decide
theorem lcut_parts : ∀ l : List UInt8,(cut l [10]).2.2 = true -> l = (cut l [10]).1 ++ 10 :: (cut l [10]).2.1
 | [] => by rw [lcut_nil]; intro h; cases h
 | c :: l => by
  by_cases h : c = 10
  · subst h; rw [lcut_eq]; intro _; rfl
  · rw [lcut_ne c l h]
    intro h1
    show c :: l = c :: ((cut l [10]).1 ++ 10 :: (cut l [10]).2.1)
    rw [<- lcut_parts l h1]
theorem lend_parts {l : List UInt8} (h : lend l = true) : l = lline l ++ 10 :: lrest l:=lcut_parts l h
theorem lend_nil : lend [] = false:=by unfold lend; rw [lcut_nil]
theorem lrest_short {l : List UInt8} (h : lend l = true) : (lrest l).length < l.length:=by
 have e:=congrArg List.length (lend_parts h)
 rw [List.length_append,List.length_cons] at e
 omega
theorem lsplit {a b : List UInt8} (h : ∀ x ∈ a,x ≠ 10) : lline (a ++ 10 :: b) = a /\ lrest (a ++ 10 :: b) = b /\ lend (a ++ 10 :: b) = true:=by
 unfold lline lrest lend
 rw [lcut_split a b h]
 exact ⟨rfl,rfl,rfl⟩
theorem tname_nl {l : List UInt8} (h : tname l = true) : ∀ x ∈ l,x ≠ 10:=by
 unfold tname at h
 rw [Bool.and_eq_true,List.all_eq_true] at h
 intro x hx e
 have:=h.2 x hx
 rw [e] at this
 exact absurd this (by decide)
theorem itoa_nl (v : Int) : ∀ x ∈ itoa v,x ≠ 10:=by
 intro x hx e
 unfold itoa at hx
 split at hx
 · rcases List.mem_cons.1 hx with hx | hx
   · rw [e] at hx; exact absurd hx (by decide)
   · have:=(zdec_all v.natAbs).1 x hx
     rw [e] at this; exact absurd this (by decide)
 · have:=(zdec_all v.toNat).1 x hx
   rw [e] at this; exact absurd this (by decide)
theorem rtext_nl (n : Bool) (xs ys : List Int) : ∀ x ∈ rtext n xs ys,x ≠ 10:=by
 have hd : ∀ k : Nat,∀ x ∈ decDigits k,x ≠ 10:=fun k x hx e => by
  have:=(zdec_all k).1 x hx
  rw [e] at this; exact absurd this (by decide)
 rw [rtext_eq]
 intro x hx
 rcases List.mem_append.1 hx with hx | hx
 · cases n with
   | false => simp at hx
   | true => simp at hx; rw [hx]; decide
 · rcases List.mem_append.1 hx with hx | hx
   · exact hd _ x hx
   · split at hx
     · simp at hx
     · rcases List.mem_cons.1 hx with hx | hx
       · rw [hx]; decide
       · exact hd _ x hx
theorem nl_app {a b : List UInt8} (ha : ∀ x ∈ a,x ≠ 10) (hb : ∀ x ∈ b,x ≠ 10) : ∀ x ∈ a ++ b,x ≠ 10:=fun x hx => (List.mem_append.1 hx).elim (ha x) (hb x)
theorem nl_blank {b : List UInt8} (hb : ∀ x ∈ b,x ≠ 10) : ∀ x ∈ 32 :: b,x ≠ 10:=fun x hx => by
 rcases List.mem_cons.1 hx with rfl | h
 · decide
 · exact hb x h
def TV.txt (t : TV) : List UInt8:=ttext t.s.data.toList t.f t.r (gtext t.n t.xs t.ys t.m t.us t.vs)
theorem TV.line_eq (t : TV) (b : List UInt8) : t.line ++ b = t.txt ++ 10 :: b:=by
 unfold TV.line TV.txt
 rw [List.append_assoc]; rfl
theorem TV.txt_nl {t : TV} (h : t.chk = 0) : ∀ x ∈ t.txt,x ≠ 10:=by
 have hn:=(tchk_ok h).1
 unfold TV.txt ttext gtext
 exact nl_app (tname_nl hn) (nl_blank (nl_app (itoa_nl _) (nl_blank (nl_app (itoa_nl _) (nl_blank (nl_app (rtext_nl _ _ _) (nl_blank (rtext_nl _ _ _))))))))
theorem bytes_list (l : List UInt8) : (⟨l.toArray⟩ : ByteArray).data.toList = l:=by simp
theorem bytes_size (l : List UInt8) : (⟨l.toArray⟩ : ByteArray).size = l.length:=by show l.toArray.size = _; simp
theorem pat_text {t u : TV} {c : Int} (hk : t.chk = 0) (ho : t.ok) (hl : t.txt.length <= 65536) (h : PaT ⟨t.txt.toArray⟩ u c) : c = 0 /\ u = t:=by
 obtain ⟨_,_,wx,wy,wu,wv⟩:=ho
 obtain ⟨hn,hoc,hg⟩:=tchk_ok hk
 obtain ⟨g1,g2⟩:=gchk_ok hg
 obtain ⟨b1,b2⟩:=trok_in (trok hoc)
 obtain ⟨p1,p2,p3,p4,p5,p6,p7⟩:=tprint_read hn b1 b2 wx wy wu wv g1 g2
 have e0:=bytes_list t.txt
 have hs : (⟨t.txt.toArray⟩ : ByteArray).size <= 65536:=by rw [bytes_size]; exact hl
 have hE : tpE ⟨t.txt.toArray⟩ = 0:=by
  rw [tpE_good hs (by rw [e0]; exact p7),e0]
  unfold TV.txt
  rw [p2,p3]
  exact hoc
 unfold PaT at h
 rw [hE,e0] at h
 unfold TV.txt at h
 rw [p1,p2,p3,p4,p5,p6,rpq_text t.n wx wy,rpq_text t.m wu wv] at h
 have hL : ¬ gplong (gtext t.n t.xs t.ys t.m t.us t.vs):=by
  unfold gplong
  rw [p5,p6,rpq_text t.n wx wy,rpq_text t.m wu wv]
  rintro (h | h)
  · exact znotlong wx wy g1 h
  · exact znotlong wu wv g2 h
 obtain ⟨hc,k1,k2⟩:=h.num.good rfl hL
 obtain ⟨e1,e2,e3⟩:=h.good hc
 refine ⟨hc,TV.Is.one (q1:=t.q1) (q2:=t.q2) ⟨k1,k2,h.num.wd.1,h.num.wd.2.1,h.num.wd.2.2.1,h.num.wd.2.2.2⟩ (TV.chk_is hk wx wy wu wv) (nmEq'.1 e1) e2 e3⟩
theorem pat_read {l : List UInt8} {u : TV} (hl : l.length <= 65536) (h : PaT ⟨l.toArray⟩ u 0) : u.chk = 0 /\ u.txt = l /\ u.ok:=by
 have e0:=bytes_list l
 have hz : (⟨l.toArray⟩ : ByteArray).size <= 65536:=by rw [bytes_size]; exact hl
 unfold PaT at h
 have hE : tpE ⟨l.toArray⟩ = 0:=Classical.byContradiction fun hn => hn ((h.num.bad hn).2).symm
 have hL : ¬ gplong (trest (trest (trest (⟨l.toArray⟩ : ByteArray).data.toList))):=fun hl => absurd ((h.num.long hE hl).2) (by decide)
 have hgd : tgood (⟨l.toArray⟩ : ByteArray).data.toList:=Classical.byContradiction fun hn => by
  rw [tpE_bad hz hn] at hE; exact absurd hE (by decide)
 have ho : ochk (tnumV (tword (trest (⟨l.toArray⟩ : ByteArray).data.toList))) (tnumV (tword (trest (trest (⟨l.toArray⟩ : ByteArray).data.toList)))) = 0:=by rw [<- tpE_good hz hgd]; exact hE
 obtain ⟨_,⟨k1,g1⟩,k2,g2⟩:=h.num.good hE hL
 obtain ⟨e1,e2,e3⟩:=h.good rfl
 rw [e0] at hgd ho g1 g2 e1 e2 e3
 have hn : tname u.s.data.toList = true:=by rw [e1]; exact hgd.1
 refine ⟨?_,?_,?_⟩
 · unfold TV.chk
   rw [tchk_rest _ _ _ hn,e2,e3,ho,fstE_zero]
   unfold gchk
   rw [k1,fstE_zero,k2]
 · unfold TV.txt
   rw [e1,e2,e3]
   exact tread_text hgd h.num.wd.1 h.num.wd.2.1 h.num.wd.2.2.1 h.num.wd.2.2.2 k1 g1 k2 g2
 · obtain ⟨b1,b2⟩:=trok_in (trok ho)
   refine ⟨?_,by rw [e2,e3]; exact ⟨by omega,by omega⟩,h.num.wd.1,h.num.wd.2.1,h.num.wd.2.2.1,h.num.wd.2.2.2⟩
   have h1:=(tname_ok hn).2
   have h2 : u.s.data.toList.length = u.s.size:=Array.length_toList
   unfold maxLen
   omega
theorem line_len {t : TV} {ts : List TV} (h : t ∈ ts) : t.txt.length <= (ts.flatMap TV.line).length:=by
 induction ts with
 | nil => cases h
 | cons v ts ih =>
  rw [List.flatMap_cons,List.length_append]
  have e : v.line.length = v.txt.length + 1:=by
   show (v.txt ++ [10]).length = _
   rw [List.length_append]; rfl
  rcases List.mem_cons.1 h with rfl | h
  · omega
  · have:=ih h
    omega
theorem tds_part : ∀ {us ts : List TV} {r : List UInt8},(∀ t ∈ ts,t.chk = 0 /\ t.ok /\ t.txt.length <= 65536) -> TdS (ts.flatMap TV.line) us r -> ∃ rs,ts = us ++ rs /\ r = rs.flatMap TV.line
 | [],ts,r,_,h => ⟨ts,rfl,h⟩
 | u :: us,[],r,_,h => absurd rfl h.1
 | u :: us,t :: ts,r,hg,h => by
  obtain ⟨_,_,h3,h4⟩:=h
  obtain ⟨k1,k2,k3⟩:=hg t (List.mem_cons_self ..)
  rw [List.flatMap_cons,t.line_eq] at h3 h4
  obtain ⟨s1,s2,_⟩:=lsplit (b:=ts.flatMap TV.line) (TV.txt_nl k1)
  rw [s1] at h3
  rw [s2] at h4
  obtain ⟨_,rfl⟩:=pat_text k1 k2 k3 h3
  obtain ⟨rs,e1,e2⟩:=tds_part (fun x hx => hg x (List.mem_cons_of_mem _ hx)) h4
  exact ⟨rs,by rw [e1]; rfl,e2⟩
theorem tds_read : ∀ {us : List TV} {l r : List UInt8},l.length <= 65536 -> TdS l us r -> (∀ u ∈ us,u.chk = 0 /\ u.ok) /\ l = us.flatMap TV.line ++ r
 | [],l,r,_,h => ⟨fun u hu => absurd hu (by simp),h.symm⟩
 | u :: us,l,r,hl,h => by
  obtain ⟨_,h2,h3,h4⟩:=h
  have e:=lend_parts h2
  have el:=congrArg List.length e
  rw [List.length_append,List.length_cons] at el
  obtain ⟨k1,k2,k3⟩:=pat_read (by omega) h3
  obtain ⟨g1,g2⟩:=tds_read (by omega) h4
  refine ⟨fun x hx => ?_,?_⟩
  · rcases List.mem_cons.1 hx with rfl | hx
    · exact ⟨k1,k3⟩
    · exact g1 x hx
  · rw [List.flatMap_cons,List.append_assoc,u.line_eq,<- g2,k2]
    exact e
def LnsT (l : List UInt8) (v : PV) (c z : Int) : Prop :=
 (c = 0 /\ z = 0 /\ RTells (prErr ⟨(trest (trest (lline l))).toArray⟩) (rpq (trest (trest (lline l)))) v.n v.xs v.ys 0 /\ hdGood ⟨(lline l).toArray⟩ 0 /\ lend l = true /\ TdS (lrest l) v.ts [] /\ v.s.data.toList = tword (trest (lline l))) \/
 (c = 240 /\ v = PV.zero /\ ((z = 0 /\ (lend l = false \/ ∃ n xs ys code,RTells (prErr ⟨(trest (trest (lline l))).toArray⟩) (rpq (trest (trest (lline l)))) n xs ys code /\ ¬ hdGood ⟨(lline l).toArray⟩ code)) \/ ∃ us r n xs ys,RTells (prErr ⟨(trest (trest (lline l))).toArray⟩) (rpq (trest (trest (lline l)))) n xs ys 0 /\ hdGood ⟨(lline l).toArray⟩ 0 /\ lend l = true /\ TdS (lrest l) us r /\ r ≠ [] /\ z = (us.length : Int) + 1 /\ (lend r = false \/ ∃ (u : TV) (c' : Int),PaT ⟨(lline r).toArray⟩ u c' /\ c' ≠ 0)))
theorem hdGood_iff {l : List UInt8} {code : Int} : hdGood ⟨l.toArray⟩ code ↔ tword l = [112,111,114,116] /\ tname (tword (trest l)) = true /\ code = 0:=by
 unfold hdGood
 rw [bytes_list]
def PV.hd0 (v : PV) : List UInt8:=[112,111,114,116] ++ 32 :: (v.s.data.toList ++ 32 :: rtext v.n v.xs v.ys)
theorem PV.head_eq (v : PV) (b : List UInt8) : v.head ++ b = v.hd0 ++ 10 :: b:=by
 unfold PV.head PV.hd0
 simp
theorem lns_text0 {v u : PV} {c z : Int} (hnm : tname v.s.data.toList = true) (hmean : rchk v.n v.xs v.ys = 0) (hchk : ∀ t ∈ v.ts,t.chk = 0) (wx : Wd v.xs) (wy : Wd v.ys) (ho : ∀ t ∈ v.ts,t.ok) (hl : v.text.length <= 65536) (h : LnsT v.text u c z) : c = 0 /\ z = 0 /\ u = v:=by
 have n1 : ∀ x ∈ v.hd0,x ≠ 10:=by
  unfold PV.hd0
  exact nl_app (by intro x hx; simp at hx; rcases hx with rfl | rfl | rfl | rfl <;> decide) (nl_blank (nl_app (tname_nl hnm) (nl_blank (rtext_nl _ _ _))))
 have et : v.text = v.hd0 ++ 10 :: v.ts.flatMap TV.line:=v.head_eq _
 obtain ⟨s1,s2,s3⟩:=lsplit (b:=v.ts.flatMap TV.line) n1
 rw [<- et] at s1 s2 s3
 have lt:=congrArg List.length et
 rw [List.length_append,List.length_cons] at lt
 have c1 : cut v.hd0 [32] = ([112,111,114,116],v.s.data.toList ++ 32 :: rtext v.n v.xs v.ys,true):=tcut_split _ _ (by intro x hx; simp at hx; rcases hx with rfl | rfl | rfl | rfl <;> decide)
 have c2 : cut (v.s.data.toList ++ 32 :: rtext v.n v.xs v.ys) [32] = (v.s.data.toList,rtext v.n v.xs v.ys,true):=tcut_split _ _ (tname_bytes hnm)
 have e1 : tword v.hd0 = [112,111,114,116]:=by unfold tword; rw [c1]
 have e2 : trest v.hd0 = v.s.data.toList ++ 32 :: rtext v.n v.xs v.ys:=by unfold trest; rw [c1]
 have e3 : tword (v.s.data.toList ++ 32 :: rtext v.n v.xs v.ys) = v.s.data.toList:=by unfold tword; rw [c2]
 have e4 : trest (v.s.data.toList ++ 32 :: rtext v.n v.xs v.ys) = rtext v.n v.xs v.ys:=by unfold trest; rw [c2]
 have p0 : prErr ⟨(rtext v.n v.xs v.ys).toArray⟩ = 0:=prErr_of wx wy hmean (bytes_list _) (by
  rw [bytes_size]
  have e : v.hd0.length = 4 + (v.s.data.toList.length + ((rtext v.n v.xs v.ys).length + 1) + 1):=by
   unfold PV.hd0
   simp only [List.length_append,List.length_cons,List.length_nil]
  omega)
 have HT : ∀ {n xs ys code},RTells (prErr ⟨(trest (trest (lline v.text))).toArray⟩) (rpq (trest (trest (lline v.text)))) n xs ys code -> n = v.n /\ xs = v.xs /\ ys = v.ys /\ code = 0:=fun ht => by
  rw [s1,e2,e4,p0,rpq_text v.n wx wy] at ht
  exact ht.same (RTells.self wx wy hmean)
 have hG : hdGood ⟨(lline v.text).toArray⟩ 0:=by
  rw [hdGood_iff,s1,e1,e2,e3]
  exact ⟨rfl,hnm,rfl⟩
 have hts : ∀ t ∈ v.ts,t.chk = 0 /\ t.ok /\ t.txt.length <= 65536:=fun t ht => by
  refine ⟨hchk t ht,ho t ht,?_⟩
  · have:=line_len ht
    omega
 rcases h with ⟨hc,hz,ht,_,_,h3,h4⟩ | ⟨_,_,h3⟩
 · obtain ⟨h5,h6,h7,_⟩:=HT ht
   refine ⟨hc,hz,?_⟩
   rw [s2] at h3
   obtain ⟨rs,r1,r2⟩:=tds_part hts h3
   have r3 : rs = []:=by
    cases rs with
    | nil => rfl
    | cons a b =>
     rw [List.flatMap_cons,a.line_eq] at r2
     exact absurd r2.symm (by simp)
   rw [r3,List.append_nil] at r1
   rw [s1,e2,e3] at h4
   have a1:=nmEq'.1 h4
   cases u; cases v
   simp only at h5 h6 h7 a1 r1
   subst h5 h6 h7 a1 r1
   rfl
 · exfalso
   rcases h3 with ⟨_,hn | ⟨n,xs,ys,code,ht,hn⟩⟩ | ⟨us,r,_,_,_,_,_,_,h6,h7,_,h8⟩
   · rw [s3] at hn; cases hn
   · obtain ⟨_,_,_,rfl⟩:=HT ht
     exact hn hG
   · rw [s2] at h6
     obtain ⟨rs,r1,r2⟩:=tds_part hts h6
     cases rs with
     | nil => exact h7 r2
     | cons a b =>
      rw [List.flatMap_cons,a.line_eq] at r2
      obtain ⟨k1,k2,k3⟩:=hts a (by rw [r1]; simp)
      obtain ⟨t1,_,t3⟩:=lsplit (b:=b.flatMap TV.line) (TV.txt_nl k1)
      rw [<- r2] at t1 t3
      rcases h8 with h8 | ⟨u',c',h8,h9⟩
      · rw [t3] at h8; cases h8
      · rw [t1] at h8
        exact h9 (pat_text k1 k2 k3 h8).1
theorem lns_read {l : List UInt8} {v : PV} {z : Int} (hl : l.length <= 65536) (h : LnsT l v 0 z) : v.text = l /\ Wd v.xs /\ Wd v.ys /\ ∀ t ∈ v.ts,t.ok:=by
 rcases h with ⟨_,_,ht,hG,he,h3,h4⟩ | ⟨hc,_⟩
 · obtain ⟨g1,g2,_⟩:=hdGood_iff.1 hG
   have e:=lend_parts he
   have el:=congrArg List.length e
   rw [List.length_append,List.length_cons] at el
   obtain ⟨k1,k2⟩:=tds_read (by omega) h3
   rw [List.append_nil] at k2
   refine ⟨?_,ht.wx,ht.wy,fun t ht => (k1 t ht).2⟩
   have hp : prErr ⟨(trest (trest (lline l))).toArray⟩ = 0:=Classical.byContradiction fun hn => hn ((ht.bad hn).2.2.2).symm
   have hL : ¬ rlong (rpq (trest (trest (lline l)))):=fun hl => absurd ((ht.long hp hl).2.2.2) (by decide)
   obtain ⟨_,m1,m2⟩:=ht.good hp hL
   have hrg:=prErr_is0 hp
   rw [bytes_list] at hrg
   have hr:=zread_text hrg ht.wx ht.wy m1 m2
   have l1 : lline l = tword (lline l) ++ 32 :: (tword (trest (lline l)) ++ 32 :: trest (trest (lline l))):=by
    rcases trest_parts (lline l) with a1 | a1
    · rcases trest_parts (trest (lline l)) with a2 | a2
      · rw [<- a2,<- a1]
      · rw [a2] at hrg
        exact absurd hrg rgood_nil
    · rw [a1,tword_nil] at g2
      exact absurd g2 (by decide)
   show v.head ++ v.ts.flatMap TV.line = l
   rw [v.head_eq]
   unfold PV.hd0
   rw [<- k2,h4,hr]
   rw [g1] at l1
   rw [<- l1]
   exact e.symm
 · exact absurd hc (by decide)
end Go.Proofs.YtnhmaijmmkplkaaGreatDoor
namespace Go.Proofs.YtnhmaijmmkplkaaGreatDoor
set_option maxHeartbeats 6400000
open Go.RowKit
set_option linter.unusedVariables false
set_option linter.unusedSimpArgs false
theorem pres2_run {fn : Func} {W : World} {b d q u : Nat} {cs : Array Value} {c z : Int} (hr : fn.results = #[.cell q 27,.cell u 40]) (hb : Box W b 27 cs) (hd : Box W d 40 #[.int .i64 c,.int .i64 z]) (tmps : Array Value) (h4 : tmps.getD q undef = .pointer (some ⟨b,0,none⟩)) (h5 : tmps.getD u undef = .pointer (some ⟨d,0,none⟩)) (hi : (Tryz.prog.info? 27).map (·.size) = some cs.size:=by kernel_rfl) (hj : (Tryz.prog.info? 40).map (·.size) = some 2:=by kernel_rfl) : (results fn tmps).run Tryz.prog W = .ok (.tuple #[.agg cs,.agg #[.int .i64 c,.int .i64 z]]) W:=by
 have h:=run_loadVar_row (P:=Tryz.prog) W b 27 27 cs (0,0) _ hb Tryz.underlying27 rfl hi
 have g:=run_loadVar_row (P:=Tryz.prog) W d 40 40 #[.int .i64 c,.int .i64 z] (0,0) _ hd Tryz.underlying40 rfl hj
 have h4' : tmps[q]?.getD undef = .pointer (some ⟨b,0,none⟩):=by simpa using h4
 have h5' : tmps[u]?.getD undef = .pointer (some ⟨d,0,none⟩):=by simpa using h5
 simp [results,hr,h4',h5',asAddr,h,g]
def RlnT (R : PV -> Int -> Int -> Prop) (w : World) (e : Ending) (w' : World) : Prop :=
 ∃ (q : PL) (v : PV) (c z : Int),e = .returned (.tuple #[.agg #[.string q.s,.bool q.n,.slice q.a q.xs.length q.ca,.slice q.b q.ys.length q.cb,.slice q.t q.ts.length q.ct],.agg #[.int .i64 c,.int .i64 z]]) /\ R v c z /\ Made q v w w'
theorem lcut_any (s : ByteArray) (w : World) (hs : s.size <= 65536) : Calls Tryz.prog 109 #[.string s,.string ⟨#[10]⟩] w fun e w' => ∃ (a r : ByteArray),e = .returned (.tuple #[.string a,.string r,.bool (lend s.data.toList)]) /\ a.data.toList = lline s.data.toList /\ r.data.toList = lrest s.data.toList /\ a.size <= 65536 /\ r.size <= 65536 /\ Below w.heap.size w w':=by
 refine Calls.mono (zcut_any s 10 w (by omega)) ?_
 rintro e w' ⟨rfl,hb⟩
 have h:=zcut_len s.data.toList 10
 have hl : s.data.toList.length = s.size:=Array.length_toList
 refine ⟨_,_,rfl,rfl,rfl,?_,?_,hb⟩
 · show (Lib.cut s.data.toList [10]).1.toArray.size <= _
   rw [List.size_toArray]; omega
 · show (Lib.cut s.data.toList [10]).2.1.toArray.size <= _
   rw [List.size_toArray]; omega
def strOf : Value -> Nat
 | .string s => s.size
 | _ => 0
theorem bnil_iff {s : ByteArray} : s.data.toList = [] ↔ s = ⟨#[]⟩:=⟨fun h => ByteArray.ext (Array.toList_inj.1 h),fun h => by rw [h]⟩
def RlI (l : List UInt8) (w : World) (B : Nat) (k : Nat) (s : ByteArray) (wr : World) : Prop :=
 (k = 0 /\ s.data.toList = l /\ Below w.heap.size w wr /\ Box wr B 27 #[.string ⟨#[]⟩,.bool false,.slice none 0 0,.slice none 0 0,.slice none 0 0]) \/
 (∃ (nm : ByteArray) (n : Bool) (xs ys : List Int) (a1 a2 q : Option Addr) (c1 c2 cq : Nat) (L : List TL),k = L.length + 1 /\ RTells (prErr ⟨(trest (trest (lline l))).toArray⟩) (rpq (trest (trest (lline l)))) n xs ys 0 /\ hdGood ⟨(lline l).toArray⟩ 0 /\ lend l = true /\ nm.data.toList = tword (trest (lline l)) /\ TdS (lrest l) (L.map TL.v) s.data.toList /\ CpI ⟨nm,n,xs,ys,[]⟩ w B a1 c1 a2 c2 L L q cq wr)
theorem RlI.bel {l : List UInt8} {w : World} {B k : Nat} {s : ByteArray} {wr : World} (h : RlI l w B k s wr) : Below w.heap.size w wr:=by
 rcases h with ⟨_,_,h,_⟩ | ⟨_,_,_,_,_,_,_,_,_,_,_,_,_,_,_,_,_,h⟩
 · exact h
 · exact h.bel
set_option maxRecDepth 100000 in
theorem pReadLines_any (s0 : ByteArray) (w : World) (hs : s0.size <= 65536) (htab : Tab w) (herr : ErrT w) : Calls Tryz.prog 57 #[.string s0] w (RlnT (LnsT s0.data.toList) w):=by
 obtain ⟨X,hX⟩ : ∃ X,w.alloc (.cells #[.string ⟨#[]⟩,.bool false,.slice none 0 0,.slice none 0 0,.slice none 0 0] 27) = X:=⟨_,rfl⟩
 obtain ⟨X2,hX2⟩ : ∃ X2,X.alloc (.cells #[.int .i64 0,.int .i64 0] 40) = X2:=⟨_,rfl⟩
 obtain ⟨Y,hY⟩ : ∃ Y,X2.alloc (.cells #[.string ⟨#[]⟩,.bool false,.slice none 0 0,.slice none 0 0,.slice none 0 0] 27) = Y:=⟨_,rfl⟩
 have hXs : X.heap.size = w.heap.size + 1:=by subst hX; simp
 have hXs2 : X2.heap.size = w.heap.size + 1 + 1:=by subst hX2; simp [hXs]
 have HR : Hid (Box Y w.heap.size 27 #[.string ⟨#[]⟩,.bool false,.slice none 0 0,.slice none 0 0,.slice none 0 0]):=by
  subst hY hX2 hX
  exact (Box.made w _ _).later (bt (alloc_later _ _) (alloc_later _ _)) (Box.made w 27 _).lt
 have HF : Hid (Box Y (w.heap.size + 1) 40 #[.int .i64 0,.int .i64 0]):=by
  rw [<- hXs]
  subst hY hX2
  exact (Box.made X _ _).later (alloc_later _ _) (Box.made X 40 _).lt
 have HP : Hid (Box Y (w.heap.size + 1 + 1) 27 #[.string ⟨#[]⟩,.bool false,.slice none 0 0,.slice none 0 0,.slice none 0 0]):=by
  rw [<- hXs2]
  subst hY
  exact Box.made X2 _ _
 have HB : Hid (Below w.heap.size w Y):=by
  subst hY hX2 hX
  exact bt (alloc_later _ _) (bt (alloc_later _ _) (alloc_later _ _))
 have HT:=hid (fun V (hv : Below w.heap.size w V) => htab.later hv)
 have HE:=hid (fun V (hv : Below w.heap.size w V) => herr.later hv)
 have HSZ:=hid hs
 clear htab herr hs
 go_enter Tryz.func57,Tryz.ntmps57
 go_wp2_with fail
 go_step3
 go_wp2_with fail
 go_step3
 go_wp2_with fail
 go_loopw [0,5] (fun sv x wr => ∃ (k : Nat) (s : ByteArray),sv = .string s /\ x = .int .i64 (k : Int) /\ k + s.size <= s0.size /\ Hid (RlI s0.data.toList w (w.heap.size + 1 + 1) k s wr) /\ Hid (Box wr w.heap.size 27 #[.string ⟨#[]⟩,.bool false,.slice none 0 0,.slice none 0 0,.slice none 0 0]) /\ Hid (Box wr (w.heap.size + 1) 40 #[.int .i64 0,.int .i64 0])) (fun sv _ _ => strOf sv)
 case atStart => exact ⟨0,s0,rfl,rfl,by omega,.inl ⟨rfl,rfl,HB.out,HP.out⟩,HR.out,HF.out⟩
 case round =>
  obtain ⟨k,s,rfl,rfl,hks,HI,HR5,HF5⟩:=hrel
  have HB5:=hid HI.out.bel
  have hsz : s.size <= 65536:=by have:=HSZ.out; omega
  have HLC:=hid (lcut_any s wr hsz)
  rcases HI.out with ⟨hk0,hsl,hbw,hbx⟩ | ⟨nm,n,xs,ys,a1,a2,q,c1,c2,cq,L,hkl,ht,hG,he,hnm,hTd,hI⟩
  · subst hk0
    have hsl' : s = s0:=nmEq'.1 hsl
    subst hsl'
    have HBX:=hid hbx
    have hsz0:=HSZ.out
    clear hsl hbx hbw HI
    obtain ⟨le,hle⟩ : ∃ b,lend s.data.toList = b:=⟨_,rfl⟩
    rw [hle] at HLC
    have HLE:=hid hle
    clear hle
    go_wp2_with fail
    refine Calls.mono HLC.out ?_
    rintro e w1 ⟨a,r,rfl,ha,hr,hsa,hsr,b1⟩
    have HA:=hid ha
    have HRR:=hid hr
    have HB1:=hid (bt HB5.out b1)
    have HR1:=hid (HR5.out.later b1 HR5.out.lt)
    have HF1:=hid (HF5.out.later b1 HF5.out.lt)
    have HX1:=hid (HBX.out.later b1 HBX.out.lt)
    clear ha hr b1 HLC HB5 HR5 HF5 HBX
    cases le with
    | false =>
     obtain ⟨⟨s0',s1',s2',s3',s4'⟩,⟨x0,x1,x2,x3,x4⟩,⟨u0,u1,u2,u3,u4⟩⟩:=pzero5 HR1.out
     obtain ⟨A0,A1,q0,q1,⟨r0,r1⟩,⟨v0,v1⟩,HAA⟩:=rchain2 HF1.out (by decide) (.int .i64 240) (.int .i64 (0))
     have HRA : Hid (Box A1 w.heap.size 27 #[.string ⟨#[]⟩,.bool false,.slice none 0 0,.slice none 0 0,.slice none 0 0]):=HAA.out.2.1 _ _ _ (by omega) HR1.out
     have HBA : Hid (Below w.heap.size w A1):=HAA.out.2.2.2.1 _ _ (by omega) HB1.out
     have HFA:=hid HAA.out.1
     clear HAA
     go_wp2_with fail
     rw [Exit.noGoto_ret]
     exact bodyPost_ret (pres2_run (by rfl) HRA.out HFA.out _ rfl rfl) rfl ⟨PL.zero,PV.zero,240,0,rfl,.inr ⟨rfl,rfl,.inl ⟨rfl,.inl HLE.out⟩⟩,Made.none HBA.out⟩
    | true =>
     have HSH : Hid (r.size < s.size):=by
      have h:=lrest_short HLE.out
      rw [<- HRR.out] at h
      have e1 : r.data.toList.length = r.size:=Array.length_toList
      have e2 : s.data.toList.length = s.size:=Array.length_toList
      show _ < _
      omega
     have HRH:=hid (pReadHead_any w (w.heap.size + 1 + 1) a hsa w1 HB1.out (by omega) HX1.out)
     go_wp2_with fail
     refine Calls.mono HRH.out ?_
     rintro e w2 ⟨n,xs,ys,code,ht,hk,⟨hng,rfl,b2⟩ | ⟨hgd,rfl,nm,a1,a2,c1,c2,hnm,hcp⟩⟩
     · have HT2 : Hid (RTells (prErr ⟨(trest (trest (lline s.data.toList))).toArray⟩) (rpq (trest (trest (lline s.data.toList)))) n xs ys code):=by
        rw [<- HA.out]; exact ht
       have HNG : Hid (¬ hdGood ⟨(lline s.data.toList).toArray⟩ code):=fun h => hng (by
        have q:=hdGood_iff.1 h
        rw [<- HA.out] at q
        exact q)
       have HB5:=hid b2
       have HR5:=hid (hk _ _ _ (by omega) HR1.out)
       have HF5:=hid (hk _ _ _ (by omega) HF1.out)
       clear ht hng b2 hk HB1 HR1 HF1 HX1 HRH
       obtain ⟨⟨s0',s1',s2',s3',s4'⟩,⟨x0,x1,x2,x3,x4⟩,⟨u0,u1,u2,u3,u4⟩⟩:=pzero5 HR5.out
       obtain ⟨A0,A1,q0,q1,⟨r0,r1⟩,⟨v0,v1⟩,HAA⟩:=rchain2 HF5.out (by decide) (.int .i64 240) (.int .i64 (0))
       have HRA : Hid (Box A1 w.heap.size 27 #[.string ⟨#[]⟩,.bool false,.slice none 0 0,.slice none 0 0,.slice none 0 0]):=HAA.out.2.1 _ _ _ (by omega) HR5.out
       have HBA : Hid (Below w.heap.size w A1):=HAA.out.2.2.2.1 _ _ (by omega) HB5.out
       have HFA:=hid HAA.out.1
       clear HAA
       go_wp2_with fail
       rw [Exit.noGoto_ret]
       exact bodyPost_ret (pres2_run (by rfl) HRA.out HFA.out _ rfl rfl) rfl ⟨PL.zero,PV.zero,240,0,rfl,.inr ⟨rfl,rfl,.inl ⟨rfl,.inr ⟨n,xs,ys,code,HT2.out,HNG.out⟩⟩⟩,Made.none HBA.out⟩
     · have HT2 : Hid (RTells (prErr ⟨(trest (trest (lline s.data.toList))).toArray⟩) (rpq (trest (trest (lline s.data.toList)))) n xs ys 0):=by
        have q:=hgd.2.2
        rw [<- HA.out,<- q]; exact ht
       have HGD : Hid (hdGood ⟨(lline s.data.toList).toArray⟩ 0):=hdGood_iff.2 (by
        rw [<- HA.out]
        exact ⟨hgd.1,hgd.2.1,rfl⟩)
       have HNM : Hid (nm.data.toList = tword (trest (lline s.data.toList))):=by rw [<- HA.out]; exact hnm
       have HCP:=hid hcp
       have HR5:=hid (hk _ _ _ (by omega) HR1.out)
       have HF5:=hid (hk _ _ _ (by omega) HF1.out)
       clear ht hgd hnm hcp hk HB1 HR1 HF1 HX1 HRH
       go_wp2_with fail
       go_roundw
       case rel => exact ⟨1,r,rfl,by go_num,by have:=HSH.out; omega,.inr ⟨nm,n,xs,ys,a1,a2,none,c1,c2,0,[],rfl,HT2.out,HGD.out,HLE.out,HNM.out,HRR.out,HCP.out⟩,HR5.out,HF5.out⟩
       case measure => have:=HSH.out; simp [strOf]; omega
  · have hsz0:=HSZ.out
    have hk1 : (0 : Int) < (k : Int):=by omega
    have hk2 : ¬ (k : Int) = 0:=by omega
    have hk3 : ((k : Int) == 0) = false:=by simp; omega
    have HKL:=hid hkl
    have HHT:=hid ht
    have HHG:=hid hG
    have HHE:=hid he
    have HHN:=hid hnm
    have HTD:=hid hTd
    have HCI:=hid hI
    clear hkl ht hG he hnm hTd hI HI
    by_cases hse : s = ⟨#[]⟩
    · subst hse
      have c0 : wr.cell? ⟨w.heap.size + 1 + 1,0,none⟩ = some (.string nm):=HCI.out.box.cell 0
      have c1' : wr.cell? ⟨w.heap.size + 1 + 1,1,none⟩ = some (.bool n):=HCI.out.box.cell 1
      have c2' : wr.cell? ⟨w.heap.size + 1 + 1,2,none⟩ = some (.slice a1 xs.length c1):=HCI.out.box.cell 2
      have c3 : wr.cell? ⟨w.heap.size + 1 + 1,3,none⟩ = some (.slice a2 ys.length c2):=HCI.out.box.cell 3
      have c4 : wr.cell? ⟨w.heap.size + 1 + 1,4,none⟩ = some (.slice q L.length cq):=HCI.out.box.cell 4
      obtain ⟨A0,A1,A2,A3,A4,p0,p1,p2,p3,p4,⟨r0,r1,r2,r3,r4⟩,⟨f0,f1,f2,f3,f4⟩,HA⟩:=pchain5 HR5.out (.string nm) (.bool n) (.slice a1 xs.length c1) (.slice a2 ys.length c2) (.slice q L.length cq)
      have HFA : Hid (Box A4 (w.heap.size + 1) 40 #[.int .i64 0,.int .i64 0]):=HA.out.2.1 _ _ _ (by omega) HF5.out
      have HRA:=hid HA.out.1
      have z0 : A4.setCell ⟨w.heap.size + 1,0,none⟩ (.int .i64 0) = A4:=HFA.out.same rfl
      have z1 : A4.setCell ⟨w.heap.size + 1,1,none⟩ (.int .i64 0) = A4:=HFA.out.same rfl
      have y0 : A4.cell? ⟨w.heap.size + 1,0,none⟩ = some (.int .i64 0):=HFA.out.cell 0
      have y1 : A4.cell? ⟨w.heap.size + 1,1,none⟩ = some (.int .i64 0):=HFA.out.cell 1
      have g0 : A4.frozen? ⟨w.heap.size + 1,0,none⟩ = false:=HFA.out.free 0
      have g1 : A4.frozen? ⟨w.heap.size + 1,1,none⟩ = false:=HFA.out.free 1
      have HMD : Hid (Made ⟨nm,n,a1,c1,xs,a2,c2,ys,q,cq,L⟩ ⟨nm,n,xs,ys,L.map TL.v⟩ w A4):=CpI.done (HCI.out.re (L.map TL.v)) rfl (Nat.le_refl _) HA.out.2.2.1 HA.out.2.2.2.1 HA.out.2.2.2.2
      clear HA HLC
      go_wp2_with fail
      exact bodyPost_ret (pres2_run (by rfl) HRA.out HFA.out _ rfl rfl) rfl ⟨⟨nm,n,a1,c1,xs,a2,c2,ys,q,cq,L⟩,⟨nm,n,xs,ys,L.map TL.v⟩,0,0,rfl,.inl ⟨rfl,rfl,HHT.out,HHG.out,HHE.out,HTD.out,HHN.out⟩,HMD.out⟩
    · have HNS : Hid (s.data.toList ≠ []):=fun h => hse (bnil_iff.1 h)
      have hse2 : s.toList.isEmpty = false:=by
       rw [ByteArray.toList_eq]
       cases h : s.data.toList with
       | nil => exact absurd h HNS.out
       | cons a b => rfl
      obtain ⟨le,hle⟩ : ∃ b,lend s.data.toList = b:=⟨_,rfl⟩
      rw [hle] at HLC
      have HLE:=hid hle
      clear hle
      go_wp2_with fail
      refine Calls.mono HLC.out ?_
      rintro e w1 ⟨a,r,rfl,ha,hr,hsa,hsr,b1⟩
      have HA:=hid ha
      have HRR:=hid hr
      have HR1:=hid (HR5.out.later b1 HR5.out.lt)
      have HF1:=hid (HF5.out.later b1 HF5.out.lt)
      have HC1:=hid (HCI.out.later b1)
      have HB1:=hid HC1.out.bel
      clear ha hr b1 HLC HB5 HR5 HF5 HCI
      cases le with
      | false =>
       obtain ⟨⟨s0',s1',s2',s3',s4'⟩,⟨x0,x1,x2,x3,x4⟩,⟨u0,u1,u2,u3,u4⟩⟩:=pzero5 HR1.out
       obtain ⟨A0,A1,q0,q1,⟨r0,r1⟩,⟨v0,v1⟩,HAA⟩:=rchain2 HF1.out (by decide) (.int .i64 240) (.int .i64 ((k : Int)))
       have HRA : Hid (Box A1 w.heap.size 27 #[.string ⟨#[]⟩,.bool false,.slice none 0 0,.slice none 0 0,.slice none 0 0]):=HAA.out.2.1 _ _ _ (by omega) HR1.out
       have HBA : Hid (Below w.heap.size w A1):=HAA.out.2.2.2.1 _ _ (by omega) HB1.out
       have HFA:=hid HAA.out.1
       clear HAA
       go_wp2_with fail
       rw [Exit.noGoto_ret]
       exact bodyPost_ret (pres2_run (by rfl) HRA.out HFA.out _ rfl rfl) rfl ⟨PL.zero,PV.zero,240,(k : Int),rfl,.inr ⟨rfl,rfl,.inr ⟨L.map TL.v,s.data.toList,n,xs,ys,HHT.out,HHG.out,HHE.out,HTD.out,HNS.out,by have:=HKL.out; rw [List.length_map]; omega,.inl HLE.out⟩⟩,Made.none HBA.out⟩
      | true =>
       have HSH : Hid (r.size < s.size):=by
        have h:=lrest_short HLE.out
        rw [<- HRR.out] at h
        have e1 : r.data.toList.length = r.size:=Array.length_toList
        have e2 : s.data.toList.length = s.size:=Array.length_toList
        show _ < _
        omega
       have HRT:=hid (pReadTide_any HC1.out (by have:=HKL.out; omega) a (by omega) (HT.out _ HB1.out) (HE.out _ HB1.out))
       go_wp2_with fail
       refine Calls.mono HRT.out ?_
       rintro e w2 ⟨u,c,hp,hk,⟨hng,rfl,b2⟩ | ⟨hc,rfl,t,a',ct',htv,hcp⟩⟩
       · have HPA : Hid (PaT ⟨(lline s.data.toList).toArray⟩ u c):=by
          rw [<- zbytes HA.out]; exact hp
         have HNG:=hid hng
         have HB5:=hid b2
         have HR5:=hid (hk _ _ _ (by omega) (by decide) HR1.out)
         have HF5:=hid (hk _ _ _ (by omega) (by decide) HF1.out)
         clear hp hng b2 hk HB1 HR1 HF1 HC1 HRT
         obtain ⟨⟨s0',s1',s2',s3',s4'⟩,⟨x0,x1,x2,x3,x4⟩,⟨u0,u1,u2,u3,u4⟩⟩:=pzero5 HR5.out
         obtain ⟨A0,A1,q0,q1,⟨r0,r1⟩,⟨v0,v1⟩,HAA⟩:=rchain2 HF5.out (by decide) (.int .i64 240) (.int .i64 ((k : Int)))
         have HRA : Hid (Box A1 w.heap.size 27 #[.string ⟨#[]⟩,.bool false,.slice none 0 0,.slice none 0 0,.slice none 0 0]):=HAA.out.2.1 _ _ _ (by omega) HR5.out
         have HBA : Hid (Below w.heap.size w A1):=HAA.out.2.2.2.1 _ _ (by omega) HB5.out
         have HFA:=hid HAA.out.1
         clear HAA
         go_wp2_with fail
         rw [Exit.noGoto_ret]
         exact bodyPost_ret (pres2_run (by rfl) HRA.out HFA.out _ rfl rfl) rfl ⟨PL.zero,PV.zero,240,(k : Int),rfl,.inr ⟨rfl,rfl,.inr ⟨L.map TL.v,s.data.toList,n,xs,ys,HHT.out,HHG.out,HHE.out,HTD.out,HNS.out,by have:=HKL.out; rw [List.length_map]; omega,.inr ⟨u,c,HPA.out,HNG.out⟩⟩⟩,Made.none HBA.out⟩
       · have HPA : Hid (PaT ⟨(lline s.data.toList).toArray⟩ t.v 0):=by
          rw [<- zbytes HA.out,htv,<- hc]; exact hp
         have HTD2 : Hid (TdS (lrest s0.data.toList) ((L ++ [t]).map TL.v) r.data.toList):=by
          show TdS _ _ _
          rw [List.map_append,HRR.out]
          exact TdS.snoc HNS.out HLE.out HPA.out HTD.out
         have HCP:=hid hcp
         have HR5:=hid (hk _ _ _ (by omega) (by decide) HR1.out)
         have HF5:=hid (hk _ _ _ (by omega) (by decide) HF1.out)
         clear hp hc hcp hk HB1 HR1 HF1 HC1 HRT
         go_wp2_with fail
         go_roundw
         case rel => exact ⟨k + 1,r,rfl,by go_num,by have:=HSH.out; omega,.inr ⟨nm,n,xs,ys,a1,a2,a',c1,c2,ct',L ++ [t],by have:=HKL.out; rw [List.length_append]; simp; omega,HHT.out,HHG.out,HHE.out,HHN.out,HTD2.out,HCP.out⟩,HR5.out,HF5.out⟩
         case measure => have:=HSH.out; simp [strOf]; omega
theorem tchk_rok {t : TV} (h : t.chk = 0) : rOK t.f t.r:=trok (tchk_ok h).2.1
theorem hmv {x y p q : Rat} {K J : Nat} (hx : Hgt x (2 ^ K)) (hy : Hgt y (2 ^ K)) (hp : Hgt p (2 ^ J)) (hq : Hgt q (2 ^ J)) : Hgt (x * p - y * q) (2 ^ (K + J + (K + J) + 1)) /\ Hgt (x * q + y * p) (2 ^ (K + J + (K + J) + 1)):=by
 have mul : ∀ {a b : Rat},Hgt a (2 ^ K) -> Hgt b (2 ^ J) -> Hgt (a * b) (2 ^ (K + J)):=fun ha hb => by rw [Nat.pow_add]; exact ha.mul hb
 have two : ∀ m : Nat,2 * (2 ^ m * 2 ^ m) = 2 ^ (m + m + 1):=fun m => by rw [<- Nat.pow_add,Nat.pow_succ,Nat.mul_comm]
 have s1:=(mul hx hp).sub (mul hy hq)
 have s2:=(mul hx hq).add (mul hy hp)
 rw [two] at s1 s2
 exact ⟨s1,s2⟩
theorem made_ok {q : PL} {v : PV} {w w' : World} (hm : Made q v w w') (hv : v.ok) : q.ok w':=PL.ok_of (by rw [hm.v]; exact hv) hm.ow
theorem mv_ok {v : PV} {n : Int} {vs : List TV} (ho : v.ok) (hl : vs.length = v.ts.length) (hv : ∀ j,j < v.ts.length -> Mv n (vT v.ts j) (vT vs j)) : PV.ok ⟨v.s,v.n,v.xs,v.ys,vs⟩:=by
 refine ⟨ho.1,ho.2.1,ho.2.2.1,fun t ht => ?_⟩
 obtain ⟨j,hj⟩:=List.mem_iff_getElem?.1 ht
 have hjl : j < vs.length:=(List.getElem?_eq_some_iff.1 hj).1
 have e:=vT_of hj
 have hm:=hv j (by omega)
 have hw:=ho.2.2.2 _ (List.mem_of_getElem? (vT_at (by omega : j < v.ts.length)))
 rw [e] at hm
 exact ⟨by rw [hm.1]; exact hw.1,by rw [hm.2.1,hm.2.2.1]; exact hw.2.1,hm.2.2.2.2.2⟩
theorem cj_ok {v : PV} {vs : List TV} (hg : v.Good) (ho : v.ok) (hl : vs.length = v.ts.length) (hv : ∀ j,j < v.ts.length -> CjT (vT v.ts j) (vT vs j) 0) : PV.ok ⟨v.s,v.n,v.xs,v.ys,vs⟩:=by
 refine ⟨ho.1,ho.2.1,ho.2.2.1,fun t ht => ?_⟩
 obtain ⟨j,hj⟩:=List.mem_iff_getElem?.1 ht
 have hjl : j < vs.length:=(List.getElem?_eq_some_iff.1 hj).1
 have e:=vT_of hj
 have hm:=hv j (by omega)
 have hw:=ho.2.2.2 _ (List.mem_of_getElem? (vT_at (by omega : j < v.ts.length)))
 rw [e] at hm
 have hb:=trok_in (tchk_rok (hg.chk j (by omega)))
 exact ⟨by rw [hm.2.1]; exact hw.1,by rw [hm.2.2.1,hm.2.2.2.1]; exact ⟨by omega,by omega⟩,hm.2.2.2.2.2.2⟩
def PrsT (s : ByteArray) (v : PV) (c z : Int) : Prop :=
 (65536 < s.size /\ v = PV.zero /\ c = 3 /\ z = -1) \/
 (s.size <= 65536 /\ ∃ (u : PV) (c0 z0 : Int),LnsT s.data.toList u c0 z0 /\ ((c0 ≠ 0 /\ v = PV.zero /\ c = c0 /\ z = z0) \/ (c0 = 0 /\ ∃ (q : PL) (ce ze : Int),q.v = u /\ PChk q.hd q.ts ce ze /\ ((ce ≠ 0 /\ v = PV.zero /\ c = ce /\ z = ze + 1) \/ (ce = 0 /\ v = u /\ c = 0 /\ z = 0)))))
theorem PChk.at_ {h : Int} {ts : List TL} {c z : Int} (g : PChk h ts c z) : -1 <= z /\ (z + 1 <= (ts.length : Int) \/ z <= 0):=by
 rcases g with ⟨_,_,rfl⟩ | ⟨_,⟨i,hi,_,rfl,_⟩ | ⟨_,_,rfl⟩⟩
 · omega
 · omega
 · omega
theorem lns_ok {l : List UInt8} {v : PV} {z : Int} (hl : l.length <= 65536) (h : LnsT l v 0 z) : v.ok:=by
 obtain ⟨h1,h2,h3,h4⟩:=lns_read hl h
 refine ⟨?_,h2,h3,h4⟩
 have e:=congrArg List.length h1
 have hv : v.s.size <= v.text.length:=by
  unfold PV.text PV.head
  simp only [List.length_append]
  have e2 : v.s.data.toList.length = v.s.size:=Array.length_toList
  omega
 unfold maxLen
 omega
theorem Made.to {q : PL} {v : PV} {w V W A : World} (hm : Made q v V W) (ho : q.Ow A V.heap.size) (hs : W.heap.size <= A.heap.size) (hV : w.heap.size <= V.heap.size) (hb : Below w.heap.size w A) : Made q v w A:=by
 obtain ⟨c,d,c0,c1,l0,l1,sq⟩:=hm.sep
 exact ⟨hm.v,ho.base hV,⟨c,d,by omega,c1,fun g e => by have:=l0 g e; omega,l1,sq.wide (Nat.le_refl _) hs⟩,hb⟩
theorem PL.Ow.put {p : PL} {W A : World} {base t : Nat} (h : p.Ow W base) (h1 : 69 ≠ t) (h2 : 37 ≠ t) (hA : ∀ base e s v n xs,e ≠ t -> W.ownsRow base e s v n xs -> A.ownsRow base e s v n xs) : p.Ow A base:=by
 refine ⟨hA _ _ _ _ _ _ h1 h.mx,hA _ _ _ _ _ _ h1 h.my,hA _ _ _ _ _ _ h2 h.row,fun u hu => ?_⟩
 have q:=h.els u hu
 exact ⟨hA _ _ _ _ _ _ h1 q.1,hA _ _ _ _ _ _ h1 q.2.1,hA _ _ _ _ _ _ h1 q.2.2.1,hA _ _ _ _ _ _ h1 q.2.2.2⟩
theorem fzero2 {W : World} {b t : Nat} (h : Box W b t #[.int .i64 0,.int .i64 0]) : (W.setCell ⟨b,0,none⟩ (.int .i64 0) = W /\ W.setCell ⟨b,1,none⟩ (.int .i64 0) = W) /\ (W.cell? ⟨b,0,none⟩ = some (.int .i64 0) /\ W.cell? ⟨b,1,none⟩ = some (.int .i64 0)) /\ (W.frozen? ⟨b,0,none⟩ = false /\ W.frozen? ⟨b,1,none⟩ = false) :=
 ⟨⟨h.same rfl,h.same rfl⟩,⟨h.cell 0,h.cell 1⟩,h.free 0,h.free 1⟩
set_option maxRecDepth 100000 in
theorem pParse_any (s : ByteArray) (w : World) (htab : Tab w) (herr : ErrT w) : Calls Tryz.prog 16 #[.string s] w (RlnT (PrsT s) w):=by
 obtain ⟨X,hX⟩ : ∃ X,w.alloc (.cells #[.string ⟨#[]⟩,.bool false,.slice none 0 0,.slice none 0 0,.slice none 0 0] 27) = X:=⟨_,rfl⟩
 obtain ⟨Y,hY⟩ : ∃ Y,X.alloc (.cells #[.int .i64 0,.int .i64 0] 40) = Y:=⟨_,rfl⟩
 have hXs : X.heap.size = w.heap.size + 1:=by subst hX; simp
 have HR : Hid (Box Y w.heap.size 27 #[.string ⟨#[]⟩,.bool false,.slice none 0 0,.slice none 0 0,.slice none 0 0]):=by
  subst hY hX
  exact (Box.made w _ _).later (alloc_later _ _) (Box.made w 27 _).lt
 have HF : Hid (Box Y (w.heap.size + 1) 40 #[.int .i64 0,.int .i64 0]):=by
  rw [<- hXs]
  subst hY
  exact Box.made X _ _
 have HB : Hid (Below w.heap.size w Y):=by
  subst hY hX
  exact bt (alloc_later _ _) (alloc_later _ _)
 have HRL : Hid (s.size <= 65536 -> Calls Tryz.prog 57 #[.string s] Y (RlnT (LnsT s.data.toList) Y)):=fun h => pReadLines_any s Y h (htab.later HB.out) (herr.later HB.out)
 clear htab herr
 go_enter Tryz.func16,Tryz.ntmps16
 by_cases hlong : 65536 < s.size
 · have hl' : (65536 : Int) < (s.size : Int):=by omega
   obtain ⟨⟨s0',s1',s2',s3',s4'⟩,⟨x0,x1,x2,x3,x4⟩,⟨u0,u1,u2,u3,u4⟩⟩:=pzero5 HR.out
   obtain ⟨A0,A1,q0,q1,⟨r0,r1⟩,⟨v0,v1⟩,HA⟩:=rchain2 HF.out (by decide) (.int .i64 3) (.int .i64 (-1))
   have HRA : Hid (Box A1 w.heap.size 27 #[.string ⟨#[]⟩,.bool false,.slice none 0 0,.slice none 0 0,.slice none 0 0]):=HA.out.2.1 _ _ _ (by omega) HR.out
   have HBA : Hid (Below w.heap.size w A1):=HA.out.2.2.2.1 _ _ (by omega) HB.out
   have HFA:=hid HA.out.1
   have HLO:=hid hlong
   clear HA hlong HRL
   go_wp2_with fail
   exact bodyPost_ret (pres2_run (by rfl) HRA.out HFA.out _ rfl rfl) rfl ⟨PL.zero,PV.zero,3,-1,rfl,.inl ⟨HLO.out,rfl,rfl,rfl⟩,Made.none HBA.out⟩
 · have hl' : ¬ (65536 : Int) < (s.size : Int):=by omega
   have HSZ : Hid (s.size <= 65536):=by show _ <= _; omega
   have HLL : Hid (s.data.toList.length <= 65536):=by
    have e : s.data.toList.length = s.size:=Array.length_toList
    show _ <= _
    rw [e]; exact HSZ.out
   have HRL2:=hid (HRL.out HSZ.out)
   clear hlong HRL
   go_wp2_with fail
   refine Calls.mono HRL2.out ?_
   rintro e w1 ⟨q,u,c0,z0,rfl,hln,hm⟩
   have hby:=hm.bel
   have HR1:=hid (HR.out.later hby HR.out.lt)
   have HF1:=hid (HF.out.later hby HF.out.lt)
   have HB1:=hid (bt HB.out hby)
   obtain ⟨W2,hW2⟩ : ∃ W2,w1.alloc (.cells #[.string ⟨#[]⟩,.bool false,.slice none 0 0,.slice none 0 0,.slice none 0 0] 27) = W2:=⟨_,rfl⟩
   obtain ⟨W3,hW3⟩ : ∃ W3,W2.alloc (.cells #[.int .i64 0,.int .i64 0] 40) = W3:=⟨_,rfl⟩
   have hs2 : W2.heap.size = w1.heap.size + 1:=by subst hW2; simp
   have HQ : Hid (Box W3 w1.heap.size 27 #[.string ⟨#[]⟩,.bool false,.slice none 0 0,.slice none 0 0,.slice none 0 0]):=by
    subst hW3 hW2
    exact (Box.made w1 _ _).later (alloc_later _ _) (Box.made w1 27 _).lt
   have HG : Hid (Box W3 (w1.heap.size + 1) 40 #[.int .i64 0,.int .i64 0]):=by
    rw [<- hs2]
    subst hW3
    exact Box.made W2 _ _
   have HB3 : Hid (Below w1.heap.size w1 W3):=by
    subst hW3 hW2
    exact bt (alloc_later _ _) (alloc_later _ _)
   have hy1 : Y.heap.size <= w1.heap.size:=hby.size
   have hyr : w.heap.size + 1 < Y.heap.size:=HF.out.lt
   obtain ⟨A0,A1,A2,A3,A4,p0,p1,p2,p3,p4,⟨r0,r1,r2,r3,r4⟩,⟨f0,f1,f2,f3,f4⟩,HA⟩:=pchain5 HQ.out (.string q.s) (.bool q.n) (.slice q.a q.xs.length q.ca) (.slice q.b q.ys.length q.cb) (.slice q.t q.ts.length q.ct)
   have HGA : Hid (Box A4 (w1.heap.size + 1) 40 #[.int .i64 0,.int .i64 0]):=HA.out.2.1 _ _ _ (by omega) HG.out
   obtain ⟨D0,D1,d0,d1,⟨e0,e1⟩,⟨g0,g1⟩,HD⟩:=rchain2 HGA.out (by decide) (.int .i64 c0) (.int .i64 z0)
   have HRD : Hid (Box D1 w.heap.size 27 #[.string ⟨#[]⟩,.bool false,.slice none 0 0,.slice none 0 0,.slice none 0 0]):=HD.out.2.1 _ _ _ (by omega) (HA.out.2.1 _ _ _ (by omega) (HR1.out.later HB3.out HR1.out.lt))
   have HFD : Hid (Box D1 (w.heap.size + 1) 40 #[.int .i64 0,.int .i64 0]):=HD.out.2.1 _ _ _ (by omega) (HA.out.2.1 _ _ _ (by omega) (HF1.out.later HB3.out HF1.out.lt))
   have HQD : Hid (Box D1 w1.heap.size 27 #[.string q.s,.bool q.n,.slice q.a q.xs.length q.ca,.slice q.b q.ys.length q.cb,.slice q.t q.ts.length q.ct]):=HD.out.2.1 _ _ _ (by omega) HA.out.1
   have HGD : Hid (Box D1 (w1.heap.size + 1) 40 #[.int .i64 c0,.int .i64 z0]):=HD.out.1
   have HB4 : Hid (Below Y.heap.size Y D1):=HD.out.2.2.2.1 _ _ (by omega) (HA.out.2.2.2.1 _ _ (by omega) (bt hby HB3.out))
   have HM:=hid hm
   have HLN:=hid hln
   have HOW : Hid (q.Ow D1 Y.heap.size):=by
    exact (hm.ow).later (HD.out.2.2.2.1 _ _ (by omega) (HA.out.2.2.2.1 _ _ (Nat.le_refl _) HB3.out))
   have HB5:=hid (bt HB.out HB4.out)
   have y0 : D1.cell? ⟨w1.heap.size + 1,0,none⟩ = some (.int .i64 c0):=HGD.out.cell 0
   have y1 : D1.cell? ⟨w1.heap.size + 1,1,none⟩ = some (.int .i64 z0):=HGD.out.cell 1
   clear hm hln hby HR1 HF1 HB1 HQ HG HB3 HA HGA HD HRL2
   by_cases hc0 : c0 = 0
   · subst hc0
     have HOKU : Hid u.ok:=lns_ok HLL.out HLN.out
     have HQK : Hid (q.ok D1):=PL.ok_of (by rw [HM.out.v]; exact HOKU.out) HOW.out
     have HCK:=hid (plcheck_any q D1 HQK.out)
     have k0 : D1.cell? ⟨w1.heap.size,0,none⟩ = some (.string q.s):=HQD.out.cell 0
     have k1 : D1.cell? ⟨w1.heap.size,1,none⟩ = some (.bool q.n):=HQD.out.cell 1
     have k2 : D1.cell? ⟨w1.heap.size,2,none⟩ = some (.slice q.a q.xs.length q.ca):=HQD.out.cell 2
     have k3 : D1.cell? ⟨w1.heap.size,3,none⟩ = some (.slice q.b q.ys.length q.cb):=HQD.out.cell 3
     have k4 : D1.cell? ⟨w1.heap.size,4,none⟩ = some (.slice q.t q.ts.length q.ct):=HQD.out.cell 4
     go_wp2_with fail
     refine Calls.mono HCK.out ?_
     rintro e w5 ⟨ce,ze,rfl,hck,b5⟩
     clear k0 k1 k2 k3 k4 p0 p1 p2 p3 p4 r0 r1 r2 r3 r4 f0 f1 f2 f3 f4 d0 d1 e0 e1 g0 g1 y0 y1 HCK
     have hs5 : D1.heap.size <= w5.heap.size:=b5.size
     have hd1 : w1.heap.size + 1 < D1.heap.size:=HGD.out.lt
     obtain ⟨W6,hW6⟩ : ∃ W6,w5.alloc (.cells #[.int .i64 0,.int .i64 0] 40) = W6:=⟨_,rfl⟩
     have HG6 : Hid (Box W6 w5.heap.size 40 #[.int .i64 0,.int .i64 0]):=by
      subst hW6
      exact Box.made w5 _ _
     have HB6 : Hid (Below w5.heap.size w5 W6):=by
      subst hW6
      exact alloc_later _ _
     have HB56:=hid (bt b5 HB6.out)
     obtain ⟨E0,E1,d0,d1,⟨e0,e1⟩,⟨g0,g1⟩,HD⟩:=rchain2 HG6.out (by decide) (.int .i64 ce) (.int .i64 ze)
     have HRE : Hid (Box E1 w.heap.size 27 #[.string ⟨#[]⟩,.bool false,.slice none 0 0,.slice none 0 0,.slice none 0 0]):=HD.out.2.1 _ _ _ (by omega) (HRD.out.later HB56.out HRD.out.lt)
     have HFE : Hid (Box E1 (w.heap.size + 1) 40 #[.int .i64 0,.int .i64 0]):=HD.out.2.1 _ _ _ (by omega) (HFD.out.later HB56.out HFD.out.lt)
     have HQE : Hid (Box E1 w1.heap.size 27 #[.string q.s,.bool q.n,.slice q.a q.xs.length q.ca,.slice q.b q.ys.length q.cb,.slice q.t q.ts.length q.ct]):=HD.out.2.1 _ _ _ (by omega) (HQD.out.later HB56.out HQD.out.lt)
     have HGE : Hid (Box E1 w5.heap.size 40 #[.int .i64 ce,.int .i64 ze]):=HD.out.1
     have HBE : Hid (Below w.heap.size w E1):=HD.out.2.2.2.1 _ _ (by omega) (bt HB5.out HB56.out)
     have HOE : Hid (q.Ow E1 Y.heap.size):=HOW.out.later (HD.out.2.2.2.1 _ _ (by omega) HB56.out)
     have hsz : D1.heap.size <= E1.heap.size:=by
      have h1:=HD.out.2.2.2.2
      have h2:=HB56.out.size
      omega
     have hw1 : w1.heap.size <= E1.heap.size:=by omega
     have HPK:=hid hck
     have y0 : E1.cell? ⟨w5.heap.size,0,none⟩ = some (.int .i64 ce):=HGE.out.cell 0
     have y1 : E1.cell? ⟨w5.heap.size,1,none⟩ = some (.int .i64 ze):=HGE.out.cell 1
     clear b5 hck HD HG6 HB6 HB56 HQD HRD HFD HGD
     by_cases hce : ce = 0
     · subst hce
       obtain ⟨_,hz⟩:=HPK.out.good
       subst hz
       have k0 : E1.cell? ⟨w1.heap.size,0,none⟩ = some (.string q.s):=HQE.out.cell 0
       have k1 : E1.cell? ⟨w1.heap.size,1,none⟩ = some (.bool q.n):=HQE.out.cell 1
       have k2 : E1.cell? ⟨w1.heap.size,2,none⟩ = some (.slice q.a q.xs.length q.ca):=HQE.out.cell 2
       have k3 : E1.cell? ⟨w1.heap.size,3,none⟩ = some (.slice q.b q.ys.length q.cb):=HQE.out.cell 3
       have k4 : E1.cell? ⟨w1.heap.size,4,none⟩ = some (.slice q.t q.ts.length q.ct):=HQE.out.cell 4
       obtain ⟨A0,A1,A2,A3,A4,p0,p1,p2,p3,p4,⟨r0,r1,r2,r3,r4⟩,⟨f0,f1,f2,f3,f4⟩,HA⟩:=pchain5 HRE.out (.string q.s) (.bool q.n) (.slice q.a q.xs.length q.ca) (.slice q.b q.ys.length q.cb) (.slice q.t q.ts.length q.ct)
       have HFA : Hid (Box A4 (w.heap.size + 1) 40 #[.int .i64 0,.int .i64 0]):=HA.out.2.1 _ _ _ (by omega) HFE.out
       obtain ⟨⟨m0,m1⟩,⟨n0,n1⟩,⟨l0,l1⟩⟩:=fzero2 HFA.out
       have HRA:=hid HA.out.1
       have HMA : Hid (Made q u w A4):=HM.out.to (HOE.out.put (by decide) (by decide) HA.out.2.2.1) (by have:=HA.out.2.2.2.2; omega) (by omega) (HA.out.2.2.2.1 _ _ (by omega) HBE.out)
       clear HA HOE HQE HGE
       go_wp2_with fail
       exact bodyPost_ret (pres2_run (by rfl) HRA.out HFA.out _ rfl rfl) rfl ⟨q,u,0,0,rfl,.inr ⟨HSZ.out,u,0,z0,HLN.out,.inr ⟨rfl,q,0,0,HM.out.v,HPK.out,.inr ⟨rfl,rfl,rfl,rfl⟩⟩⟩,HMA.out⟩
     · have hw : IntKind.i64.wrap (ze + 1) = ze + 1:=by
        have h1:=HPK.out.at_
        have h2:=HQK.out.len
        have h3:=h2.2.1
        unfold maxLen at h3
        rw [IntKind.wrap_i64]; omega
       have h0' : (ce == 0) = false:=by simp [hce]
       have h0'' : (ce != 0) = true:=by simp [hce]
       have HCN:=hid hce
       obtain ⟨⟨s0',s1',s2',s3',s4'⟩,⟨x0,x1,x2,x3,x4⟩,⟨u0,u1,u2,u3,u4⟩⟩:=pzero5 HRE.out
       obtain ⟨A0,A1,q0,q1,⟨r0,r1⟩,⟨v0,v1⟩,HA⟩:=rchain2 HFE.out (by decide) (.int .i64 ce) (.int .i64 (ze + 1))
       have HRA : Hid (Box A1 w.heap.size 27 #[.string ⟨#[]⟩,.bool false,.slice none 0 0,.slice none 0 0,.slice none 0 0]):=HA.out.2.1 _ _ _ (by omega) HRE.out
       have HBA : Hid (Below w.heap.size w A1):=HA.out.2.2.2.1 _ _ (by omega) HBE.out
       have HFA:=hid HA.out.1
       have HGB : Hid (Box A1 w5.heap.size 40 #[.int .i64 ce,.int .i64 ze]):=HA.out.2.1 _ _ _ (by omega) HGE.out
       have b0 : A1.cell? ⟨w5.heap.size,0,none⟩ = some (.int .i64 ce):=HGB.out.cell 0
       have b1 : A1.cell? ⟨w5.heap.size,1,none⟩ = some (.int .i64 ze):=HGB.out.cell 1
       clear HA hce HRE HFE
       go_wp2_with fail
       go_region_held3 (fun V : World => V.cell? ⟨w5.heap.size,0,none⟩ = some (.int .i64 ce) /\ V.cell? ⟨w5.heap.size,1,none⟩ = some (.int .i64 ze)) (first | exact ⟨y0,y1⟩ | exact ⟨b0,b1⟩ | go_keep) (fail)
       all_goals
        go_wp2_with fail
        exact bodyPost_ret (pres2_run (by rfl) (HRA.out.drewN 1) (HFA.out.drewN 1) _ rfl rfl) rfl ⟨PL.zero,PV.zero,ce,ze + 1,rfl,.inr ⟨HSZ.out,u,0,z0,HLN.out,.inr ⟨rfl,q,ce,ze,HM.out.v,HPK.out,.inl ⟨HCN.out,rfl,rfl,rfl⟩⟩⟩,Made.none HBA.out.drew⟩
   · have h0' : (c0 == 0) = false:=by simp [hc0]
     have h0'' : (c0 != 0) = true:=by simp [hc0]
     have HCN:=hid hc0
     obtain ⟨⟨s0',s1',s2',s3',s4'⟩,⟨x0,x1,x2,x3,x4⟩,⟨u0,u1,u2,u3,u4⟩⟩:=pzero5 HRD.out
     obtain ⟨B0,B1,q0,q1,⟨m0,m1⟩,⟨v0,v1⟩,HA⟩:=rchain2 HFD.out (by decide) (.int .i64 c0) (.int .i64 z0)
     have HRA : Hid (Box B1 w.heap.size 27 #[.string ⟨#[]⟩,.bool false,.slice none 0 0,.slice none 0 0,.slice none 0 0]):=HA.out.2.1 _ _ _ (by omega) HRD.out
     have HBA : Hid (Below w.heap.size w B1):=HA.out.2.2.2.1 _ _ (by omega) HB5.out
     have HFA:=hid HA.out.1
     have HGB : Hid (Box B1 (w1.heap.size + 1) 40 #[.int .i64 c0,.int .i64 z0]):=HA.out.2.1 _ _ _ (by omega) HGD.out
     have b0 : B1.cell? ⟨w1.heap.size + 1,0,none⟩ = some (.int .i64 c0):=HGB.out.cell 0
     have b1 : B1.cell? ⟨w1.heap.size + 1,1,none⟩ = some (.int .i64 z0):=HGB.out.cell 1
     clear HA hc0 HRD HFD
     go_wp2_with fail
     go_region_held3 (fun V : World => V.cell? ⟨w1.heap.size + 1,0,none⟩ = some (.int .i64 c0) /\ V.cell? ⟨w1.heap.size + 1,1,none⟩ = some (.int .i64 z0)) (first | exact ⟨y0,y1⟩ | exact ⟨b0,b1⟩ | go_keep) (fail)
     all_goals
      go_wp2_with fail
      exact bodyPost_ret (pres2_run (by rfl) (HRA.out.drewN 1) (HFA.out.drewN 1) _ rfl rfl) rfl ⟨PL.zero,PV.zero,c0,z0,rfl,.inr ⟨HSZ.out,u,c0,z0,HLN.out,.inl ⟨HCN.out,rfl,rfl,rfl⟩⟩,Made.none HBA.out.drew⟩
def hullV : PV:=⟨⟨#[72,117,108,108]⟩,false,[3],[2],[]⟩
def exV : TV:=⟨⟨#[77,50]⟩,2,1,false,[1],[2],false,[],[1]⟩
theorem exV_ok : exV.ok:=⟨by show (2 : Nat) <= maxLen; unfold maxLen; decide,by unfold in32 exV; decide,zw 1 (by decide) (by decide),zw 2 (by decide) (by decide),Wd.nil,zw 1 (by decide) (by decide)⟩
theorem exV_chk : exV.chk = 0:=by
 have h1 : rchk false [1] [2] = 0:=rchk_good (by simp) (by simp) rfl rfl (by simp) (.inl rfl) (by decide)
 have h2 : rchk false [] [1] = 0:=rchk_good (by simp) (by simp) rfl rfl (by simp) (.inl rfl) (by decide)
 have h3 : ochk 2 1 = 0:=by
  rcases ochk_or 2 1 with h | h
  · exact h.1
  · exact absurd (by unfold rOK; decide) h.2
 show tchk [77,50] 2 1 (gchk false [1] [2] false [] [1]) = 0
 rw [tchk_rest _ _ _ zname,h3,fstE_zero]
 unfold gchk
 rw [h1,fstE_zero,h2]
theorem hullV_good : hullV.Good:=⟨by decide +kernel,zk32,by decide,fun j hj => absurd hj (by show ¬ j < 0; omega),fun k j hk hj => absurd hj (by show ¬ j < 0; omega),fun k j hk hj => absurd hj (by show ¬ j < 0; omega)⟩
set_option maxRecDepth 100000 in
theorem hull_any (w : World) : Calls Tryz.prog 8 #[] w fun e w' => ∃ p : PL,e = .returned (.agg #[.string p.s,.bool p.n,.slice p.a p.xs.length p.ca,.slice p.b p.ys.length p.cb,.slice p.t p.ts.length p.ct]) /\ p.v = hullV /\ p.ok w' /\ Below w.heap.size w w':=by
 obtain ⟨X,hX⟩ : ∃ X,w.alloc (.cells #[.string ⟨#[]⟩,.bool false,.slice none 0 0,.slice none 0 0,.slice none 0 0] 27) = X:=⟨_,rfl⟩
 have HX : Hid (Box X w.heap.size 27 #[.string ⟨#[]⟩,.bool false,.slice none 0 0,.slice none 0 0,.slice none 0 0]):=by
  subst hX
  exact Box.made w _ _
 have HB : Hid (Below w.heap.size w X):=by
  subst hX
  exact alloc_later _ _
 obtain ⟨Y1,hY1⟩ : ∃ Y1,X.alloc (.cells #[.int .u32 3] 69) = Y1:=⟨_,rfl⟩
 obtain ⟨Y2,hY2⟩ : ∃ Y2,Y1.alloc (.cells #[.int .u32 2] 69) = Y2:=⟨_,rfl⟩
 have HO1 : Hid (Y1.ownsRow X.heap.size 69 1 (.slice (some ⟨X.heap.size,0,none⟩) 1 1) 1 [.int .u32 3] /\ Below X.heap.size X Y1):=by
  subst hY1
  exact ⟨World.ownsRow_lit X #[.int .u32 3] 1 (Nat.le_refl _) (by decide) rfl,alloc_later _ _⟩
 have HO2 : Hid (Y2.ownsRow X.heap.size 69 1 (.slice (some ⟨Y1.heap.size,0,none⟩) 1 1) 1 [.int .u32 2] /\ Below Y1.heap.size Y1 Y2):=by
  have hs:=HO1.out.2.size
  subst hY2
  exact ⟨World.ownsRow_lit Y1 #[.int .u32 2] 1 hs (by decide) rfl,alloc_later _ _⟩
 have HR:=hid (HX.out.later (bt HO1.out.2 HO2.out.2) HX.out.lt)
 obtain ⟨A0,A1,A2,A3,A4,q0,q1,q2,q3,q4,⟨r0,r1,r2,r3,r4⟩,⟨f0,f1,f2,f3,f4⟩,HA⟩:=pchain5 HR.out (.string ⟨#[72,117,108,108]⟩) (.bool false) (.slice (some ⟨X.heap.size,0,none⟩) 1 1) (.slice (some ⟨Y1.heap.size,0,none⟩) 1 1) (.slice none 0 0)
 have HM : Hid (A4.ownsRow X.heap.size 69 1 (.slice (some ⟨X.heap.size,0,none⟩) 1 1) 1 [.int .u32 3] /\ A4.ownsRow X.heap.size 69 1 (.slice (some ⟨Y1.heap.size,0,none⟩) 1 1) 1 [.int .u32 2] /\ Below w.heap.size w A4):=⟨HA.out.2.2.1 _ _ _ _ _ _ (by decide) (qown_later HO1.out.1 HO2.out.2),HA.out.2.2.1 _ _ _ _ _ _ (by decide) HO2.out.1,HA.out.2.2.2.1 _ _ (Nat.le_refl _) (bt HB.out (bt HO1.out.2 HO2.out.2))⟩
 have HE:=hid HA.out.1
 clear HA HR HX
 go_enter Tryz.func8,Tryz.ntmps8
 go_wp2_with fail
 refine bodyPost_ret (results_cell_row (by rfl) _ _ w.heap.size 27 _ (0,0) _ (by rfl) HE.out Tryz.underlying27 rfl (by kernel_rfl)) rfl ⟨⟨⟨#[72,117,108,108]⟩,false,some ⟨X.heap.size,0,none⟩,1,[3],some ⟨Y1.heap.size,0,none⟩,1,[2],none,0,[]⟩,rfl,rfl,⟨by show (4 : Nat) <= maxLen; unfold maxLen; decide,Sl.own HM.out.1 (zw 3 (by decide) (by decide)),Sl.own HM.out.2.1 (zw 2 (by decide) (by decide)),⟨Nat.le_refl _,Nat.zero_le _,fun _ => ⟨rfl,rfl⟩⟩,⟨fun t ht => absurd ht (by simp),.inl rfl⟩⟩,HM.out.2.2⟩
set_option maxRecDepth 100000 in
theorem pexample_any (w : World) : Calls Tryz.prog 9 #[] w fun e w' => ∃ t : TL,e = .returned (.agg #[.string t.s,.int .i32 t.f,.int .i32 t.r,.bool t.n,.slice t.a t.xs.length t.ca,.slice t.b t.ys.length t.cb,.bool t.m,.slice t.c t.us.length t.cc,.slice t.d t.vs.length t.cd]) /\ t.v = exV /\ t.ok w' /\ Below w.heap.size w w':=by
 obtain ⟨X,hX⟩ : ∃ X,w.alloc (.cells #[.string ⟨#[]⟩,.int .i32 0,.int .i32 0,.bool false,.slice none 0 0,.slice none 0 0,.bool false,.slice none 0 0,.slice none 0 0] 37) = X:=⟨_,rfl⟩
 have HX : Hid (Box X w.heap.size 37 #[.string ⟨#[]⟩,.int .i32 0,.int .i32 0,.bool false,.slice none 0 0,.slice none 0 0,.bool false,.slice none 0 0,.slice none 0 0]):=by
  subst hX
  exact Box.made w _ _
 have HB : Hid (Below w.heap.size w X):=by
  subst hX
  exact alloc_later _ _
 obtain ⟨Y1,hY1⟩ : ∃ Y1,X.alloc (.cells #[.int .u32 1] 69) = Y1:=⟨_,rfl⟩
 obtain ⟨Y2,hY2⟩ : ∃ Y2,Y1.alloc (.cells #[.int .u32 2] 69) = Y2:=⟨_,rfl⟩
 obtain ⟨Y3,hY3⟩ : ∃ Y3,Y2.alloc (.cells #[.bool false,.slice (some ⟨X.heap.size,0,none⟩) 1 1,.slice (some ⟨Y1.heap.size,0,none⟩) 1 1] 24) = Y3:=⟨_,rfl⟩
 obtain ⟨Y4,hY4⟩ : ∃ Y4,Y3.alloc (.cells #[.int .u32 1] 69) = Y4:=⟨_,rfl⟩
 have HO1 : Hid (Y1.ownsRow X.heap.size 69 1 (.slice (some ⟨X.heap.size,0,none⟩) 1 1) 1 [.int .u32 1] /\ Below X.heap.size X Y1):=by
  subst hY1
  exact ⟨World.ownsRow_lit X #[.int .u32 1] 1 (Nat.le_refl _) (by decide) rfl,alloc_later _ _⟩
 have HO2 : Hid (Y2.ownsRow X.heap.size 69 1 (.slice (some ⟨Y1.heap.size,0,none⟩) 1 1) 1 [.int .u32 2] /\ Below Y1.heap.size Y1 Y2):=by
  have hs:=HO1.out.2.size
  subst hY2
  exact ⟨World.ownsRow_lit Y1 #[.int .u32 2] 1 hs (by decide) rfl,alloc_later _ _⟩
 have HO3 : Hid (Box Y3 Y2.heap.size 24 #[.bool false,.slice (some ⟨X.heap.size,0,none⟩) 1 1,.slice (some ⟨Y1.heap.size,0,none⟩) 1 1] /\ Below Y2.heap.size Y2 Y3):=by
  subst hY3
  exact ⟨Box.made Y2 _ _,alloc_later _ _⟩
 have hs3 : X.heap.size <= Y3.heap.size:=(bt HO1.out.2 (bt HO2.out.2 HO3.out.2)).size
 have HO4 : Hid (Y4.ownsRow X.heap.size 69 1 (.slice (some ⟨Y3.heap.size,0,none⟩) 1 1) 1 [.int .u32 1] /\ Below Y3.heap.size Y3 Y4):=by
  subst hY4
  exact ⟨World.ownsRow_lit Y3 #[.int .u32 1] 1 hs3 (by decide) rfl,alloc_later _ _⟩
 have HXY:=hid (bt HO1.out.2 (bt HO2.out.2 (bt HO3.out.2 HO4.out.2)))
 have HR:=hid (HX.out.later HXY.out HX.out.lt)
 have hw0 : w.heap.size < X.heap.size:=HX.out.lt
 have k0 : Y3.cell? ⟨Y2.heap.size,0,none⟩ = some (.bool false):=HO3.out.1.cell 0
 have k1 : Y3.cell? ⟨Y2.heap.size,1,none⟩ = some (.slice (some ⟨X.heap.size,0,none⟩) 1 1):=HO3.out.1.cell 1
 have k2 : Y3.cell? ⟨Y2.heap.size,2,none⟩ = some (.slice (some ⟨Y1.heap.size,0,none⟩) 1 1):=HO3.out.1.cell 2
 obtain ⟨A0,A1,A2,A3,A4,A5,A6,A7,A8,q0,q1,q2,q3,q4,q5,q6,q7,q8,⟨p0,p1,p2,p3,p4,p5,p6,p7,p8⟩,⟨f0,f1,f2,f3,f4,f5,f6,f7,f8⟩⟩:=tchain9 HR.out (.string ⟨#[77,50]⟩) (.int .i32 2) (.int .i32 1) (.bool false) (.slice (some ⟨X.heap.size,0,none⟩) 1 1) (.slice (some ⟨Y1.heap.size,0,none⟩) 1 1) (.bool false) (.slice none 0 0) (.slice (some ⟨Y3.heap.size,0,none⟩) 1 1)
 have HOW : Hid (G6.Ow (TL.g ⟨⟨#[77,50]⟩,2,1,false,some ⟨X.heap.size,0,none⟩,1,[1],some ⟨Y1.heap.size,0,none⟩,1,[2],false,none,0,[],some ⟨Y3.heap.size,0,none⟩,1,[1]⟩) Y4 X.heap.size):=⟨qown_later HO1.out.1 (bt HO2.out.2 (bt HO3.out.2 HO4.out.2)),qown_later HO2.out.1 (bt HO3.out.2 HO4.out.2),World.ownsRow_nil _ _ _ _,HO4.out.1⟩
 have HA:=hid (tput9 (A8:=A8) (r:=⟨⟨#[77,50]⟩,2,1,false,some ⟨X.heap.size,0,none⟩,1,[1],some ⟨Y1.heap.size,0,none⟩,1,[2],false,none,0,[],some ⟨Y3.heap.size,0,none⟩,1,[1]⟩) HR.out (Nat.le_refl _) (bt HB.out HXY.out) HOW.out hw0 (by rw [<- q8,<- q7,<- q6,<- q5,<- q4,<- q3,<- q2,<- q1,<- q0]; rfl))
 clear HR HX HO1 HO2 HO3 HO4 HOW HXY
 go_enter Tryz.func9,Tryz.ntmps9
 go_wp2_with fail
 refine bodyPost_ret (results_cell_row (by rfl) _ _ w.heap.size 37 _ (0,0) _ (by rfl) HA.out.1 Tryz.underlying37 rfl (by kernel_rfl)) rfl ⟨_,rfl,rfl,TL.ok_of exV_ok HA.out.2.2.2,HA.out.2.1⟩
theorem hull_text : hullV.text = [112,111,114,116,32,72,117,108,108,32,51,47,50,10]:=by decide +kernel
theorem exV_short : ¬ mlong exV.q1 exV.q2 (oP exV.f exV.r 1).1 (oP exV.f exV.r 1).2:=by
 have h1 : rchk false [1] [2] = 0:=rchk_good (by simp) (by simp) rfl rfl (by simp) (.inl rfl) (by decide)
 have h2 : rchk false [] [1] = 0:=rchk_good (by simp) (by simp) rfl rfl (by simp) (.inl rfl) (by decide)
 have hp:=oP_hgt (f:=2) (r:=1) (by unfold rOK; decide) 1 1 (by decide)
 exact mshort (K:=32 * 1) (J:=21 * 1) (hgt_words (zw 1 (by decide) (by decide)) (zw 2 (by decide) (by decide)) h1 (by decide) (by decide)) (hgt_words Wd.nil (zw 1 (by decide) (by decide)) h2 (by decide) (by decide)) hp.1 hp.2 (by decide)
theorem exV_moved : exV.q1 * (oP exV.f exV.r 1).1 - exV.q2 * (oP exV.f exV.r 1).2 = rq false [3] [10]:=by decide +kernel
theorem z310 : rchk false [3] [10] = 0:=rchk_good (by simp) (by simp) rfl rfl (by simp) (.inl rfl) (by decide)
set_option maxRecDepth 100000 in
theorem plives_any (w : World) (htab : Tab w) : Calls Tryz.prog 18 #[] w fun e w' => e = .returned (.bool true) /\ Below w.heap.size w w':=by
 have HH : Hid (∀ V,Calls Tryz.prog 8 #[] V fun e w' => ∃ p : PL,e = .returned (.agg #[.string p.s,.bool p.n,.slice p.a p.xs.length p.ca,.slice p.b p.ys.length p.cb,.slice p.t p.ts.length p.ct]) /\ p.v = hullV /\ p.ok w' /\ Below V.heap.size V w'):=fun V => hull_any V
 have HX : Hid (∀ V,Calls Tryz.prog 9 #[] V fun e w' => ∃ t : TL,e = .returned (.agg #[.string t.s,.int .i32 t.f,.int .i32 t.r,.bool t.n,.slice t.a t.xs.length t.ca,.slice t.b t.ys.length t.cb,.bool t.m,.slice t.c t.us.length t.cc,.slice t.d t.vs.length t.cd]) /\ t.v = exV /\ t.ok w' /\ Below V.heap.size V w'):=fun V => pexample_any V
 have HW : Hid (∀ (p : PL) (t : TL) (V : World),p.v = hullV -> t.v = exV -> p.ok V -> t.ok V -> Calls Tryz.prog 7 #[.agg #[.string p.s,.bool p.n,.slice p.a p.xs.length p.ca,.slice p.b p.ys.length p.cb,.slice p.t p.ts.length p.ct],.agg #[.string t.s,.int .i32 t.f,.int .i32 t.r,.bool t.n,.slice t.a t.xs.length t.ca,.slice t.b t.ys.length t.cb,.bool t.m,.slice t.c t.us.length t.cc,.slice t.d t.vs.length t.cd]] V fun e w' => ∃ q : PL,e = .returned (.tuple #[.agg #[.string q.s,.bool q.n,.slice q.a q.xs.length q.ca,.slice q.b q.ys.length q.cb,.slice q.t q.ts.length q.ct],.int .i64 0]) /\ q.v = hullV.more exV /\ (hullV.more exV).Good /\ q.ok w' /\ Below V.heap.size V w'):=fun p t V hp ht op ot => by
  refine Calls.mono (pWith_told p t V op ot (by rw [hp]; exact hullV_good)) ?_
  rintro e w' ⟨q,c,rfl,h⟩
  rw [hp,ht] at h
  rcases h with ⟨_,_,h | h | ⟨j,hj,_⟩⟩ | ⟨rfl,hg,_,hm⟩
  · exact absurd exV_chk h
  · exact absurd h (by decide)
  · exact absurd hj (by show ¬ j < 0; omega)
  · have hv : (hullV.more exV).ok:=by
     have h1:=op.v
     rw [hp] at h1
     refine ⟨h1.1,h1.2.1,h1.2.2.1,fun x hx => ?_⟩
     have hx' : x ∈ [exV]:=hx
     rw [List.mem_singleton.1 hx']
     exact exV_ok
    exact ⟨q,rfl,hm.v,hg,PL.ok_of (by rw [hm.v]; exact hv) hm.ow,hm.bel⟩
 have HM : Hid (∀ (p : PL) (V : World),p.v = hullV.more exV -> (hullV.more exV).Good -> p.ok V -> Calls Tryz.prog 15 #[.agg #[.string p.s,.bool p.n,.slice p.a p.xs.length p.ca,.slice p.b p.ys.length p.cb,.slice p.t p.ts.length p.ct],.int .i64 1] V fun e w' => ∃ (q : PL) (u : TL),e = .returned (.tuple #[.agg #[.string q.s,.bool q.n,.slice q.a q.xs.length q.ca,.slice q.b q.ys.length q.cb,.slice q.t 1 q.ct],.int .i64 0]) /\ q.ts = [u] /\ (u.n = false /\ u.xs = [3] /\ u.ys = [10]) /\ RdT w' q.t [u] /\ Below V.heap.size V w'):=fun p V hp hg op => by
  have h0 : vT (hullV.more exV).ts 0 = exV:=rfl
  refine Calls.mono (pMoved_good p 1 V op (by rw [hp]; exact hg) (by decide) (by decide) (fun j hj => ?_)) ?_
  · rw [hp] at hj ⊢
    have hj' : j < 1:=hj
    obtain rfl : j = 0:=by omega
    exact exV_short
  · rintro e w' ⟨q,vs,rfl,⟨hl,hv⟩,hm⟩
    rw [hp] at hl hv
    have hl1 : vs.length = 1:=hl
    have hmv:=hv 0 (by rw [<- hl]; omega)
    rw [h0] at hmv
    have hqts : q.ts.map TL.v = vs:=congrArg PV.ts hm.v
    have hql : q.ts.length = 1:=by rw [<- hl1,<- hqts,List.length_map]
    obtain ⟨u,hu⟩:=List.length_eq_one_iff.1 hql
    have huv : u.v = vT vs 0:=by rw [<- hqts,hu]; rfl
    rw [<- huv] at hmv
    have hi:=hmv.2.2.2
    rw [exV_moved] at hi
    have q1:=rq_inj hi.2.2.1 hi.2.2.2.1 (zw 3 (by decide) (by decide)) (zw 10 (by decide) (by decide)) hi.1.1 z310 hi.1.2
    have hrow:=hm.ow.row
    have hel : ∀ t ∈ q.ts,t.ok w':=fun t ht => by
     rw [hu] at ht
     rw [List.mem_singleton.1 ht]
     refine TL.ok_of ?_ (hm.ow.els u (by rw [hu]; exact List.mem_singleton.2 rfl))
     have h2 : (2 : Nat) <= maxLen:=by unfold maxLen; decide
     exact ⟨by rw [hmv.1]; exact h2,by rw [hmv.2.1,hmv.2.2.1]; exact exV_ok.2.1,hi.2.2⟩
    have hrd:=rdT_own hrow hel
    refine ⟨q,u,?_,hu,q1,?_,hm.bel⟩
    · unfold PL.cells
      rw [hql]
    · rw [hu] at hrd
      exact hrd
 have HP : Hid (∀ (p : PL) (V : World),p.v = hullV -> p.ok V -> Below w.heap.size w V -> Calls Tryz.prog 37 #[.agg #[.string p.s,.bool p.n,.slice p.a p.xs.length p.ca,.slice p.b p.ys.length p.cb,.slice p.t p.ts.length p.ct]] V fun e w' => e = .returned (.tuple #[.string ⟨#[112,111,114,116,32,72,117,108,108,32,51,47,50,10]⟩,.int .i64 0]) /\ Below V.heap.size V w'):=fun p V hp op hV => by
  refine Calls.mono (pPrint_any p V op (htab.later hV)) ?_
  rintro e w' ⟨S,c,rfl,h,hb⟩
  have hg : p.v.Good:=by rw [hp]; exact hullV_good
  rcases h with ⟨z,hz,hc,_⟩ | ⟨_,⟨hl,_⟩ | ⟨_,rfl,hS⟩⟩
  · exact absurd (PCk.one0 hz hg) hc
  · rw [hp,hull_text] at hl
    exact absurd hl (by decide)
  · rw [hp,hull_text] at hS
    have e : S = ⟨#[112,111,114,116,32,72,117,108,108,32,51,47,50,10]⟩:=ByteArray.ext (Array.toList_inj.1 hS)
    rw [e]
    exact ⟨rfl,hb⟩
 clear htab
 go_enter Tryz.func18,Tryz.ntmps18
 go_wp2_with fail
 refine Calls.mono (HH.out w) ?_
 rintro e w1 ⟨p,rfl,hp,op,b1⟩
 go_wp2_with fail
 refine Calls.mono (HX.out w1) ?_
 rintro e w2 ⟨t,rfl,ht,ot,b2⟩
 go_wp2_with fail
 refine Calls.mono (HW.out p t w2 hp ht (op.later b2) ot) ?_
 rintro e w3 ⟨q,rfl,hq,hgq,oq,b3⟩
 have HB3:=hid (bt b1 (bt b2 b3))
 obtain ⟨Q,hQ⟩ : ∃ Q,w3.alloc (.cells #[.string q.s,.bool q.n,.slice q.a q.xs.length q.ca,.slice q.b q.ys.length q.cb,.slice q.t q.ts.length q.ct] 27) = Q:=⟨_,rfl⟩
 have HQ : Hid (Box Q w3.heap.size 27 #[.string q.s,.bool q.n,.slice q.a q.xs.length q.ca,.slice q.b q.ys.length q.cb,.slice q.t q.ts.length q.ct]):=by
  subst hQ
  exact Box.made w3 _ _
 have HBQ : Hid (Below w3.heap.size w3 Q):=by
  subst hQ
  exact alloc_later _ _
 have k0 : Q.cell? ⟨w3.heap.size,0,none⟩ = some (.string q.s):=HQ.out.cell 0
 have k1 : Q.cell? ⟨w3.heap.size,1,none⟩ = some (.bool q.n):=HQ.out.cell 1
 have k2 : Q.cell? ⟨w3.heap.size,2,none⟩ = some (.slice q.a q.xs.length q.ca):=HQ.out.cell 2
 have k3 : Q.cell? ⟨w3.heap.size,3,none⟩ = some (.slice q.b q.ys.length q.cb):=HQ.out.cell 3
 have k4 : Q.cell? ⟨w3.heap.size,4,none⟩ = some (.slice q.t q.ts.length q.ct):=HQ.out.cell 4
 have hmv:=HM.out q Q hq hgq (oq.later HBQ.out)
 clear hp ht op ot b1 b2 b3 hq hgq oq HM HW HX
 go_wp2_with fail
 refine Calls.mono hmv ?_
 rintro e w4 ⟨m,u,rfl,hu,⟨u1,u2,u3⟩,hrd,b4⟩
 have HB4:=hid (bt HB3.out (bt HBQ.out b4))
 clear k0 k1 k2 k3 k4 hmv
 obtain ⟨M,hM⟩ : ∃ M,w4.alloc (.cells #[.string m.s,.bool m.n,.slice m.a m.xs.length m.ca,.slice m.b m.ys.length m.cb,.slice m.t 1 m.ct] 27) = M:=⟨_,rfl⟩
 have HMB : Hid (Box M w4.heap.size 27 #[.string m.s,.bool m.n,.slice m.a m.xs.length m.ca,.slice m.b m.ys.length m.cb,.slice m.t 1 m.ct]):=by
  subst hM
  exact Box.made w4 _ _
 have HBM : Hid (Below w4.heap.size w4 M):=by
  subst hM
  exact alloc_later _ _
 have HRD:=hid (hrd.later HBM.out)
 have HBW:=hid (bt HB4.out HBM.out)
 clear hrd b4 hu
 go_wp2_with fail
 refine Calls.mono (HH.out M) ?_
 rintro e w5 ⟨p2,rfl,hp2,op2,b5⟩
 go_wp2_with fail
 refine Calls.mono (HP.out p2 w5 hp2 op2 (bt HBW.out b5)) ?_
 rintro e w6 ⟨rfl,b6⟩
 have HB6:=hid (bt HBW.out (bt b5 b6))
 have HR6:=hid (HRD.out.later (bt b5 b6))
 have HM6:=hid (HMB.out.later (bt b5 b6) HMB.out.lt)
 have j4 : w6.cell? ⟨w4.heap.size,4,none⟩ = some (.slice m.t 1 m.ct):=HM6.out.cell 4
 clear hp2 op2 b5 b6 HH HP
 rcases HR6.out.2 with e | ⟨bb,o,hmt,hbb,hc⟩
 · cases e
 have hci:=hc 0 u rfl
 have c3 : w6.cell? ⟨bb,o + 3,none⟩ = some (.bool u.n):=by have:=hci 3 (by decide); rw [show o + 0 * 9 + 3 = o + 3 by omega] at this; exact this
 have c4 : w6.cell? ⟨bb,o + 4,none⟩ = some (.slice u.a u.xs.length u.ca):=by have:=hci 4 (by decide); rw [show o + 0 * 9 + 4 = o + 4 by omega] at this; exact this
 have c5 : w6.cell? ⟨bb,o + 5,none⟩ = some (.slice u.b u.ys.length u.cb):=by have:=hci 5 (by decide); rw [show o + 0 * 9 + 5 = o + 5 by omega] at this; exact this
 rw [u1] at c3
 rw [u2] at c4
 rw [u3] at c5
 rw [hmt] at j4
 have ouk:=HR6.out.1 u (List.mem_singleton.2 rfl)
 have osx:=ouk.sx
 have osy:=ouk.sy
 rw [u2] at osx
 rw [u3] at osy
 obtain ⟨V1,hV1⟩ : ∃ V1,w6.alloc (.cells #[.int .u32 3] 69) = V1:=⟨_,rfl⟩
 obtain ⟨V2,hV2⟩ : ∃ V2,V1.alloc (.cells #[.int .u32 10] 69) = V2:=⟨_,rfl⟩
 have HV1 : Hid (Sl V1 (.slice (some ⟨w6.heap.size,0,none⟩) 1 1) [3] /\ Below w6.heap.size w6 V1):=by
  subst hV1
  exact ⟨Sl.lit w6 [3] (zw 3 (by decide) (by decide)) (by decide),alloc_later _ _⟩
 have HV2 : Hid (Sl V2 (.slice (some ⟨V1.heap.size,0,none⟩) 1 1) [10] /\ Below V1.heap.size V1 V2):=by
  subst hV2
  exact ⟨Sl.lit V1 [10] (zw 10 (by decide) (by decide)) (by decide),alloc_later _ _⟩
 have HSM:=hid (gsameRatio_eq false (.slice u.a 1 u.ca) (.slice u.b 1 u.cb) (.slice (some ⟨w6.heap.size,0,none⟩) 1 1) (.slice (some ⟨V1.heap.size,0,none⟩) 1 1) [3] [10] V2 (osx.later (bt HV1.out.2 HV2.out.2)) (osy.later (bt HV1.out.2 HV2.out.2)) (HV1.out.1.later HV2.out.2) HV2.out.1 (by decide) (by decide))
 have HBV:=hid (bt HB6.out (bt HV1.out.2 HV2.out.2))
 clear hci hc ouk osx osy HV1 HV2
 go_wp2_with fail
 refine Calls.mono HSM.out ?_
 rintro e w7 ⟨rfl,b7⟩
 go_wp2_with fail
 go_ret
 exact ⟨rfl,bt HBV.out b7⟩
def TL.named (a b : TL) : TL:={ a with s:=b.s }
theorem TL.named_ok {a b : TL} {w : World} (ha : a.ok w) (hb : b.ok w) : (a.named b).ok w:=⟨hb.size,ha.rot,ha.sx,ha.sy,ha.su,ha.sv⟩
set_option maxRecDepth 100000 in
theorem pSbn_any (a b : TL) (w : World) (ha : a.ok w) (hb : b.ok w) (sa : a.short) (sb : b.short) :
 Calls Tryz.prog 52 #[.agg a.cells,.agg b.cells] w fun e w' => e = .returned (.bool (smB (a.named b) b)) /\ Below w.heap.size w w':=by
 have HX:=hid (boxes2r w 37 a.cells b.cells)
 obtain ⟨X,hX⟩ : ∃ X,(w.alloc (.cells a.cells 37)).alloc (.cells b.cells 37) = X:=⟨_,rfl⟩
 rw [hX] at HX
 obtain ⟨Y,hY⟩ : ∃ Y,X.setCell ⟨w.heap.size,0,none⟩ (.string b.s) = Y:=⟨_,rfl⟩
 have x0 : X.cell? ⟨w.heap.size,0,none⟩ = some (.string a.s):=HX.out.1.cell 0
 have f0:=HX.out.1.free 0
 have y0 : X.cell? ⟨w.heap.size + 1,0,none⟩ = some (.string b.s):=HX.out.2.1.cell 0
 have HA : Hid (Box Y w.heap.size 37 (a.named b).cells):=by
  subst hY
  exact HX.out.1.set 0 (.string b.s)
 have HB : Hid (Box Y (w.heap.size + 1) 37 b.cells):=by
  subst hY
  exact HX.out.2.1.other ⟨w.heap.size,0,none⟩ _ (by simp)
 have HW : Hid (Below w.heap.size w Y):=by
  subst hY
  exact HX.out.2.2.setCell (p:=⟨w.heap.size,0,none⟩) (Nat.le_refl _) _
 have HC:=hid (tlsame_any (a.named b) b Y ((TL.named_ok ha hb).later HW.out) (hb.later HW.out) sa sb)
 have k0 : Y.cell? ⟨w.heap.size,0,none⟩ = some (.string b.s):=HA.out.cell 0
 have k1 : Y.cell? ⟨w.heap.size,1,none⟩ = some (.int .i32 a.f):=HA.out.cell 1
 have k2 : Y.cell? ⟨w.heap.size,2,none⟩ = some (.int .i32 a.r):=HA.out.cell 2
 have k3 : Y.cell? ⟨w.heap.size,3,none⟩ = some (.bool a.n):=HA.out.cell 3
 have k4 : Y.cell? ⟨w.heap.size,4,none⟩ = some (.slice a.a a.xs.length a.ca):=HA.out.cell 4
 have k5 : Y.cell? ⟨w.heap.size,5,none⟩ = some (.slice a.b a.ys.length a.cb):=HA.out.cell 5
 have k6 : Y.cell? ⟨w.heap.size,6,none⟩ = some (.bool a.m):=HA.out.cell 6
 have k7 : Y.cell? ⟨w.heap.size,7,none⟩ = some (.slice a.c a.us.length a.cc):=HA.out.cell 7
 have k8 : Y.cell? ⟨w.heap.size,8,none⟩ = some (.slice a.d a.vs.length a.cd):=HA.out.cell 8
 have l0 : Y.cell? ⟨w.heap.size + 1,0,none⟩ = some (.string b.s):=HB.out.cell 0
 have l1 : Y.cell? ⟨w.heap.size + 1,1,none⟩ = some (.int .i32 b.f):=HB.out.cell 1
 have l2 : Y.cell? ⟨w.heap.size + 1,2,none⟩ = some (.int .i32 b.r):=HB.out.cell 2
 have l3 : Y.cell? ⟨w.heap.size + 1,3,none⟩ = some (.bool b.n):=HB.out.cell 3
 have l4 : Y.cell? ⟨w.heap.size + 1,4,none⟩ = some (.slice b.a b.xs.length b.ca):=HB.out.cell 4
 have l5 : Y.cell? ⟨w.heap.size + 1,5,none⟩ = some (.slice b.b b.ys.length b.cb):=HB.out.cell 5
 have l6 : Y.cell? ⟨w.heap.size + 1,6,none⟩ = some (.bool b.m):=HB.out.cell 6
 have l7 : Y.cell? ⟨w.heap.size + 1,7,none⟩ = some (.slice b.c b.us.length b.cc):=HB.out.cell 7
 have l8 : Y.cell? ⟨w.heap.size + 1,8,none⟩ = some (.slice b.d b.vs.length b.cd):=HB.out.cell 8
 unfold TL.cells at hX
 have HC2 : Hid (Calls Tryz.prog 77 #[.agg #[.string b.s,.int .i32 a.f,.int .i32 a.r,.bool a.n,.slice a.a a.xs.length a.ca,.slice a.b a.ys.length a.cb,.bool a.m,.slice a.c a.us.length a.cc,.slice a.d a.vs.length a.cd],.agg #[.string b.s,.int .i32 b.f,.int .i32 b.r,.bool b.n,.slice b.a b.xs.length b.ca,.slice b.b b.ys.length b.cb,.bool b.m,.slice b.c b.us.length b.cc,.slice b.d b.vs.length b.cd]] Y fun e w' => e = .returned (.bool (smB (a.named b) b)) /\ Below Y.heap.size Y w'):=HC.out
 generalize smB (a.named b) b = Q at *
 unfold TL.cells
 clear ha hb sa sb HC
 go_enter Tryz.func52,Tryz.ntmps52
 go_wp2_with fail
 refine Calls.mono HC2.out ?_
 rintro e w1 ⟨rfl,hb1⟩
 have HB1:=hid (bt HW.out hb1)
 clear hb1
 go_wp2_with fail
 go_ret
 exact ⟨rfl,HB1.out⟩
set_option maxRecDepth 100000 in
theorem pReal1_any (t u : TL) (g : Nat) (w : World) (hk : Box w g 37 t.cells) (ht : t.ok w) (hu : u.ok w) (st : t.short) (su : u.short) : Calls Tryz.prog 51 #[.agg u.cells,.pointer (some ⟨g,0,none⟩)] w fun e w' => e = .returned (.bool (smB (t.named u) u)) /\ Below w.heap.size w w':=by
 have HB:=hid ((Below.refl w.heap.size w).alloc (Nat.le_refl _) (.cells u.cells 37))
 have HX : Hid (Box (w.alloc (.cells u.cells 37)) w.heap.size 37 u.cells):=Box.made w _ _
 have HK : Hid (Box (w.alloc (.cells u.cells 37)) g 37 t.cells):=hk.later (alloc_later _ _) hk.lt
 obtain ⟨X,hX⟩ : ∃ X,w.alloc (.cells u.cells 37) = X:=⟨_,rfl⟩
 rw [hX] at HB HX HK
 have HC:=hid (pSbn_any t u X (ht.later HB.out) (hu.later HB.out) st su)
 unfold TL.cells at hX
 have a0 : X.cell? ⟨w.heap.size,0,none⟩ = some (.string u.s):=HX.out.cell 0
 have a1 : X.cell? ⟨w.heap.size,1,none⟩ = some (.int .i32 u.f):=HX.out.cell 1
 have a2 : X.cell? ⟨w.heap.size,2,none⟩ = some (.int .i32 u.r):=HX.out.cell 2
 have a3 : X.cell? ⟨w.heap.size,3,none⟩ = some (.bool u.n):=HX.out.cell 3
 have a4 : X.cell? ⟨w.heap.size,4,none⟩ = some (.slice u.a u.xs.length u.ca):=HX.out.cell 4
 have a5 : X.cell? ⟨w.heap.size,5,none⟩ = some (.slice u.b u.ys.length u.cb):=HX.out.cell 5
 have a6 : X.cell? ⟨w.heap.size,6,none⟩ = some (.bool u.m):=HX.out.cell 6
 have a7 : X.cell? ⟨w.heap.size,7,none⟩ = some (.slice u.c u.us.length u.cc):=HX.out.cell 7
 have a8 : X.cell? ⟨w.heap.size,8,none⟩ = some (.slice u.d u.vs.length u.cd):=HX.out.cell 8
 have b0 : X.cell? ⟨g,0,none⟩ = some (.string t.s):=HK.out.cell 0
 have b1 : X.cell? ⟨g,1,none⟩ = some (.int .i32 t.f):=HK.out.cell 1
 have b2 : X.cell? ⟨g,2,none⟩ = some (.int .i32 t.r):=HK.out.cell 2
 have b3 : X.cell? ⟨g,3,none⟩ = some (.bool t.n):=HK.out.cell 3
 have b4 : X.cell? ⟨g,4,none⟩ = some (.slice t.a t.xs.length t.ca):=HK.out.cell 4
 have b5 : X.cell? ⟨g,5,none⟩ = some (.slice t.b t.ys.length t.cb):=HK.out.cell 5
 have b6 : X.cell? ⟨g,6,none⟩ = some (.bool t.m):=HK.out.cell 6
 have b7 : X.cell? ⟨g,7,none⟩ = some (.slice t.c t.us.length t.cc):=HK.out.cell 7
 have b8 : X.cell? ⟨g,8,none⟩ = some (.slice t.d t.vs.length t.cd):=HK.out.cell 8
 generalize smB (t.named u) u = Q at *
 unfold TL.cells
 clear hk ht hu st su
 go_enter Tryz.func51,Tryz.ntmps51
 go_wp2_with fail
 refine Calls.mono HC.out ?_
 rintro e w1 ⟨rfl,hb1⟩
 have HB1:=hid (bt HB.out hb1)
 clear hb1
 go_wp2_with fail
 go_ret
 exact ⟨rfl,HB1.out⟩
set_option maxRecDepth 100000 in
theorem pindexR_any (g : Nat) (q : Nat -> Bool) (t : Option Addr) (n ct : Nat) (ts : List TL) (w : World) (hn : n <= 1000000) (hl : ts.length = n) (ht : RdT w t ts) (hC : ∀ j V,j < n -> Below w.heap.size w V -> Calls Tryz.prog 51 #[.agg (tT ts j).cells,.pointer (some ⟨g,0,none⟩)] V fun e w' => e = .returned (.bool (q j)) /\ Below V.heap.size V w') :
 Calls Tryz.prog 46 #[.slice t n ct,.func (.func 51) #[] #[.pointer (some ⟨g,0,none⟩)]] w fun e w' => ∃ z : Int,e = .returned (.int .i64 z) /\ FstI q n z /\ Below w.heap.size w w':=by
 have HX:=hid ht
 have HL:=hid hl
 have HC:=hid hC
 clear ht hl hC
 go_enter Tryz.func46,Tryz.ntmps46
 go_wp2_with fail
 go_loopw [8] (fun x wr => ∃ k : Nat,k <= n /\ x = .int .i64 (k : Int) /\ Hid (Below w.heap.size w wr) /\ Hid (∀ j,j < k -> q j = false)) (fun x _ => n - (intOf x).toNat)
 case atStart => exact ⟨0,Nat.zero_le _,rfl,Below.refl _ _,(fun j hj => by omega : ∀ j,j < 0 -> _)⟩
 case round =>
  obtain ⟨k,hk,rfl,HW,HT⟩:=hrel
  by_cases hlt : k < n
  · have hkx : k < ts.length:=by have:=HL.out; omega
    rcases HX.out.2 with h0 | ⟨bb,o,rfl,hg,hx⟩
    · rw [h0] at hkx; exact absurd hkx (by simp)
    have hci:=hx k _ (tT_at hkx)
    have HCk:=hid (HC.out k wr hlt HW.out)
    have e0:=(HW.out.cell (p:=⟨bb,o + k * 9 + 0,none⟩) hg).trans (hci 0 (by decide))
    have e1:=(HW.out.cell (p:=⟨bb,o + k * 9 + 1,none⟩) hg).trans (hci 1 (by decide))
    have e2:=(HW.out.cell (p:=⟨bb,o + k * 9 + 2,none⟩) hg).trans (hci 2 (by decide))
    have e3:=(HW.out.cell (p:=⟨bb,o + k * 9 + 3,none⟩) hg).trans (hci 3 (by decide))
    have e4:=(HW.out.cell (p:=⟨bb,o + k * 9 + 4,none⟩) hg).trans (hci 4 (by decide))
    have e5:=(HW.out.cell (p:=⟨bb,o + k * 9 + 5,none⟩) hg).trans (hci 5 (by decide))
    have e6:=(HW.out.cell (p:=⟨bb,o + k * 9 + 6,none⟩) hg).trans (hci 6 (by decide))
    have e7:=(HW.out.cell (p:=⟨bb,o + k * 9 + 7,none⟩) hg).trans (hci 7 (by decide))
    have e8:=(HW.out.cell (p:=⟨bb,o + k * 9 + 8,none⟩) hg).trans (hci 8 (by decide))
    clear hci hx
    generalize tT ts k = tt at *
    have c0 : wr.cell? ⟨bb,o + k * 9,none⟩ = some (.string tt.s):=e0
    have c1 : wr.cell? ⟨bb,o + k * 9 + 1,none⟩ = some (.int .i32 tt.f):=e1
    have c2 : wr.cell? ⟨bb,o + k * 9 + 2,none⟩ = some (.int .i32 tt.r):=e2
    have c3 : wr.cell? ⟨bb,o + k * 9 + 3,none⟩ = some (.bool tt.n):=e3
    have c4 : wr.cell? ⟨bb,o + k * 9 + 4,none⟩ = some (.slice tt.a tt.xs.length tt.ca):=e4
    have c5 : wr.cell? ⟨bb,o + k * 9 + 5,none⟩ = some (.slice tt.b tt.ys.length tt.cb):=e5
    have c6 : wr.cell? ⟨bb,o + k * 9 + 6,none⟩ = some (.bool tt.m):=e6
    have c7 : wr.cell? ⟨bb,o + k * 9 + 7,none⟩ = some (.slice tt.c tt.us.length tt.cc):=e7
    have c8 : wr.cell? ⟨bb,o + k * 9 + 8,none⟩ = some (.slice tt.d tt.vs.length tt.cd):=e8
    clear e0 e1 e2 e3 e4 e5 e6 e7 e8
    have hk1 : (k : Int) < (n : Int):=by omega
    go_wp2_with fail
    refine Calls.mono HCk.out ?_
    rintro e w2 ⟨rfl,hb⟩
    have HB:=hid (bt HW.out hb)
    clear hb c0 c1 c2 c3 c4 c5 c6 c7 c8 HCk
    cases hq : q k with
    | true =>
     have HR:=hid hq
     go_wp2_with fail
     go_ret
     exact ⟨(k : Int),rfl,.inl ⟨k,hlt,rfl,HR.out,HT.out⟩,HB.out⟩
    | false =>
     have HN : Hid (∀ j,j < k + 1 -> q j = false):=fun j hj => by
      rcases Nat.lt_or_ge j k with g1 | g1
      · exact HT.out j g1
      · obtain rfl : j = k:=by omega
        exact hq
     go_wp2_with fail
     go_roundw
     case rel => exact ⟨k + 1,by omega,by go_num,HB.out,HN⟩
     case measure => simp [intOf]; omega
  · obtain rfl : k = n:=by omega
    have hkk : ¬ (k : Int) < (k : Int):=by omega
    go_wp2_with fail
    go_ret
    exact ⟨-1,rfl,.inr ⟨rfl,HT.out⟩,HW.out⟩
set_option maxRecDepth 100000 in
theorem pcontR_any (g : Nat) (q : Nat -> Bool) (t : Option Addr) (n ct : Nat) (ts : List TL) (w : World) (hn : n <= 1000000) (hl : ts.length = n) (ht : RdT w t ts) (hC : ∀ j V,j < n -> Below w.heap.size w V -> Calls Tryz.prog 51 #[.agg (tT ts j).cells,.pointer (some ⟨g,0,none⟩)] V fun e w' => e = .returned (.bool (q j)) /\ Below V.heap.size V w') :
 Calls Tryz.prog 50 #[.slice t n ct,.func (.func 51) #[] #[.pointer (some ⟨g,0,none⟩)]] w fun e w' => ∃ bo : Bool,e = .returned (.bool bo) /\ (bo = true ↔ ∃ j,j < n /\ q j = true) /\ Below w.heap.size w w':=by
 have HI:=hid (pindexR_any g q t n ct ts w hn hl ht hC)
 clear ht hC
 go_enter Tryz.func50,Tryz.ntmps50
 go_wp2_with fail
 refine Calls.mono HI.out ?_
 rintro e w1 ⟨z,rfl,hz,hb⟩
 have e0 : decide (0 <= z) = true ↔ ∃ j,j < n /\ q j = true:=by
  rw [decide_eq_true_iff]
  rcases hz with ⟨i,hi,rfl,hq,_⟩ | ⟨rfl,hb⟩
  · exact ⟨fun _ => ⟨i,hi,hq⟩,fun _ => by omega⟩
  · exact ⟨fun h => by omega,fun ⟨j,hj,h⟩ => by rw [hb j hj] at h; cases h⟩
 have HE:=hid e0
 have HB:=hid hb
 clear e0 hz hb
 go_wp2_with fail
 go_ret
 exact ⟨decide (0 <= z),rfl,HE.out,HB.out⟩
def rsB (a b : TV) : Bool:=(a.f == b.f && a.r == b.r) && (decide (a.n = b.n /\ a.xs = b.xs /\ a.ys = b.ys) && decide (a.m = b.m /\ a.us = b.us /\ a.vs = b.vs))
theorem smB_named (t u : TL) : smB (t.named u) u = rsB t.v u.v:=by
 unfold smB rsB
 rw [show (t.named u).s = u.s from rfl,decide_eq_true rfl,Bool.true_and]
 rfl
theorem TV.Is.few {v : TV} {q1 q2 : Rat} (h : v.Is q1 q2) : v.few:=by
 have a:=rwords h.1.1
 have b:=rwords h.2.1.1
 exact ⟨by omega,by omega,by omega,by omega⟩
theorem TV.few.short {t : TL} (h : t.v.few) : t.short:=by
 obtain ⟨a,b,c,d⟩:=h
 exact ⟨Nat.le_trans a (by decide),Nat.le_trans b (by decide),Nat.le_trans c (by decide),Nat.le_trans d (by decide)⟩
def RlT (p : PL) (bo : Bool) (c : Int) : Prop:=(∃ z,PChk p.hd p.ts c z /\ c ≠ 0 /\ bo = false) \/ (p.good /\ c = 0 /\ ∃ vs : List TV,vs.length = p.ts.length /\ (∀ j,j < p.ts.length -> CjT (tT p.ts j).v (vT vs j) 0) /\ (bo = true ↔ ∀ j,j < p.ts.length -> ∃ k,k < p.ts.length /\ rsB (vT vs j) (tT p.ts k).v = true))
def RlW (p : PL) (w : World) (e : Ending) (w' : World) : Prop:=∃ (bo : Bool) (c : Int),e = .returned (.tuple #[.bool bo,.int .i64 c]) /\ RlT p bo c /\ Below w.heap.size w w'
set_option maxRecDepth 100000 in
theorem pReal_any (p : PL) (w : World) (hp : p.ok w) : Calls Tryz.prog 13 #[.agg p.cells] w (RlW p w):=by
 obtain ⟨X,hX⟩ : ∃ X,w.alloc (.cells #[.string p.s,.bool p.n,.slice p.a p.xs.length p.ca,.slice p.b p.ys.length p.cb,.slice p.t p.ts.length p.ct] 27) = X:=⟨_,rfl⟩
 have HX : Hid (Box X w.heap.size 27 #[.string p.s,.bool p.n,.slice p.a p.xs.length p.ca,.slice p.b p.ys.length p.cb,.slice p.t p.ts.length p.ct]):=by
  subst hX
  exact Box.made w _ _
 have HB : Hid (Below w.heap.size w X):=by
  subst hX
  exact alloc_later _ _
 have KP:=hid (hp.later HB.out)
 have HC1:=hid (pConj_any p X KP.out)
 have HWV : Hid (p.v.ok):=hp.v
 have y0 : X.cell? ⟨w.heap.size,0,none⟩ = some (.string p.s):=HX.out.cell 0
 have y1 : X.cell? ⟨w.heap.size,1,none⟩ = some (.bool p.n):=HX.out.cell 1
 have y2 : X.cell? ⟨w.heap.size,2,none⟩ = some (.slice p.a p.xs.length p.ca):=HX.out.cell 2
 have y3 : X.cell? ⟨w.heap.size,3,none⟩ = some (.slice p.b p.ys.length p.cb):=HX.out.cell 3
 have y4 : X.cell? ⟨w.heap.size,4,none⟩ = some (.slice p.t p.ts.length p.ct):=HX.out.cell 4
 unfold PL.cells at *
 clear hp
 go_enter Tryz.func13,Tryz.ntmps13
 go_wp2_with fail
 refine Calls.mono HC1.out ?_
 rintro e w1 ⟨q,c,rfl,hc⟩
 have hm : ∃ v,Made q v X w1:=by
  rcases hc with ⟨_,_,_,h⟩ | ⟨_,_,_,_,_,h⟩
  · exact ⟨_,h⟩
  · exact ⟨_,h⟩
 obtain ⟨v5,hm⟩:=hm
 have HX1:=hid (HX.out.later hm.bel HX.out.lt)
 obtain ⟨W2,hW2⟩ : ∃ W2,w1.alloc (.cells #[.string ⟨#[]⟩,.bool false,.slice none 0 0,.slice none 0 0,.slice none 0 0] 27) = W2:=⟨_,rfl⟩
 have HF : Hid (Box W2 w1.heap.size 27 #[.string ⟨#[]⟩,.bool false,.slice none 0 0,.slice none 0 0,.slice none 0 0]):=by
  subst hW2
  exact Box.made w1 _ _
 have HB2 : Hid (Below w1.heap.size w1 W2):=by
  subst hW2
  exact alloc_later _ _
 have hs1 : X.heap.size <= w1.heap.size:=hm.bel.size
 have hxs : w.heap.size < X.heap.size:=HX.out.lt
 obtain ⟨A0,A1,A2,A3,A4,q0,q1,q2,q3,q4,⟨r0,r1,r2,r3,r4⟩,⟨f0,f1,f2,f3,f4⟩,HA⟩:=pchain5 HF.out (.string q.s) (.bool q.n) (.slice q.a q.xs.length q.ca) (.slice q.b q.ys.length q.cb) (.slice q.t q.ts.length q.ct)
 have HYA : Hid (Below X.heap.size X A4):=HA.out.2.2.2.1 _ _ hs1 (bt hm.bel HB2.out)
 have HXA:=hid (HA.out.2.1 _ _ _ (show w.heap.size ≠ w1.heap.size by omega) (HX1.out.later HB2.out HX1.out.lt))
 have HYW : Hid (Below w1.heap.size w1 A4):=HA.out.2.2.2.1 _ _ (Nat.le_refl _) HB2.out
 have HM:=hid HA.out.1
 have HBA:=hid (bt HB.out HYA.out)
 have KPA:=hid (KP.out.later HYA.out)
 have HCK:=hid hc
 clear y0 y1 y2 y3 y4 HC1 HX1 HX HF HB2 hc hX hm hs1 hxs HB KP HA
 by_cases hc0 : c = 0
 · subst hc0
   obtain ⟨hg,vs,hvl,hvs,hmv⟩ : p.good /\ ∃ vs : List TV,vs.length = p.ts.length /\ (∀ j,j < p.ts.length -> CjT (tT p.ts j).v (vT vs j) 0) /\ Made q ⟨p.s,p.n,p.xs,p.ys,vs⟩ X w1:=by
    rcases HCK.out with ⟨_,_,h,_⟩ | ⟨hg,_,vs,h1,h2,h3⟩
    · exact absurd rfl h
    · exact ⟨hg,vs,h1,(fun j hj => h2 j _ (vT_at (by omega))),h3⟩
   have hqv : q.ts.map TL.v = vs:=congrArg PV.ts hmv.v
   have hql : q.ts.length = p.ts.length:=by rw [<- hvl,<- hqv,List.length_map]
   have HG:=hid hg
   have HVL:=hid hvl
   have HVS:=hid hvs
   have HN : Hid (p.ts.length <= 24):=hg.len
   have HQV : Hid (∀ j,j < p.ts.length -> (tT q.ts j).v = vT vs j):=fun j hj => by rw [tT_v,hqv]
   have KQ : Hid (RdT A4 q.t q.ts):=(made_ok hmv (cj_ok (PL.good_iff.1 hg) HWV.out (by rw [hvl]; exact (List.length_map ..).symm) (fun j hj => by
    have hj' : j < p.ts.length:=by rw [<- List.length_map (f:=TL.v)]; exact hj
    rw [show vT p.v.ts j = (tT p.ts j).v from (tT_v p.ts j).symm]
    exact hvs j hj'))).ts.later HYW.out
   have HQL:=hid hql
   clear hmv hqv hvl hvs hg hql HCK HWV HYW HYA
   obtain ⟨N,hN⟩ : ∃ N,p.ts.length = N:=⟨_,rfl⟩
   rw [HQL.out,hN] at HM
   rw [hN] at HXA
   have HNN:=hid hN
   rw [HQL.out,hN] at q4
   clear hN
   have k0 : A4.cell? ⟨w1.heap.size,4,none⟩ = some (.slice q.t N q.ct):=HM.out.cell 4
   have hN0 : Hid (N <= 24):=by have:=HN.out; rw [HNN.out] at this; exact this
   simp only [HQL.out,HNN.out]
   obtain ⟨qt,hqt⟩ : ∃ qt,q.t = qt:=⟨_,rfl⟩
   rw [hqt] at KQ HM q4 k0
   simp only [hqt]
   clear hqt
   go_wp2_with fail
   go_loopw [19] (fun x wr => ∃ k : Nat,k <= N /\ x = .int .i64 (k : Int) /\ Hid (Below A4.heap.size A4 wr) /\ Hid (∀ j,j < k -> ∃ i,i < p.ts.length /\ rsB (vT vs j) (tT p.ts i).v = true)) (fun x _ => N - (intOf x).toNat)
   case atStart => exact ⟨0,Nat.zero_le _,rfl,Below.refl _ _,(fun j hj => by omega : ∀ j,j < 0 -> _)⟩
   case round =>
    obtain ⟨k,hk,rfl,HW,HT⟩:=hrel
    by_cases hlt : k < N
    · have hkx : k < q.ts.length:=by have:=HQL.out; have:=HNN.out; omega
      have hkp : k < p.ts.length:=by have:=HNN.out; omega
      rcases KQ.out.2 with h0 | ⟨bb,o,rfl,hg,hx⟩
      · rw [h0] at hkx; exact absurd hkx (by simp)
      have hci:=hx k _ (tT_at hkx)
      have HTK : Hid ((tT q.ts k).ok A4 /\ (tT q.ts k).v = vT vs k):=⟨KQ.out.1 _ (tT_mem hkx),HQV.out k hkp⟩
      have e0:=(HW.out.cell (p:=⟨bb,o + k * 9 + 0,none⟩) hg).trans (hci 0 (by decide))
      have e1:=(HW.out.cell (p:=⟨bb,o + k * 9 + 1,none⟩) hg).trans (hci 1 (by decide))
      have e2:=(HW.out.cell (p:=⟨bb,o + k * 9 + 2,none⟩) hg).trans (hci 2 (by decide))
      have e3:=(HW.out.cell (p:=⟨bb,o + k * 9 + 3,none⟩) hg).trans (hci 3 (by decide))
      have e4:=(HW.out.cell (p:=⟨bb,o + k * 9 + 4,none⟩) hg).trans (hci 4 (by decide))
      have e5:=(HW.out.cell (p:=⟨bb,o + k * 9 + 5,none⟩) hg).trans (hci 5 (by decide))
      have e6:=(HW.out.cell (p:=⟨bb,o + k * 9 + 6,none⟩) hg).trans (hci 6 (by decide))
      have e7:=(HW.out.cell (p:=⟨bb,o + k * 9 + 7,none⟩) hg).trans (hci 7 (by decide))
      have e8:=(HW.out.cell (p:=⟨bb,o + k * 9 + 8,none⟩) hg).trans (hci 8 (by decide))
      clear hci hx
      generalize tT q.ts k = tt at *
      have c0 : wr.cell? ⟨bb,o + k * 9,none⟩ = some (.string tt.s):=e0
      have c1 : wr.cell? ⟨bb,o + k * 9 + 1,none⟩ = some (.int .i32 tt.f):=e1
      have c2 : wr.cell? ⟨bb,o + k * 9 + 2,none⟩ = some (.int .i32 tt.r):=e2
      have c3 : wr.cell? ⟨bb,o + k * 9 + 3,none⟩ = some (.bool tt.n):=e3
      have c4 : wr.cell? ⟨bb,o + k * 9 + 4,none⟩ = some (.slice tt.a tt.xs.length tt.ca):=e4
      have c5 : wr.cell? ⟨bb,o + k * 9 + 5,none⟩ = some (.slice tt.b tt.ys.length tt.cb):=e5
      have c6 : wr.cell? ⟨bb,o + k * 9 + 6,none⟩ = some (.bool tt.m):=e6
      have c7 : wr.cell? ⟨bb,o + k * 9 + 7,none⟩ = some (.slice tt.c tt.us.length tt.cc):=e7
      have c8 : wr.cell? ⟨bb,o + k * 9 + 8,none⟩ = some (.slice tt.d tt.vs.length tt.cd):=e8
      clear e0 e1 e2 e3 e4 e5 e6 e7 e8
      have HKS : Hid (tt.short):=(show tt.v.few by rw [HTK.out.2]; exact (HVS.out k hkp).2.2.2.2.few).short
      have HPS : Hid (∀ j,j < p.ts.length -> (tT p.ts j).short):=fun j hj => (show (tT p.ts j).v.few from HG.out.few.2.2.2 _ (List.mem_map.2 ⟨_,tT_mem hj,rfl⟩)).short
      have hk1 : (k : Int) < (N : Int):=by omega
      have HTV : Hid (tt.v = vT vs k):=HTK.out.2
      obtain ⟨R1,hR1⟩ : ∃ R1,wr.alloc (.cells #[.string ⟨#[]⟩,.int .i32 0,.int .i32 0,.bool false,.slice none 0 0,.slice none 0 0,.bool false,.slice none 0 0,.slice none 0 0] 37) = R1:=⟨_,rfl⟩
      have HR1 : Hid (Box R1 wr.heap.size 37 #[.string ⟨#[]⟩,.int .i32 0,.int .i32 0,.bool false,.slice none 0 0,.slice none 0 0,.bool false,.slice none 0 0,.slice none 0 0]):=by
       subst hR1
       exact Box.made wr _ _
      have HB1 : Hid (Below wr.heap.size wr R1):=by
       subst hR1
       exact alloc_later _ _
      obtain ⟨B0,B1,B2,B3,B4,B5,B6,B7,B8,u0,u1,u2,u3,u4,u5,u6,u7,u8,⟨x0,x1,x2,x3,x4,x5,x6,x7,x8⟩,⟨y0,y1,y2,y3,y4,y5,y6,y7,y8⟩⟩:=tchain9 HR1.out (.string tt.s) (.int .i32 tt.f) (.int .i32 tt.r) (.bool tt.n) (.slice tt.a tt.xs.length tt.ca) (.slice tt.b tt.ys.length tt.cb) (.bool tt.m) (.slice tt.c tt.us.length tt.cc) (.slice tt.d tt.vs.length tt.cd)
      have hws:=HW.out.size
      have HBX : Hid (Box B8 wr.heap.size 37 tt.cells /\ Below A4.heap.size A4 B8):=by
       subst u0 u1 u2 u3 u4 u5 u6 u7 u8
       exact ⟨box_put9 HR1.out _ _ _ _ _ _ _ _ _,below_put9 (bt HW.out HB1.out) _ hws _ _ _ _ _ _ _ _ _⟩
      have HXB:=hid (HXA.out.later HBX.out.2 HXA.out.lt)
      have d4 : B8.cell? ⟨w.heap.size,4,none⟩ = some (.slice p.t N p.ct):=HXB.out.cell 4
      have KPB:=hid (KPA.out.later HBX.out.2)
      have HCC:=hid (pcontR_any wr.heap.size (fun j => rsB tt.v (tT p.ts j).v) p.t N p.ct p.ts B8 (by have:=hN0.out; omega) HNN.out KPB.out.ts (fun j V hj hV => by
       have hj' : j < p.ts.length:=by have:=HNN.out; omega
       rw [show rsB tt.v (tT p.ts j).v = smB (tt.named (tT p.ts j)) (tT p.ts j) from (smB_named _ _).symm]
       exact pReal1_any tt (tT p.ts j) wr.heap.size V (HBX.out.1.later hV HBX.out.1.lt) (HTK.out.1.later (bt HBX.out.2 hV)) ((KPB.out.ts.later hV).1 _ (tT_mem hj')) HKS.out (HPS.out j hj')))
      clear hws HR1 HB1 HKS HPS KPB
      go_wp2_with fail
      refine Calls.mono HCC.out ?_
      rintro e w2 ⟨bo,rfl,hbo,hb⟩
      have HW2:=hid (bt HBX.out.2 hb)
      have HBO:=hid hbo
      clear hb hbo HCC HXB HBX HTK c0 c1 c2 c3 c4 c5 c6 c7 c8 d4 x0 x1 x2 x3 x4 x5 x6 x7 x8 y0 y1 y2 y3 y4 y5 y6 y7 y8
      cases bo with
      | true =>
       have HN2 : Hid (∀ j,j < k + 1 -> ∃ i,i < p.ts.length /\ rsB (vT vs j) (tT p.ts i).v = true):=fun j hj => by
        rcases Nat.lt_or_ge j k with g1 | g1
        · exact HT.out j g1
        · obtain rfl : j = k:=by omega
          obtain ⟨i,hi,h⟩:=HBO.out.1 rfl
          exact ⟨i,by have:=HNN.out; omega,by rw [<- HTV.out]; exact h⟩
       have h24 : N <= 24:=hN0.out
       go_wp2_with fail
       go_roundw
       case rel => exact ⟨k + 1,by omega,by go_num,HW2,HN2⟩
       case measure => simp [intOf]; omega
      | false =>
       go_wp2_with fail
       go_ret2
       unfold RlW
       refine ⟨false,0,rfl,.inr ⟨HG.out,rfl,vs,HVL.out,HVS.out,⟨fun h => (by cases h),fun h => ?_⟩⟩,bt HBA.out HW2.out⟩
       obtain ⟨i,hi,h1⟩:=h k (by have:=HNN.out; omega)
       have:=HBO.out.2 ⟨i,by have:=HNN.out; omega,by rw [HTV.out]; exact h1⟩
       cases this
    · obtain rfl : k = N:=by omega
      have hkk : ¬ (k : Int) < (k : Int):=by omega
      go_wp2_with fail
      go_ret2
      unfold RlW
      exact ⟨true,0,rfl,.inr ⟨HG.out,rfl,vs,HVL.out,HVS.out,⟨fun _ j hj => HT.out j (by have:=HNN.out; omega),fun _ => rfl⟩⟩,bt HBA.out HW.out⟩
 · have h0' : (c == 0) = false:=by simp [hc0]
   have h0'' : (c != 0) = true:=by simp [hc0]
   have HCN:=hid hc0
   clear hc0
   go_wp2_with fail
   go_ret2
   unfold RlW
   rcases HCK.out with ⟨z,hz,_,_⟩ | ⟨_,h,_⟩
   · exact ⟨false,c,rfl,.inl ⟨z,hz,HCN.out,rfl⟩,HBA.out⟩
   · exact absurd h HCN.out
theorem rsB_of {a b : TV} {q1 q2 : Rat} (h : a.Is q1 q2) (g : b.Is q1 q2) (hf : a.f = b.f) (hr : a.r = b.r) : rsB a b = true:=by
 obtain ⟨a1,a2,a3⟩:=rq_inj h.2.2.1 h.2.2.2.1 g.2.2.1 g.2.2.2.1 h.1.1 g.1.1 (h.1.2.trans g.1.2.symm)
 obtain ⟨b1,b2,b3⟩:=rq_inj h.2.2.2.2.1 h.2.2.2.2.2 g.2.2.2.2.1 g.2.2.2.2.2 h.2.1.1 g.2.1.1 (h.2.1.2.trans g.2.1.2.symm)
 unfold rsB
 rw [decide_eq_true (⟨a1,a2,a3⟩ : a.n = b.n /\ a.xs = b.xs /\ a.ys = b.ys),decide_eq_true (⟨b1,b2,b3⟩ : a.m = b.m /\ a.us = b.us /\ a.vs = b.vs),hf,hr]
 simp
theorem pReal_good (p : PL) (w : World) (hp : p.ok w) (hg : p.v.Good) (hm : ∀ j,j < p.v.ts.length -> ∃ k,k < p.v.ts.length /\ (vT p.v.ts k).f = (vT p.v.ts j).f /\ (vT p.v.ts k).r = -(vT p.v.ts j).r /\ (vT p.v.ts k).Is (vT p.v.ts j).q1 (-(vT p.v.ts j).q2)) : Calls Tryz.prog 13 #[.agg p.cells] w fun e w' => e = .returned (.tuple #[.bool true,.int .i64 0]) /\ Below w.heap.size w w':=by
 have hl : p.v.ts.length = p.ts.length:=List.length_map ..
 have hT : ∀ j,vT p.v.ts j = (tT p.ts j).v:=fun j => (tT_v p.ts j).symm
 refine Calls.mono (pReal_any p w hp) ?_
 rintro e w' ⟨bo,c,rfl,h,hb⟩
 rcases h with ⟨z,hz,hc,_⟩ | ⟨_,rfl,vs,hvl,hvs,hbo⟩
 · exact absurd (PCk.one0 hz hg) hc
 · have ht : bo = true:=hbo.2 fun j hj => by
    obtain ⟨k,hk,e1,e2,e3⟩:=hm j (by omega)
    have hc:=hvs j hj
    rw [hT] at e1 e2 e3
    rw [hT] at e1 e2 e3
    exact ⟨k,by omega,rsB_of hc.2.2.2.2 e3 (hc.2.2.1.trans e1.symm) (hc.2.2.2.1.trans e2.symm)⟩
   subst ht
   exact ⟨rfl,hb⟩
def zs (z : Nat -> Rat × Rat) : Nat -> Rat × Rat
 | 0 => (0,0)
 | i + 1 => ((zs z i).1 + (z i).1,(zs z i).2 + (z i).2)
end Go.Proofs.YtnhmaijmmkplkaaGreatDoor
