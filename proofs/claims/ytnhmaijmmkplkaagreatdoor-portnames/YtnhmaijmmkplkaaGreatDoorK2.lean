/- My texts on the way to PortNames, one behind the other: contracts of the program and of the document's answers. -/
import Derived.Test.YtnhmaijmmkplkaaGreatDoorK1
import Derived.BigQuiet
import Derived.Handy
import Derived.Deep.CutRange
import Derived.Deep.LoopGhost
import Derived.Deep.Cut
import Derived.Deep.RegionHeld3
namespace Go.Proofs.YtnhmaijmmkplkaaGreatDoor
set_option maxHeartbeats 6400000
open Go.RowKit
set_option linter.unusedVariables false
theorem lead_fit (x : Int) (h0 : 1 <= x) (h1 : x <= 4294967295) (t : Nat) (ht : 32 - Lib.bitLen x.toNat = t) : t <= 31 /\ ∀ y : Int,0 <= y -> y <= x -> y * 2 ^ t < 4294967296:=by
 obtain ⟨a,b,c⟩:=bitLen_bounds x h0 h1
 have h2:=bitLen_le32 x h1
 refine ⟨by omega,fun y hy hyx => ?_⟩
 have e:=two_split (Lib.bitLen x.toNat) h2
 rw [ht] at e
 have hp:=two_pos t
 have e1 : (y + 1) * 2 ^ t <= 2 ^ Lib.bitLen x.toNat * 2 ^ t:=Int.mul_le_mul_of_nonneg_right (by omega) (by omega)
 rw [Int.add_mul] at e1
 omega
def Looked (w : World) (X Y : Int) (x : Ending) (w' : World) : Prop:=∃ s a b c d : Int,x = .returned (.agg #[.int .i64 s,.int .i64 a,.int .i64 b,.int .i64 c,.int .i64 d]) /\ 0 <= s /\ s <= 4611686018427387904 /\ (s = 0 \/ (1 <= s /\ Leaps X Y a b c d)) /\ Below w.heap.size w w'
theorem Box.put5 {w : World} {b t : Nat} {z0 z1 z2 z3 z4 : Value} (h : Box w b t #[z0,z1,z2,z3,z4]) (v0 v1 v2 v3 v4 : Value) :
 Box (((((w.setCell ⟨b,0,none⟩ v0).setCell ⟨b,1,none⟩ v1).setCell ⟨b,2,none⟩ v2).setCell ⟨b,3,none⟩ v3).setCell ⟨b,4,none⟩ v4) b t #[v0,v1,v2,v3,v4] :=
 ((((h.set 0 v0).set 1 v1).set 2 v2).set 3 v3).set 4 v4
theorem below_put5 {B : Nat} {a w : World} (h : Below B a w) (b : Nat) (hb : B <= b) (v0 v1 v2 v3 v4 : Value) :
 Below B a (((((w.setCell ⟨b,0,none⟩ v0).setCell ⟨b,1,none⟩ v1).setCell ⟨b,2,none⟩ v2).setCell ⟨b,3,none⟩ v3).setCell ⟨b,4,none⟩ v4) :=
 ((((h.setCell (p:=⟨b,0,none⟩) hb _).setCell (p:=⟨b,1,none⟩) hb _).setCell (p:=⟨b,2,none⟩) hb _).setCell (p:=⟨b,3,none⟩) hb _).setCell (p:=⟨b,4,none⟩) hb _
theorem new_box {wr w5 : World} {vs : Array Value} {t : Nat} (hb : Below (wr.alloc (.cells vs t)).drew.heap.size (wr.alloc (.cells vs t)).drew w5) : Box w5 wr.heap.size t vs /\ Below wr.heap.size wr w5:=by
 have h1 : Below (wr.alloc (.cells vs t)).heap.size (wr.alloc (.cells vs t)) w5:=(Below.refl _ (wr.alloc (.cells vs t))).drew.trans hb
 exact ⟨(Box.made wr t vs).later h1 (by simp),bt (alloc_later _ _) h1⟩
theorem Box.put5_other {w : World} {b t b' : Nat} {vs : Array Value} (h : Box w b t vs) (hne : b ≠ b') (v0 v1 v2 v3 v4 : Value) :
 Box (((((w.setCell ⟨b',0,none⟩ v0).setCell ⟨b',1,none⟩ v1).setCell ⟨b',2,none⟩ v2).setCell ⟨b',3,none⟩ v3).setCell ⟨b',4,none⟩ v4) b t vs :=
 ((((h.other ⟨b',0,none⟩ _ hne).other ⟨b',1,none⟩ _ hne).other ⟨b',2,none⟩ _ hne).other ⟨b',3,none⟩ _ hne).other ⟨b',4,none⟩ _ hne
theorem top_le {xs ys : List Int} (wx : Wd xs) (wy : Wd ys) (n : Nat) (lx : xs.length = n + 1) (ly : ys.length = n + 1) (h : val ys <= val xs) : ys[n]?.getD 0 <= xs[n]?.getD 0:=by
 by_cases c : ys[n]?.getD 0 <= xs[n]?.getD 0
 · exact c
 · have:=val_lt_of wx wy n (by omega) (fun j hj => by rw [List.getElem?_eq_none (by omega),List.getElem?_eq_none (by omega)])
   omega
theorem step_sizes {s g A B C D p q a b c d Q : Int} (h : Lp s g A B C D) (hQ : 1 <= Q) (hD : B + Q * D <= 4611686018427387903) (ha : a = g * A) (hb : b = -(g * B)) (hc : c = -(g * C)) (hd : d = g * D) :
 IntKind.i64.wrap (Q * c) = Q * c /\ IntKind.i64.wrap (Q * d) = Q * d /\ IntKind.i64.wrap (a - Q * c) = a - Q * c /\ IntKind.i64.wrap (b - Q * d) = b - Q * d /\ d = -(-g * D) /\ c = -g * C /\ a - Q * c = -(-g * (A + Q * C)) /\ b - Q * d = -g * (B + Q * D):=by
 obtain ⟨a0,b0,c0,cd,d1,det,sgn,way⟩:=h
 have q1 : 0 <= Q * C:=Int.mul_nonneg (by omega) c0
 have q2 : Q * C <= Q * D:=Int.mul_le_mul_of_nonneg_left cd (by omega)
 have q3 : 0 <= Q * D:=Int.mul_nonneg (by omega) (by omega)
 have q4 : 1 * D <= Q * D:=Int.mul_le_mul_of_nonneg_right hQ (by omega)
 have hA : A <= B + Q * D:=by rcases way with ⟨_,e1,_,_,e4⟩ | ⟨_,w2,_,_,_⟩ <;> omega
 have f1 : d = -(-g * D):=by rw [hd,Int.neg_mul,Int.neg_neg]
 have f2 : c = -g * C:=by rw [hc,Int.neg_mul]
 have f3 : a - Q * c = -(-g * (A + Q * C)):=by
  rw [ha,hc,Int.neg_mul,Int.neg_neg,Int.mul_neg,Int.mul_add,<- Int.mul_assoc Q,<- Int.mul_assoc g Q,Int.mul_comm Q g]; omega
 have f4 : b - Q * d = -g * (B + Q * D):=by
  rw [hb,hd,Int.neg_mul,Int.mul_add,<- Int.mul_assoc Q,<- Int.mul_assoc g Q,Int.mul_comm Q g]; omega
 have bb : (-4611686018427387903 <= Q * c /\ Q * c <= 4611686018427387903) /\ (-4611686018427387903 <= Q * d /\ Q * d <= 4611686018427387903) /\ (-4611686018427387903 <= a /\ a <= 4611686018427387903) /\ (-4611686018427387903 <= b /\ b <= 4611686018427387903):=by
  rcases sgn with rfl | rfl
  · rw [Int.one_mul] at ha hb hc hd
    rw [hc,hd,ha,hb,Int.mul_neg]
    omega
  · rw [Int.neg_mul,Int.one_mul] at ha hb hc hd
    rw [Int.neg_neg] at hb hc
    rw [hc,hd,ha,hb,Int.mul_neg]
    omega
 exact ⟨IntWalk.i64_in _ (by omega),IntWalk.i64_in _ (by omega),IntWalk.i64_in _ (by omega),IntWalk.i64_in _ (by omega),f1,f2,f3,f4⟩
theorem abs_of {g A a : Int} (h : 0 <= A) (sgn : g = 1 \/ g = -1) (ha : a = g * A \/ a = -(g * A)) : (a.natAbs : Int) = A:=by
 rcases sgn with rfl | rfl
 · simp only [Int.one_mul] at ha; omega
 · simp only [Int.neg_mul,Int.one_mul] at ha; omega
set_option maxRecDepth 100000 in
theorem look_any (a : Option Addr) (e cap : Nat) (xs : List Int) (b : Option Addr) (cap' : Nat) (ys : List Int) (w : World) (h : Reads w w.heap.size a (e + 3) cap xs) (g : Reads w w.heap.size b (e + 3) cap' ys) (hn : e <= 8192) (htop : 1 <= xs[e + 2]?.getD 0) (hle : val ys <= val xs) :
 Calls Tryz.prog 261 #[.slice a (e + 3) cap,.slice b (e + 3) cap'] w (Looked w (val xs) (val ys)):=by
 have bt0:=h.2.1.at (e + 2)
 have bt1:=g.2.1.at (e + 2)
 have hty:=top_le h.2.1 g.2.1 (e + 2) h.1 g.1 hle
 obtain ⟨t,ht⟩ : ∃ t,32 - Lib.bitLen (xs[e + 2]?.getD 0).toNat = t:=⟨_,rfl⟩
 obtain ⟨t31,hfit⟩:=lead_fit _ htop bt0.2 t ht
 have HLD:=hid (fun ww => lead_any (xs[e + 2]?.getD 0) ww htop bt0.2)
 rw [ht] at HLD
 have HX:=hid (fun ww (hb : Below w.heap.size w ww) => highest_any a e cap xs t ww (h.later hb hb.size) hn t31 (hfit _ (by omega) (Int.le_refl _)))
 have HY:=hid (fun ww (hb : Below w.heap.size w ww) => highest_any b e cap' ys t ww (g.later hb hb.size) hn t31 (hfit _ bt1.1 hty))
 -- the highest bits,and what is below them
 have nx:=val_nonneg h.2.1
 have ny:=val_nonneg g.2.1
 have kp : (0 : Int) < 4294967296 ^ e * 2 ^ (34 - t):=Int.mul_pos (pw_pos e) (two_pos _)
 have dx : val xs / 4294967296 ^ e / 2 ^ (34 - t) = val xs / (4294967296 ^ e * 2 ^ (34 - t)):=Int.ediv_ediv_of_nonneg (Int.le_of_lt (pw_pos e))
 have dy : val ys / 4294967296 ^ e / 2 ^ (34 - t) = val ys / (4294967296 ^ e * 2 ^ (34 - t)):=Int.ediv_ediv_of_nonneg (Int.le_of_lt (pw_pos e))
 rw [dx] at HX
 rw [dy] at HY
 obtain ⟨K,hK⟩ : ∃ K : Int,4294967296 ^ e * 2 ^ (34 - t) = K:=⟨_,rfl⟩
 rw [hK] at HX HY kp
 have mx:=Int.mul_ediv_add_emod (val xs) K
 have my:=Int.mul_ediv_add_emod (val ys) K
 have lx:=Int.emod_lt_of_pos (val xs) kp
 have ly:=Int.emod_lt_of_pos (val ys) kp
 have lx0:=Int.emod_nonneg (val xs) (show K ≠ 0 by omega)
 have ly0:=Int.emod_nonneg (val ys) (show K ≠ 0 by omega)
 have pq : val ys / K <= val xs / K:=Int.ediv_le_ediv kp hle
 have q00 : 0 <= val ys / K:=Int.ediv_nonneg ny (by omega)
 obtain ⟨p0,hp0⟩ : ∃ p,val xs / K = p:=⟨_,rfl⟩
 obtain ⟨q0,hq0⟩ : ∃ p,val ys / K = p:=⟨_,rfl⟩
 rw [hp0] at HX mx pq
 rw [hq0] at HY my pq q00
 have HK:=hid (And.intro kp (And.intro mx (And.intro my (And.intro lx (And.intro ly (And.intro lx0 ly0))))))
 rcases h.2.2.1 with h0 | ⟨b2,o2,rfl,hb2,hc2⟩
 · omega
 have hc0:=hc2 (e + 2) (by omega)
 clear dx dy hK mx my lx ly lx0 ly0 hp0 hq0 kp hc2 h g hfit ht hty bt1 nx ny hle
 generalize xs[e + 2]?.getD 0 = top at *
 go_enter Tryz.func261,Tryz.ntmps261
 go_wp2_with fail
 refine Calls.mono (HLD.out _) ?_
 rintro x w' ⟨rfl,rfl⟩
 go_wp2_with fail
 refine Calls.mono (HX.out _ (alloc_later _ _)) ?_
 rintro x w2 ⟨rfl,p00,p01,hb2'⟩
 have hbA:=bt (alloc_later _ _) hb2'
 have HR2:=hid (Box.later (Box.made w 243 #[.int .i64 0,.int .i64 0,.int .i64 0,.int .i64 0,.int .i64 0]) hb2' (by simp))
 go_wp2_with fail
 refine Calls.mono (HY.out _ hbA) ?_
 rintro x w3 ⟨rfl,_,q01,hb3⟩
 have hbB:=bt hbA hb3
 have HR3:=hid (Box.later HR2.out hb3 HR2.out.lt)
 have hs3:=HR3.out.lt
 have HBB:=hid hbB
 clear hb3 hb2' hbA hbB HR2 HX HY HLD hc0
 go_wp2_with fail
 go_loopw [6,7] (fun c1 c2 wr => ∃ (s f A B C D p q a b c d : Int),c1 = .int .i64 p /\ c2 = .int .i64 q /\ 0 <= q /\ q <= p /\ p <= 4611686018427387903 /\ 0 <= s /\ s + q <= 4611686018427387903 /\ Hid (Lp s f A B C D) /\ Hid (p0 = D * p + B * q /\ q0 = C * p + A * q) /\ Hid (a = f * A /\ b = -(f * B) /\ c = -(f * C) /\ d = f * D) /\ Hid (s = 0 \/ (D <= q /\ B + D <= p - q)) /\
  Box wr w3.heap.size 243 #[.int .i64 s,.int .i64 a,.int .i64 b,.int .i64 c,.int .i64 d] /\ Box wr w.heap.size 243 #[.int .i64 0,.int .i64 0,.int .i64 0,.int .i64 0,.int .i64 0] /\ Below w.heap.size w wr) (fun _ c2 _ => (intOf c2).toNat)
 case atStart => exact ⟨0,1,1,0,0,1,p0,q0,1,0,0,1,rfl,rfl,q00,pq,by omega,by omega,by omega,Lp.first,show _ /\ _ by omega,show _ /\ _ by omega,.inl rfl,Box.made _ _ _,HR3.out.later (alloc_later _ _) hs3,bt HBB.out (alloc_later _ _)⟩
 case round =>
  obtain ⟨s,f,A,B,C,D,p,q,a',b',c',d',rfl,rfl,qa,qb,pa,sa,sq,HLP,HPQ,HAB,HH,box,res,hbel⟩:=hrel
  have k0 : wr.cell? ⟨w3.heap.size,0,none⟩ = some (.int .i64 s):=box.cell 0
  have k1 : wr.cell? ⟨w3.heap.size,1,none⟩ = some (.int .i64 a'):=box.cell 1
  have k2 : wr.cell? ⟨w3.heap.size,2,none⟩ = some (.int .i64 b'):=box.cell 2
  have k3 : wr.cell? ⟨w3.heap.size,3,none⟩ = some (.int .i64 c'):=box.cell 3
  have k4 : wr.cell? ⟨w3.heap.size,4,none⟩ = some (.int .i64 d'):=box.cell 4
  have HFIN : Hid (s = 0 \/ (1 <= s /\ Leaps (val xs) (val ys) a' b' c' d')):=by
   rcases HH.out with h0 | ⟨h1,h2⟩
   · exact .inl h0
   · by_cases hs0 : s = 0
     · exact .inl hs0
     · right
       obtain ⟨e1,e2,e3,e4⟩:=HAB.out
       obtain ⟨kp,mx,my,lx,ly,lx0,ly0⟩:=HK.out
       refine ⟨by omega,?_⟩
       rw [e1,e2,e3,e4]
       exact leaps_of HLP.out (by omega) (by omega) lx0 lx ly0 ly (by rw [<- HPQ.out.1,Int.mul_comm]; exact mx.symm) (by rw [<- HPQ.out.2,Int.mul_comm]; exact my.symm) (HLP.out.held h1 h2 HPQ.out.1 (by omega)) h1 h2
  by_cases hq : q = 0
  · subst hq
    have r0 : wr.cell? ⟨w.heap.size,0,none⟩ = some (.int .i64 0):=res.cell 0
    have r1 : wr.cell? ⟨w.heap.size,1,none⟩ = some (.int .i64 0):=res.cell 1
    have r2 : wr.cell? ⟨w.heap.size,2,none⟩ = some (.int .i64 0):=res.cell 2
    have r3 : wr.cell? ⟨w.heap.size,3,none⟩ = some (.int .i64 0):=res.cell 3
    have r4 : wr.cell? ⟨w.heap.size,4,none⟩ = some (.int .i64 0):=res.cell 4
    have g0:=res.free 0
    have g1:=res.free 1
    have g2:=res.free 2
    have g3:=res.free 3
    have g4:=res.free 4
    go_wp2_with fail
    refine bodyPost_ret (v:=.agg #[.int .i64 s,.int .i64 a',.int .i64 b',.int .i64 c',.int .i64 d']) (by simp [results,Tryz.results261,go_sem,r0,r1,r2,r3,r4]) rfl ?_
    exact ⟨s,a',b',c',d',rfl,sa,by omega,HFIN.out,((((hbel.setCell (p:=⟨w.heap.size,0,none⟩) (Nat.le_refl _) _).setCell (p:=⟨w.heap.size,1,none⟩) (Nat.le_refl _) _).setCell (p:=⟨w.heap.size,2,none⟩) (Nat.le_refl _) _).setCell (p:=⟨w.heap.size,3,none⟩) (Nat.le_refl _) _).setCell (p:=⟨w.heap.size,4,none⟩) (Nat.le_refl _) _⟩
  · have q1 : 1 <= q:=by omega
    have hne : (q != 0) = true:=by simp [hq]
    have Q1 : 1 <= p / q:=(Int.le_ediv_iff_mul_le (by omega)).2 (by omega)
    have hpe:=Int.mul_ediv_add_emod p q
    have m0' : 0 <= p % q:=Int.emod_nonneg _ hq
    have m1 : p % q < q:=Int.emod_lt_of_pos _ (by omega)
    have td : p.tdiv q = p / q:=Int.tdiv_eq_ediv_of_nonneg (by omega)
    have tm : p.tmod q = p % q:=Int.tmod_eq_emod_of_nonneg (by omega)
    have Qp : p / q <= p:=Int.ediv_le_self _ (by omega)
    obtain ⟨Q,hQ⟩ : ∃ Q,p / q = Q:=⟨_,rfl⟩
    obtain ⟨r,hr⟩ : ∃ r,p % q = r:=⟨_,rfl⟩
    rw [hQ] at Q1 hpe td Qp
    rw [hr] at m0' m1 hpe tm
    have wQ : IntKind.i64.wrap Q = Q:=IntWalk.i64_in _ (by omega)
    have ps:=pair_step (Q:=Q) (q:=q) (r:=r) (by rw [Int.mul_comm]; exact hpe.symm) HPQ.out.1 HPQ.out.2
    have lp':=HLP.out.step Q1
    have hD:=lp'.small q1 m0' ps.1 (by omega)
    obtain ⟨e1,e2,e3,e4⟩:=HAB.out
    obtain ⟨w1',w2',w3',w4',f1,f2,f3,f4⟩:=step_sizes (p:=p) (q:=q) HLP.out Q1 hD e1 e2 e3 e4
    have HST:=hid (fun ww => Calls.mono (step_any s a' b' c' d' Q ww ⟨sa,by omega⟩ w1' w2' w3' w4') (R':=fun e w' => e = .returned (.agg #[.int .i64 (s + 1),.int .i64 c',.int .i64 d',.int .i64 (a' - Q * c'),.int .i64 (b' - Q * d')]) /\ Below ww.heap.size ww w' /\
     (wr.heap.size < ww.heap.size -> ∀ j,w'.cell? ⟨wr.heap.size,j,none⟩ = ww.cell? ⟨wr.heap.size,j,none⟩) /\ (wr.heap.size < ww.heap.size -> ∀ j,w'.frozen? ⟨wr.heap.size,j,none⟩ = ww.frozen? ⟨wr.heap.size,j,none⟩)) (fun _ _ h => ⟨h.1,h.2,fun hlt j => h.2.cell hlt,fun hlt j => h.2.frozen hlt⟩))
    obtain ⟨c2,hc2⟩ : ∃ c2,a' - Q * c' = c2:=⟨_,rfl⟩
    obtain ⟨d2,hd2⟩ : ∃ d2,b' - Q * d' = d2:=⟨_,rfl⟩
    rw [hc2] at f3 HST
    rw [hd2] at f4 HST
    obtain ⟨C2,hC2⟩ : ∃ C2,A + Q * C = C2:=⟨_,rfl⟩
    obtain ⟨D2,hD2⟩ : ∃ D2,B + Q * D = D2:=⟨_,rfl⟩
    rw [hC2] at lp' ps f3
    rw [hD2] at lp' ps f4 hD
    have ad:=abs_of (a:=d') lp'.b0 lp'.sgn (.inr f1)
    have ad2:=abs_of (a:=d2) (by have:=lp'.d1; omega) lp'.sgn (.inl f4)
    have lD : D <= D2:=by
     rcases lp'.way with ⟨x0,_⟩ | ⟨_,_,_,x3,_⟩
     · omega
     · exact x3
    have lD0:=lp'.b0
    have HHO:=hid (fun ww => holds_any (s + 1) c' d' c2 d2 q r ww (by omega) (by omega) (by omega) (by omega) (by omega))
    rw [ad,ad2] at HHO
    have HLP':=hid lp'
    have HPS:=hid ps
    have HAB' : Hid (c' = -f * C /\ d' = -(-f * D) /\ c2 = -(-f * C2) /\ d2 = -f * D2):=⟨f2,f1,f3,f4⟩
    have hbs:=box.lt
    have hrs:=res.lt
    have HBX:=hid box
    have HRS:=hid res
    have HBL:=hid hbel
    clear lp' ps f1 f2 f3 f4 e1 e2 e3 e4 ad ad2 hC2 hD2 hc2 hd2 w1' w2' w3' w4' hpe box res hbel HLP HPQ HAB HH lD lD0 hD
    go_upto_region 5 with fail
    go_cut [9,10] from 25 to 42 (fun n9 n10 wx => ∃ b9 : Nat,n9 = .pointer (some ⟨b9,0,none⟩) /\ n10 = .int .i64 r /\ Box wx b9 243 #[.int .i64 (s + 1),.int .i64 c',.int .i64 d',.int .i64 c2,.int .i64 d2] /\ wr.heap.size <= b9 /\ Below wr.heap.size wr wx)
    case first =>
     go_region_with (go_at_call 285; with_reducible refine Calls.mono (HST.out _) ?_; rintro e w5 ⟨rfl,hb5,hx5,hy5⟩)
     all_goals
      go_wp2_with fail
      go_meet
     · exact ⟨_,rfl,rfl,Box.made _ _ _,hb5.size,bt ((Below.refl _ wr).drew.trans hb5) (alloc_later _ _)⟩
     · exact ⟨_,rfl,rfl,(new_box hb5).1.put5 _ _ _ _ _,Nat.le_refl _,below_put5 (new_box hb5).2 _ (Nat.le_refl _) _ _ _ _ _⟩
     · exact ⟨_,rfl,rfl,(new_box hb5).1.put5 _ _ _ _ _,Nat.le_refl _,below_put5 (new_box hb5).2 _ (Nat.le_refl _) _ _ _ _ _⟩
    case rest =>
     obtain ⟨b9,rfl,rfl,box9,hb9,hbw⟩:=hcut
     have n0 : wc.cell? ⟨b9,0,none⟩ = some (.int .i64 (s + 1)):=box9.cell 0
     have n1 : wc.cell? ⟨b9,1,none⟩ = some (.int .i64 c'):=box9.cell 1
     have n2 : wc.cell? ⟨b9,2,none⟩ = some (.int .i64 d'):=box9.cell 2
     have n3 : wc.cell? ⟨b9,3,none⟩ = some (.int .i64 c2):=box9.cell 3
     have n4 : wc.cell? ⟨b9,4,none⟩ = some (.int .i64 d2):=box9.cell 4
     go_wp2_with fail
     refine Calls.mono (HHO.out _) ?_
     rintro e w6 ⟨rfl,hb6⟩
     have box8:=(HBX.out.later hbw hbs).later hb6 (HBX.out.later hbw hbs).lt
     have res8:=(HRS.out.later hbw hrs).later hb6 (HRS.out.later hbw hrs).lt
     have box6:=box9.later hb6 box9.lt
     have hbel : Below w.heap.size w w6:=bt HBL.out (bt hbw hb6)
     have hne6 : ¬ b9 = w3.heap.size:=by omega
     have hne7 : ¬ w3.heap.size = b9:=by omega
     clear n0 n1 n2 n3 n4 k0 k1 k2 k3 k4 HST
     by_cases hh : D2 <= r /\ D + D2 <= q - r
     · have hdec : decide (D2 <= r /\ D + D2 <= q - r) = true:=decide_eq_true hh
       rw [hdec]
       clear hdec
       have n0 : w6.cell? ⟨b9,0,none⟩ = some (.int .i64 (s + 1)):=box6.cell 0
       have n1 : w6.cell? ⟨b9,1,none⟩ = some (.int .i64 c'):=box6.cell 1
       have n2 : w6.cell? ⟨b9,2,none⟩ = some (.int .i64 d'):=box6.cell 2
       have n3 : w6.cell? ⟨b9,3,none⟩ = some (.int .i64 c2):=box6.cell 3
       have n4 : w6.cell? ⟨b9,4,none⟩ = some (.int .i64 d2):=box6.cell 4
       have f0:=box8.free 0
       have f1:=box8.free 1
       have f2:=box8.free 2
       have f3:=box8.free 3
       have f4:=box8.free 4
       have m0 : w6.cell? ⟨w3.heap.size,0,none⟩ = some (.int .i64 s):=box8.cell 0
       have m1 : w6.cell? ⟨w3.heap.size,1,none⟩ = some (.int .i64 a'):=box8.cell 1
       have m2 : w6.cell? ⟨w3.heap.size,2,none⟩ = some (.int .i64 b'):=box8.cell 2
       have m3 : w6.cell? ⟨w3.heap.size,3,none⟩ = some (.int .i64 c'):=box8.cell 3
       have m4 : w6.cell? ⟨w3.heap.size,4,none⟩ = some (.int .i64 d'):=box8.cell 4
       have HNX:=hid (box8.put5 (.int .i64 (s + 1)) (.int .i64 c') (.int .i64 d') (.int .i64 c2) (.int .i64 d2))
       have HRX:=hid (res8.put5_other (show w.heap.size ≠ w3.heap.size by omega) (.int .i64 (s + 1)) (.int .i64 c') (.int .i64 d') (.int .i64 c2) (.int .i64 d2))
       have HBX':=hid (below_put5 hbel w3.heap.size (by omega) (.int .i64 (s + 1)) (.int .i64 c') (.int .i64 d') (.int .i64 c2) (.int .i64 d2))
       have HHD:=hid hh
       clear box6 box8 res8 box9 hbel hh hbw hb6
       go_wp2_with fail
       go_roundw
       case rel => exact ⟨s + 1,-f,C,D,C2,D2,q,r,c',d',c2,d2,rfl,rfl,m0',by omega,by omega,by omega,by omega,HLP',HPS,HAB',.inr HHD.out,HNX.out,HRX.out,HBX'.out⟩
       case measure => simp [intOf]; omega
     · have hdec : decide (D2 <= r /\ D + D2 <= q - r) = false:=decide_eq_false hh
       rw [hdec]
       clear hdec
       have m0 : w6.cell? ⟨w3.heap.size,0,none⟩ = some (.int .i64 s):=box8.cell 0
       have m1 : w6.cell? ⟨w3.heap.size,1,none⟩ = some (.int .i64 a'):=box8.cell 1
       have m2 : w6.cell? ⟨w3.heap.size,2,none⟩ = some (.int .i64 b'):=box8.cell 2
       have m3 : w6.cell? ⟨w3.heap.size,3,none⟩ = some (.int .i64 c'):=box8.cell 3
       have m4 : w6.cell? ⟨w3.heap.size,4,none⟩ = some (.int .i64 d'):=box8.cell 4
       have r0 : w6.cell? ⟨w.heap.size,0,none⟩ = some (.int .i64 0):=res8.cell 0
       have r1 : w6.cell? ⟨w.heap.size,1,none⟩ = some (.int .i64 0):=res8.cell 1
       have r2 : w6.cell? ⟨w.heap.size,2,none⟩ = some (.int .i64 0):=res8.cell 2
       have r3 : w6.cell? ⟨w.heap.size,3,none⟩ = some (.int .i64 0):=res8.cell 3
       have r4 : w6.cell? ⟨w.heap.size,4,none⟩ = some (.int .i64 0):=res8.cell 4
       have g0:=res8.free 0
       have g1:=res8.free 1
       have g2:=res8.free 2
       have g3:=res8.free 3
       have g4:=res8.free 4
       clear box6 box8 res8 box9 hh hbw hb6
       go_wp2_with fail
       refine bodyPost_ret (v:=.agg #[.int .i64 s,.int .i64 a',.int .i64 b',.int .i64 c',.int .i64 d']) (by simp [results,Tryz.results261,go_sem,r0,r1,r2,r3,r4]) rfl ?_
       exact ⟨s,a',b',c',d',rfl,sa,by omega,HFIN.out,below_put5 hbel w.heap.size (Nat.le_refl _) _ _ _ _ _⟩
theorem clear_cells {base g n cap : Nat} : ∀ (k o : Nat) (w : World) (zs : List Int),OwnC w base g n cap zs ->
 ∃ us,OwnC (w.setCells g o (List.replicate k (.int .u32 0))) base g n cap us /\ (∀ j,o <= j -> j < o + k -> us[j]?.getD 0 = 0) /\ (∀ j,j < o -> us[j]?.getD 0 = zs[j]?.getD 0) /\ w.grownBy (w.setCells g o (List.replicate k (.int .u32 0))) (some g)
 | 0,o,w,zs,h => ⟨zs,h,fun j h1 h2 => by omega,fun _ _ => rfl,World.grownBy.refl _ _⟩
 | k + 1,o,w,zs,h => by
  obtain ⟨h1,hg⟩:=OwnC.set h o 0
  obtain ⟨us,h2,h3,h4,h5⟩:=clear_cells k (o + 1) _ _ h1
  refine ⟨us,h2,fun j a b => ?_,fun j a => ?_,grown_trans hg h5⟩
  · by_cases e : j = o
    · rw [h4 j (by omega),e,List.getElem?_set,if_pos rfl]
      split <;> rfl
    · exact h3 j (by omega) (by omega)
  · rw [h4 j (by omega),List.getElem?_set,if_neg (by omega)]
theorem copy_into {w : World} {ops : Array Oper} {rest : List Oper} {o : Oper} {a : Act} {Q : Exit -> Act -> World -> Prop} (hgd : o.guard = none) (d s : Operand) (ho : o.op = .call { callee:=.builtin .copy,args:=#[d,s],argTypes:=#[22,22] })
 (base g n cap : Nat) (zs : List Int) (sp : Option Addr) (m scap B : Nat) (rs : List Int) (hd : a.eval d = .slice (some ⟨g,0,none⟩) n cap) (hs : a.eval s = .slice sp m scap) (hO : OwnC w base g n cap zs) (wz : Wd zs) (hR : Reads w B sp m scap rs) (hm : m <= n)
 (h : ∀ w' us,Hid (OwnC w' base g n cap us) -> Hid (∀ j,us[j]?.getD 0 = if j < m then rs[j]?.getD 0 else zs[j]?.getD 0) -> Wd us -> w.grownBy w' (some g) -> wpList Tryz.prog ops Q rest (a.put o.dst (goInt m)) w') :
 wpList Tryz.prog ops Q (o :: rest) a w:=by
 obtain ⟨i0,hi,hz0,hz1,hz2⟩:=info_parts Tryz.infoW
 have hlr:=hR.1
 have hlz:=hO.len
 by_cases h0 : m = 0
 · subst h0
   refine wpList_copy_nothing hgd d s _ _ ho 69 Tryz.underlying22 (by rw [hi]; simp [hz1]) _ sp n cap 0 scap hd hs (Nat.zero_min _) ?_
   exact h w zs hO (fun j => by rw [if_neg (by omega)]) wz (World.grownBy.refl _ _)
 · obtain ⟨ad,rfl,hcs⟩:=copy_cells hR m (Nat.le_refl _) (by omega)
   rw [List.take_of_length_le (by omega)] at hcs
   rcases hO.2 with ⟨h',_⟩ | ⟨g',cap',cur,h',hb,hg,hnc,hcm,hsz,ht⟩
   · simp at h'
   · simp only [Value.slice.injEq,Option.some.injEq,Addr.mk.injEq,and_true,true_and] at h'
     obtain ⟨rfl,rfl⟩:=h'
     have hlen : (rs.map (Value.int .u32)).length = m:=by simp [hlr]
     have hzl : (zs.map (Value.int .u32)).length = n:=by simp [hlz]
     rw [Nat.mul_one] at ht hsz
     refine wpList_copy_own hgd d s _ _ ho 69 Tryz.underlying22 (by rw [hi]; simp [hz1]) g 0 n cap ad m scap hd hs cur 69 hg (rs.map (Value.int .u32)) (by rw [hlen]; exact (Nat.min_eq_left hm).symm) hcs (by rw [hlen,hsz]; omega) (ints_oneCell _ _) ?_
     rw [hlen]
     refine h _ (rs ++ zs.drop m) ?_ (fun j => ?_) (hR.2.1.append (wz.drop m)) ?_
     · refine ⟨by simp; omega,.inr ⟨g,cap,_,rfl,hb,setRow_heap w g cur _ _ _ hg,hnc,hcm,by simp [hsz,hlr]; omega,?_⟩⟩
       rw [Nat.mul_one]
       simp only [List.take_zero,List.nil_append,Nat.zero_add]
       rw [List.map_append,List.map_drop,<- ht]
       have e1 : n = (rs.map (Value.int .u32)).length + (n - m):=by rw [hlen]; omega
       conv => lhs; rw [e1]
       rw [List.take_length_add_append,<- List.drop_take]
     · rw [List.getElem?_append,hlr]
       by_cases c : j < m
       · rw [if_pos c,if_pos c]
       · rw [if_neg c,if_neg c,List.getElem?_drop,show m + (j - m) = j by omega]
     · exact ⟨rfl,rfl,rfl,by simp [World.setRow],fun k hk hne => setRow_other w g k _ (fun e => hne (by rw [e]))⟩
theorem OwnC.reads {w : World} {base g n cap : Nat} {ys : List Int} (h : OwnC w base g n cap ys) (hw : Wd ys) : Reads w w.heap.size (some ⟨g,0,none⟩) n cap ys:=by
 obtain ⟨a,c,hv,hr⟩:=Reads.own h hw
 simp only [Value.slice.injEq] at hv
 obtain ⟨rfl,_,rfl⟩:=hv
 exact hr
theorem OwnC.sl {w : World} {base g n cap : Nat} {ys : List Int} (h : OwnC w base g n cap ys) (hw : Wd ys) : Sl w (.slice (some ⟨g,0,none⟩) n cap) ys:=by
 have e:=h.len
 subst e
 exact ⟨_,_,rfl,h.reads hw⟩
set_option maxRecDepth 100000 in
theorem replace_any (base gx gy n capx capy : Nat) (xs ys : List Int) (w : World) (hx : OwnC w base gx n capx xs) (hy : OwnC w base gy n capy ys) (hne : gx ≠ gy) (wx : Wd xs) (wy : Wd ys) (hn : n <= 8192) (tx : Trimmed xs) (h0 : 0 < sz ys) :
 Calls Tryz.prog 263 #[.slice (some ⟨gx,0,none⟩) n capx,.slice (some ⟨gy,0,none⟩) n capy] w fun e w' => ∃ (us : List Int) (q : Int),e = .returned (.tuple #[]) /\ OwnC w' base gx n capx us /\ OwnC w' base gy n capy ys /\ Wd us /\
  val xs = q * val ys + val us /\ val us < val ys /\ Below base w w':=by
 have bx:=hx.base
 have by':=hy.base
 have cx:=hx.cap
 have cy:=hy.cap
 have lx:=hx.len
 have ly:=hy.len
 have sy:=sz_le ys
 unfold maxLen at cx cy
 have HSZ:=hid (size_any _ _ _ ys _ w (hy.reads wy) (by omega))
 have hyt : OwnC w base gy (sz ys) capy (trimmed ys):=hy.take (sz ys) (by omega)
 have HDV:=hid (divide_any _ _ xs (trimmed ys) w (hx.sl wx) (hyt.sl wy.trimmed) (by omega) (by rw [length_trimmed]; omega) tx (Trimmed.trimmed _) (by rw [length_trimmed]; exact h0))
 have HOX:=hid hx
 have HOY:=hid hy
 have hszn : sz ys <= n:=by omega
 have hsc : sz ys <= capy:=by omega
 have n0 : 0 < n:=by omega
 have hvl : val ys < 4294967296 ^ n:=by have:=val_lt wy; rw [ly] at this; exact this
 have HVL:=hid hvl
 have HVT:=hid (val_trimmed ys)
 clear hx hy hyt lx ly sy hvl
 obtain ⟨S,hS⟩ : ∃ S,sz ys = S:=⟨_,rfl⟩
 rw [hS] at HSZ HDV hszn hsc h0
 clear hS
 go_enter Tryz.func263,Tryz.ntmps263
 go_wp2_with fail
 refine Calls.mono HSZ.out ?_
 rintro e w' ⟨rfl,rfl⟩
 go_wp2_with fail
 refine Calls.mono HDV.out ?_
 rintro e w1 ⟨v1,u1,q,r,c,rfl,oq,orr,_,_,_,_,wq,wR,tq,tr,hv,hlt,hb1⟩
 rw [HVT.out] at hv hlt
 obtain ⟨a1,c1,rfl,hrr⟩:=Reads.own orr wR
 have lr : r.length <= n:=len_of_lt wR tr (by have:=HVL.out; omega)
 have ox1 : OwnC w1 base gx n capx xs:=owns_later HOX.out hb1
 have oy1 : OwnC w1 base gy n capy ys:=owns_later HOY.out hb1
 have hs1:=hb1.size
 obtain ⟨us,ou,hu0,_,hgu⟩:=clear_cells n 0 w1 xs ox1
 have hcl : ∀ ty,(Builtin.clear_ #[22] ty #[.slice (some ⟨gx,0,none⟩) n capx]).run Tryz.prog w1 = .ok (.tuple #[]) (w1.setCells gx 0 (List.replicate n (.int .u32 0))):=fun ty =>
  Go.Lib.run_clear_slice w1 22 69 ty (.int .u32 0) Tryz.underlying22 (fun w => Tryz.zeroValue69 w) rfl rfl gx 0 n capx n0 (fun j hj => by rw [Nat.zero_add,ox1.cell j hj]; rfl) (fun j hj => by rw [Nat.zero_add]; exact ox1.free j)
 have oy2:=World.ownsRow.kept oy1 hgu (by right; intro e; simp [Value.ownBlock] at e; omega)
 have hb2 : Below base w1 (w1.setCells gx 0 (List.replicate n (.int .u32 0))):=(Below.refl _ _).grown hgu (by omega) (fun k hk => by simp at hk; omega)
 have hrr2 : Reads (w1.setCells gx 0 (List.replicate n (.int .u32 0))) w1.heap.size a1 r.length c1 r:=by
  obtain ⟨r1,r2,r3,r4⟩:=hrr
  refine ⟨r1,r2,r3.imp id ?_,r4⟩
  rintro ⟨b,o,rfl,hb,hc⟩
  refine ⟨b,o,rfl,hb,fun j hj => ?_⟩
  have hbb:=orr.lt b rfl
  exact hgu.cell (hc j hj) (by intro e; simp at e; omega)
 have hul:=ou.len
 have hus : ∀ j : Nat,us[j]?.getD 0 = 0:=fun j => by
  by_cases cj : j < n
  · exact hu0 j (Nat.zero_le _) (by omega)
  · rw [List.getElem?_eq_none (by omega)]; rfl
 have wu : Wd us:=fun z hz => by
  obtain ⟨j,hj,rfl⟩:=List.mem_iff_getElem.1 hz
  have:=hus j
  rw [List.getElem?_eq_getElem hj] at this
  simp at this
  omega
 have hbB : Below base w (w1.setCells gx 0 (List.replicate n (.int .u32 0))):=(hb1.mono (by omega)).trans hb2
 have HUS:=hid hus
 have HOU:=hid ou
 have HOY2:=hid oy2
 have HRR:=hid hrr2
 have HBB:=hid hbB
 have HV:=hid (And.intro hv hlt)
 have hs2:=hgu.size
 generalize w1.setCells gx 0 (List.replicate n (.int .u32 0)) = w2 at *
 clear oq orr hv hlt hb1 hrr ox1 oy1 ou hu0 hgu oy2 hb2 hrr2 hul hus hbB HOX HOY HSZ HDV
 go_wp2_with (refine copy_into rfl (.tmp 16) (.tmp 17) rfl base gx n capx us a1 r.length c1 _ r rfl rfl HOU.out wu HRR.out lr ?_)
 intro w3 ts HO3 HE3 wt hg3
 have HF : Hid (OwnC w3 base gy n capy ys):=World.ownsRow.kept HOY2.out hg3 (by right; intro e; simp [Value.ownBlock] at e; omega)
 have hb3 : Below base w w3:=HBB.out.trans ((Below.refl _ _).grown hg3 (by omega) (fun k hk => by simp at hk; omega))
 have HVV : Hid (val ts = val r):=val_eq_of (fun j => by
  rw [HE3.out j]
  split
  · rfl
  · rw [HUS.out j,List.getElem?_eq_none (by omega)]; rfl)
 clear hg3
 go_wp2_with fail
 go_end0
 exact ⟨ts,val q,rfl,HO3.out,HF.out,wt,by rw [HVV.out]; exact HV.out.1,by rw [HVV.out]; exact HV.out.2,hb3⟩
theorem val_take {zs : List Int} (k : Nat) (h : sz zs <= k) : val (zs.take k) = val zs:=val_eq_of fun j => by
 rw [List.getElem?_take]
 split
 · rfl
 · rw [sz_behind zs j (by omega)]; rfl
theorem sz_mono {us vs : List Int} (wu : Wd us) (wv : Wd vs) (h : val vs <= val us) : sz vs <= sz us:=by
 have:=len_le_of_val wu.trimmed wv.trimmed (Trimmed.trimmed vs) (by rw [val_trimmed,val_trimmed]; exact h)
 rwa [length_trimmed,length_trimmed] at this
theorem list_same {us xs : List Int} (hl : us.length = xs.length) (h : ∀ j : Nat,us[j]?.getD 0 = xs[j]?.getD 0) : us = xs:=by
 refine List.ext_getElem hl (fun j h1 h2 => ?_)
 have:=h j
 rwa [List.getElem?_eq_getElem h1,List.getElem?_eq_getElem h2] at this
theorem two_made (wc : World) (base n : Nat) (M : Array Value) (hb : base <= wc.heap.size) (hn : n <= 8192) (hM : M = ((List.replicate n (0 : Int)).map (Value.int .u32)).toArray) :
 OwnC ((wc.alloc (.cells M 69)).alloc (.cells M 69)).drew base wc.heap.size n n (List.replicate n 0) /\ OwnC ((wc.alloc (.cells M 69)).alloc (.cells M 69)).drew base (wc.heap.size + 1) n n (List.replicate n 0) /\ Below wc.heap.size wc ((wc.alloc (.cells M 69)).alloc (.cells M 69)).drew:=by
 subst hM
 have m : n <= maxLen:=by unfold maxLen; omega
 have h1 : OwnC (wc.alloc (.cells ((List.replicate n (0 : Int)).map (Value.int .u32)).toArray 69)) base wc.heap.size n n (List.replicate n 0):=whole_row (Box.made wc _ _) (by simp) hb m
 have h2 : OwnC ((wc.alloc (.cells ((List.replicate n (0 : Int)).map (Value.int .u32)).toArray 69)).alloc (.cells ((List.replicate n (0 : Int)).map (Value.int .u32)).toArray 69)) base (wc.heap.size + 1) n n (List.replicate n 0):=by
  have:=Box.made (wc.alloc (.cells ((List.replicate n (0 : Int)).map (Value.int .u32)).toArray 69)) 69 ((List.replicate n (0 : Int)).map (Value.int .u32)).toArray
  rw [show (wc.alloc (.cells ((List.replicate n (0 : Int)).map (Value.int .u32)).toArray 69)).heap.size = wc.heap.size + 1 by simp] at this
  exact whole_row this (by simp) (by omega) m
 exact ⟨owns_later h1 (alloc_later _ _).drew,h2,(bt (alloc_later _ _) (alloc_later _ _)).drew⟩
set_option maxRecDepth 100000 in
theorem commonDivisor_any (v u : Value) (xs ys : List Int) (w : World) (h : Sl w v xs) (g : Sl w u ys) (hn : xs.length <= 8192) (hm : ys.length <= 8192) (hx : Trimmed xs) (hy : Trimmed ys) :
 Calls Tryz.prog 233 #[v,u] w (Told1 w (gcdI (val xs) (val ys))):=by
 obtain ⟨i0,hi,hz0,hz1,hz2⟩:=info_parts Tryz.infoW
 have CC:=hid (compare_sl v u xs ys w h g (by omega) (by omega))
 have wx:=h.wd
 have wy:=g.wd
 obtain ⟨a,cap,rfl,hr⟩:=h
 obtain ⟨b,cap',rfl,gr⟩:=g
 obtain ⟨c,hc⟩ : ∃ c,cmpI (val xs) (val ys) = c:=⟨_,rfl⟩
 rw [hc] at CC
 have HC:=hid hc
 have HX:=hid hr
 have HY:=hid gr
 clear hc hr gr
 go_enter Tryz.func233,Tryz.ntmps233
 go_upto_if 12 with (go_at_call 260; refine Calls.mono CC.out ?_; rintro x w1 ⟨rfl,hb1⟩)
 go_cut [0,1] from 13 to 14 (fun s0 s1 wx => ∃ (a0 : Option Addr) (n cp : Nat) (b0 : Option Addr) (m cp' : Nat) (x1 y1 : List Int),s0 = .slice a0 n cp /\ s1 = .slice b0 m cp' /\ Hid (Reads wx w.heap.size a0 n cp x1) /\ Hid (Reads wx w.heap.size b0 m cp' y1) /\ Hid (Trimmed x1) /\ n <= 8192 /\ m <= n /\ Hid (val y1 <= val x1) /\ Hid (gcdI (val x1) (val y1) = gcdI (val xs) (val ys)) /\ Below w.heap.size w wx)
 case first =>
  have HB1:=hid hb1
  by_cases hlt : val xs < val ys
  · have hc1 : c = -1:=by rw [<- HC.out,cmpI_lt hlt]
    have HL:=hid hlt
    clear hlt
    subst hc1
    go_wp2_with fail
    go_meet
    case rel => exact ⟨_,_,_,_,_,_,ys,xs,rfl,rfl,HY.out.later HB1.out (Nat.le_refl _),HX.out.later HB1.out (Nat.le_refl _),hy,hm,len_le_of_val wy wx hx (Int.le_of_lt HL.out),Int.le_of_lt HL.out,gcdI_comm _ _,HB1.out⟩
  · have hci : 0 <= c:=by rw [<- HC.out]; unfold cmpI; rw [if_neg hlt]; split <;> omega
    have HL : Hid (val ys <= val xs):=by show _ <= _; omega
    clear hlt
    go_wp2_with fail
    go_meet
    case rel => exact ⟨_,_,_,_,_,_,xs,ys,rfl,rfl,HX.out.later HB1.out (Nat.le_refl _),HY.out.later HB1.out (Nat.le_refl _),hx,hn,len_le_of_val wx wy hy HL.out,HL.out,rfl,HB1.out⟩
 case rest =>
  obtain ⟨a0,n,cp,b0,m,cp',x1,y1,rfl,rfl,HR1,HR2,HT1,n8,hmn,HLE,HG,hbel⟩:=hcut
  clear HX HY CC HC wx wy hn hm hx hy
  go_upto_region 3 with fail
  go_cut [5,6] from 15 to 20 (fun s5 s6 wx => ∃ g1 g2 : Nat,s5 = .slice (some ⟨g1,0,none⟩) n n /\ s6 = .slice (some ⟨g2,0,none⟩) n n /\ g1 ≠ g2 /\ OwnC wx w.heap.size g1 n n (List.replicate n 0) /\ OwnC wx w.heap.size g2 n n (List.replicate n 0) /\ Below wc.heap.size wc wx)
  case first =>
   obtain ⟨M,hM⟩ : ∃ M,madeCells #[Value.int .u32 0] n = M:=⟨_,rfl⟩
   have hmk : ∀ ww,(Instr.makeSlice 22 (.int .i64 (n : Int)) (.int .i64 (n : Int))).run Tryz.prog ww = .ok (.slice (some ⟨ww.heap.size,0,none⟩) n n) (ww.alloc (.cells M 69)):=fun ww => by
    have:=run_make (P:=Tryz.prog) ww 22 69 i0 (.int .u32 0) Tryz.underlying22 hi hz0 .i64 .i64 (n : Int) (n : Int) (by omega) (by omega) (by rw [hz2]; omega) (by omega)
    rw [hz1,Int.toNat_natCast,Nat.mul_one,show (Value.int .u32 0).cells = #[Value.int .u32 0] from rfl,hM] at this
    exact this
   have HM : Hid (M = ((List.replicate n (0 : Int)).map (Value.int .u32)).toArray):=by
    show _ = _
    rw [<- made_words,hM]
   clear hM
   have HTM:=hid (two_made wc w.heap.size n M hbel.size n8 HM.out)
   clear HM
   go_region
   all_goals go_wp2_with fail
   all_goals go_meet
   · exact ⟨_,_,rfl,rfl,by omega,HTM.out.1,HTM.out.2.1,HTM.out.2.2⟩
   · exact ⟨_,_,rfl,rfl,by omega,HTM.out.2.1,HTM.out.1,HTM.out.2.2⟩
  case rest =>
   rename World => w5
   obtain ⟨g1,g2,rfl,rfl,hne,o1,o2,hb2⟩:=hcut
   have hbA:=hbel.trans (hb2.mono hbel.size)
   have HR1':=hid (HR1.out.later (hb2.mono hbel.size) (Nat.le_refl _))
   have HR2':=hid (HR2.out.later (hb2.mono hbel.size) (Nat.le_refl _))
   have l1:=HR1.out.1
   have l2:=HR2.out.1
   have wx1:=HR1.out.2.1
   have wy1:=HR2.out.2.1
   have b1:=o1.base
   have b2:=o2.base
   have HO1:=hid o1
   have HO2:=hid o2
   clear o1 o2 hbel hb2 HR1 HR2 hb1
   go_wp2_with (refine copy_into rfl (.tmp 21) (.tmp 22) rfl w.heap.size g1 n n (List.replicate n 0) a0 n cp _ x1 rfl rfl HO1.out (Wd.replicate n) HR1'.out (Nat.le_refl _) ?_)
   intro w6 us HU HUE wu hg6
   have hus : us = x1:=list_same (by rw [HU.out.len,l1]) (fun j => by
    rw [HUE.out j]
    split
    · rfl
    · rw [List.getElem?_eq_none (by simp; omega),List.getElem?_eq_none (by omega)])
   subst hus
   have hb6 : Below w.heap.size w5 w6:=(Below.refl _ _).grown hg6 (by omega) (fun k hk => by simp at hk; omega)
   have o2' : OwnC w6 w.heap.size g2 n n (List.replicate n 0):=World.ownsRow.kept HO2.out hg6 (by right; intro e; simp [Value.ownBlock] at e; omega)
   have HO2':=hid o2'
   have hbB:=hbA.trans hb6
   have HR2b:=hid (HR2'.out.later hb6 (Nat.le_refl _))
   have hs6:=hb6.size
   clear o2' hb6 hg6 HUE hbA HO1 HO2 HR1' HR2'
   go_wp2_with (refine copy_into rfl (.tmp 24) (.tmp 25) rfl w.heap.size g2 n n (List.replicate n 0) b0 m cp' _ y1 rfl rfl HO2'.out (Wd.replicate n) HR2b.out hmn ?_)
   intro w7 vs HVO HVE wv hg7
   have hvv : val vs = val y1:=val_eq_of (fun j => by
    rw [HVE.out j]
    split
    · rfl
    · rw [List.getElem?_eq_none (by omega : y1.length <= j),List.getElem?_replicate]
      split <;> rfl)
   have o1' : OwnC w7 w.heap.size g1 n n us:=World.ownsRow.kept HU.out hg7 (by right; intro e; simp [Value.ownBlock] at e; omega)
   have hbC:=hbB.trans ((Below.refl _ w6).grown hg7 (by omega) (fun k hk => by simp at hk; omega))
   have HO1:=hid o1'
   rw [<- hvv] at HLE HG
   clear o1' hg7 HVE hbB HO2' HR2b HU hvv b1 b2 hs6
   generalize hGG : gcdI (val xs) (val ys) = G at *
   clear hGG
   go_wp2_with fail
   go_loopg [5,6] (val us + val vs).toNat (fun k s5 s6 wr => ∃ (g1 g2 q : Nat) (us vs : List Int),s5 = .slice (some ⟨g1,0,none⟩) q n /\ s6 = .slice (some ⟨g2,0,none⟩) q n /\ q <= n /\ g1 ≠ g2 /\ OwnC wr w.heap.size g1 q n us /\ OwnC wr w.heap.size g2 q n vs /\ Wd us /\ Wd vs /\ Hid (Trimmed us) /\ Hid (val vs <= val us) /\ Hid ((k : Int) = val us + val vs) /\ Hid (gcdI (val us) (val vs) = G) /\ Below w.heap.size w wr)
   case atStart =>
    have n1:=val_nonneg wu
    have n2:=val_nonneg wv
    exact ⟨g1,g2,n,us,vs,rfl,rfl,Nat.le_refl _,hne,HO1.out,HVO.out,wu,wv,HT1,HLE,(show _ = _ by omega),HG,hbC⟩
   case round =>
    clear HO1 HVO HT1 HLE HG hbC wu wv hne wx1 wy1 l1 l2
    obtain ⟨h1,h2,q,xx,yy,rfl,rfl,hq,hne,o1,o2,wxx,wyy,HT,HLE,HK,HG,hbel⟩:=hrel
    have b1:=o1.base
    have b2:=o2.base
    have l1:=o1.len
    have l2:=o2.len
    have sy:=sz_le yy
    rw [l2] at sy
    have HSZ:=hid (fun ww (hb : Below wr.heap.size wr ww) => size_any _ _ _ yy _ ww ((o2.reads wyy).later hb hb.size) (by omega))
    by_cases hs : 2 < sz yy
    · obtain ⟨e,rfl⟩ : ∃ e,q = e + 3:=⟨q - 3,by omega⟩
      have ht3 : sz xx = e + 3:=by have:=HT.out; unfold Trimmed at this; omega
      have tb:=wxx.at (e + 2)
      have tt:=sz_top xx (by omega)
      rw [ht3,show e + 3 - 1 = e + 2 by omega] at tt
      have HLK:=hid (look_any _ e n xx _ n yy wr (o1.reads wxx) (o2.reads wyy) (by omega) (by omega) HLE.out)
      have hs' : (2 : Int) < (sz yy : Int):=by omega
      have HSY:=hid hs
      have nx:=val_nonneg wxx
      have ny:=val_nonneg wyy
      have HO1:=hid o1
      have HO2:=hid o2
      have HL1:=hid l1
      have HL2:=hid l2
      have hvx : val xx < 4294967296 ^ (e + 3):=by have:=val_lt wxx; rw [l1] at this; exact this
      have HVX:=hid hvx
      have HT3:=hid ht3
      clear tb tt o1 o2 hs hvx ht3 l1 l2
      obtain ⟨S,hS⟩ : ∃ S,sz yy = S:=⟨_,rfl⟩
      rw [hS] at HSZ hs' HSY sy
      have HS:=hid hS
      clear hS
      go_wp2_with fail
      refine Calls.mono (HSZ.out _ (Below.refl _ _)) ?_
      rintro x w' ⟨rfl,rfl⟩
      go_wp2_with fail
      refine Calls.mono HLK.out ?_
      rintro x w8 ⟨s,a,b,c,d,rfl,s0,s1,hss,hb8⟩
      have hb9 : Below wr.heap.size wr (w8.alloc (.cells #[.int .i64 s,.int .i64 a,.int .i64 b,.int .i64 c,.int .i64 d] 243)):=bt hb8 (alloc_later _ _)
      have hs9:=hb9.size
      have o1' : OwnC _ w.heap.size h1 (e + 3) n xx:=owns_later HO1.out hb9
      have o2' : OwnC _ w.heap.size h2 (e + 3) n yy:=owns_later HO2.out hb9
      rcases hss with h0 | ⟨hs1,lp⟩
      · subst h0
        have HRP:=hid (replace_any w.heap.size h1 h2 (e + 3) n n xx yy _ o1' o2' hne wxx wyy (by omega) HT.out (by have:=HS.out; have:=HSY.out; omega))
        have HB9:=hid (bt hbel hb9)
        clear o1' o2' hb9 HLK HSZ
        go_wp2_with fail
        refine Calls.mono HRP.out ?_
        rintro x w10 ⟨rs,qt,rfl,p1,p2,wrs,hv,hlt,hb10⟩
        have HSZ2:=hid (size_any _ _ _ yy _ w10 (p2.reads wyy) (by omega))
        rw [HS.out] at HSZ2
        have hbD : Below w.heap.size w w10:=HB9.out.trans hb10
        have hrs : sz rs <= S:=by have:=sz_mono wyy wrs (Int.le_of_lt hlt); rw [HS.out] at this; exact this
        have q1 : ∀ k,OwnC (w10.drewN k) w.heap.size h2 S n (yy.take S):=fun k => (p2.take S sy).drewN k
        have q2 : ∀ k,OwnC (w10.drewN k) w.heap.size h1 S n (rs.take S):=fun k => (p1.take S sy).drewN k
        have HQ1:=hid q1
        have HQ2:=hid q2
        have HV1 : Hid (val (yy.take S) = val yy):=val_take S (by rw [HS.out]; exact Nat.le_refl _)
        have HV2 : Hid (val (rs.take S) = val rs):=val_take S hrs
        have HTS : Hid (Trimmed (yy.take S)):=by
         have:=Trimmed.trimmed yy
         unfold trimmed at this
         rw [HS.out] at this
         exact this
        have HGG : Hid (gcdI (val yy) (val rs) = G):=by show _ = _; rw [<- HG.out]; exact (gcdI_rest hv).symm
        have HLT:=hid hlt
        have hSn : S <= n:=by omega
        have nr:=val_nonneg wrs
        have hne2 : h2 ≠ h1:=fun e => hne e.symm
        clear p1 p2 hv hlt hb10 q1 q2 hrs HRP
        go_wp2_with fail
        refine Calls.mono HSZ2.out ?_
        rintro x w' ⟨rfl,rfl⟩
        go_wp2_with fail
        go_quiet (fail)
        go_wp2_with fail
        go_roundg (val yy + val rs).toNat
        case rel => exact ⟨h2,h1,S,yy.take S,rs.take S,rfl,rfl,hSn,hne2,HQ1.out _,HQ2.out _,wyy.take S,wrs.take S,HTS,(show _ <= _ by rw [HV1.out,HV2.out]; exact Int.le_of_lt HLT.out),(show _ = _ by rw [HV1.out,HV2.out]; omega),(show _ = _ by rw [HV1.out,HV2.out]; exact HGG.out),bdn hbD _⟩
        case measure => have:=HK.out; have:=HLE.out; have:=HLT.out; omega
      · have HAP:=hid (apply_any w.heap.size h1 h2 (e + 3) n n xx yy s a b c d _ o1' o2' hne wxx wyy (by omega) lp.ab lp.cd (by have:=lp.pos; have:=lp.lt; omega) (by have:=lp.le; have:=HVX.out; omega) lp.pos (by have:=lp.lt; have:=lp.le; have:=HVX.out; omega))
        have HB9:=hid (bt hbel hb9)
        have HLP:=hid lp
        clear o1' o2' hb9 HLK HSZ lp
        go_wp2_with fail
        refine Calls.mono HAP.out ?_
        rintro x w10 ⟨us,vs,rfl,p1,p2,wus,wvs,hv1,hv2,hb10⟩
        have hbD : Below w.heap.size w w10:=HB9.out.trans hb10
        have HSZ2:=hid (size_any _ _ _ us _ w10 (p1.reads wus) (by omega))
        have su:=sz_le us
        rw [p1.len] at su
        obtain ⟨T,hT⟩ : ∃ T,sz us = T:=⟨_,rfl⟩
        rw [hT] at HSZ2 su
        have hvs : sz vs <= T:=by rw [<- hT]; exact sz_mono wus wvs (by rw [hv1,hv2]; exact Int.le_of_lt HLP.out.lt)
        have q1 : ∀ k,OwnC (w10.drewN k) w.heap.size h1 T n (us.take T):=fun k => (p1.take T su).drewN k
        have q2 : ∀ k,OwnC (w10.drewN k) w.heap.size h2 T n (vs.take T):=fun k => (p2.take T su).drewN k
        have HQ1:=hid q1
        have HQ2:=hid q2
        have HV1 : Hid (val (us.take T) = a * val xx + b * val yy):=by show _ = _; rw [val_take T (by omega),hv1]
        have HV2 : Hid (val (vs.take T) = c * val xx + d * val yy):=by show _ = _; rw [val_take T hvs,hv2]
        have HTS : Hid (Trimmed (us.take T)):=by
         have:=Trimmed.trimmed us
         unfold trimmed at this
         rw [hT] at this
         exact this
        have hSn : T <= n:=by omega
        have n1:=val_nonneg wus
        have n2:=val_nonneg wvs
        rw [hv1] at n1
        rw [hv2] at n2
        have HN:=hid (And.intro n1 n2)
        clear p1 p2 hv1 hv2 hb10 q1 q2 hvs HAP hT n1 n2
        go_wp2_with fail
        refine Calls.mono HSZ2.out ?_
        rintro x w' ⟨rfl,rfl⟩
        go_wp2_with fail
        go_quiet (fail)
        go_wp2_with fail
        go_roundg ((a * val xx + b * val yy) + (c * val xx + d * val yy)).toNat
        case rel => exact ⟨h1,h2,T,us.take T,vs.take T,rfl,rfl,hSn,hne,HQ1.out _,HQ2.out _,wus.take T,wvs.take T,HTS,(show _ <= _ by rw [HV1.out,HV2.out]; exact Int.le_of_lt HLP.out.lt),(show _ = _ by rw [HV1.out,HV2.out]; have:=HN.out; omega),(show _ = _ by rw [HV1.out,HV2.out,HLP.out.same]; exact HG.out),bdn hbD _⟩
        case measure => have:=HK.out; have:=HLP.out.less; have:=HN.out; omega
    · have hs' : ¬ (2 : Int) < (sz yy : Int):=by omega
      have ot : OwnC wr w.heap.size h2 (sz yy) n (trimmed yy):=o2.take (sz yy) (by omega)
      have HSD:=hid (smallDivisor_any _ _ xx (trimmed yy) wr (o1.sl wxx) (ot.sl wyy.trimmed) (by omega) HT.out (Trimmed.trimmed _) (by rw [length_trimmed]; omega))
      rw [val_trimmed,HG.out] at HSD
      have hsq : sz yy <= n:=by omega
      clear ot o1 o2
      obtain ⟨S,hS⟩ : ∃ S,sz yy = S:=⟨_,rfl⟩
      rw [hS] at HSZ hs' HSD sy hsq
      clear hS
      go_wp2_with fail
      refine Calls.mono (HSZ.out _ (Below.refl _ _)) ?_
      rintro x w' ⟨rfl,rfl⟩
      go_wp2_with fail
      refine Calls.mono (HSZ.out _ (Below.refl _ _)) ?_
      rintro x w' ⟨rfl,rfl⟩
      go_wp2_with fail
      refine Calls.mono HSD.out ?_
      rintro x w9 ⟨v9,zs,rfl,o9,w9',t9,hv9,hb9⟩
      have HO9:=hid (owns_base o9 hbel.size)
      have hb:=bt hbel hb9
      clear o9 HSD HSZ
      go_wp2_with fail
      go_ret
      exact ⟨v9,zs,rfl,HO9.out,w9',t9,hv9,hb⟩
theorem gcdI_le {x y : Int} (hx : 0 <= x) (hy : 0 <= y) : gcdI x y <= x \/ gcdI x y <= y:=by
 by_cases h : x = 0
 · subst h; right; rw [gcdI_comm,gcdI_zero y hy]; exact Int.le_refl _
 · left; exact Int.le_of_dvd (by omega) (Int.gcd_dvd_left ..)
set_option maxRecDepth 100000 in
theorem gcd_sl (v u : Value) (xs ys : List Int) (w : World) (h : Sl w v xs) (g : Sl w u ys) (hn : xs.length <= 281474976710656) (hm : ys.length <= 281474976710656) :
 Calls Tryz.prog 199 #[v,u] w (Told w (both xs ys) (gcdI (val xs) (val ys))):=by
 by_cases hb : both xs ys = 0
 · have HB:=hid (checkBoth_sl v u xs ys w h g hn hm)
   rw [hb] at HB ⊢
   obtain ⟨c1,c2⟩:=both_ok hb
   obtain ⟨lx,tx⟩:=chk_ok c1
   obtain ⟨ly,ty⟩:=chk_ok c2
   have HD:=hid (commonDivisor_any v u xs ys w h g lx ly tx ty)
   have HW : Hid (gcdI (val xs) (val ys) < wide):=by
    show _ < _
    have a1:=lt_wide (val_lt h.wd) lx
    have a2:=lt_wide (val_lt g.wd) ly
    rcases gcdI_le (val_nonneg h.wd) (val_nonneg g.wd) with e | e <;> omega
   clear h g hb c1 c2 tx ty
   go_enter Tryz.func199,Tryz.ntmps199
   go_wp2_with fail
   refine Calls.mono HB.out ?_
   rintro e w' ⟨rfl,rfl⟩
   go_wp2_with fail
   refine Calls.mono HD.out ?_
   rintro e w1 ⟨v1,zs,rfl,o1,wz,tz,hv,hbel⟩
   have HO:=hid o1
   have HV:=hid hv
   clear o1 hv HD HB
   go_wp2_with fail
   go_ret2
   exact ⟨v1,zs,0,rfl,HO.out,Tells.ok wz tz HV.out HW.out,hbel⟩
 · have HB:=hid (checkBoth_sl v u xs ys w h g hn hm)
   have HT:=hid (Tells.err (t:=gcdI (val xs) (val ys)) hb)
   have hbb : (both xs ys != 0) = true:=by simp [hb]
   obtain ⟨e,he⟩ : ∃ e,both xs ys = e:=⟨_,rfl⟩
   rw [he] at HB HT hbb hb ⊢
   clear h g he
   go_enter Tryz.func199,Tryz.ntmps199
   go_wp2_with fail
   refine Calls.mono HB.out ?_
   rintro e w' ⟨rfl,rfl⟩
   go_wp2_with fail
   go_ret2
   exact ⟨_,[],e,rfl,World.ownsRow_nil _ _ _ _,HT.out,Below.refl _ _⟩
def wchk (n : Bool) (xs : List Int) : Int:=if 2048 < xs.length then 3 else if chk xs = 0 /\ (n = false \/ 0 < xs.length) then 0 else 11
def wval (n : Bool) (xs : List Int) : Int:=if n then -(val xs) else val xs
theorem wchk_ok {n : Bool} {xs : List Int} (h : wchk n xs = 0) : xs.length <= 2048 /\ Trimmed xs /\ (n = false \/ 0 < xs.length):=by
 unfold wchk at h
 by_cases h1 : 2048 < xs.length
 · rw [if_pos h1] at h; omega
 · rw [if_neg h1] at h
   by_cases h2 : chk xs = 0 /\ (n = false \/ 0 < xs.length)
   · exact ⟨by omega,(chk_ok h2.1).2,h2.2⟩
   · rw [if_neg h2] at h; omega
theorem wchk_good {n : Bool} {xs : List Int} (hl : xs.length <= 2048) (ht : Trimmed xs) (hn : n = false \/ 0 < xs.length) : wchk n xs = 0:=by
 unfold wchk
 rw [if_neg (by omega),if_pos ⟨chk_good (by omega) ht,hn⟩]
set_option maxRecDepth 100000 in
theorem wcheck_any (n : Bool) (v : Value) (xs : List Int) (w : World) (h : Sl w v xs) (hn : xs.length <= 281474976710656) :
 Calls Tryz.prog 188 #[.agg #[.bool n,v]] w fun e w' => e = .returned (.int .i64 (wchk n xs)) /\ Below w.heap.size w w':=by
 have HB:=hid (alloc_later w (.cells #[.bool n,v] 152))
 have HC:=hid (check_sl v xs _ (h.later HB.out) hn)
 obtain ⟨a,cap,rfl,hr⟩:=h
 clear hr
 obtain ⟨k,hk⟩ : ∃ k,xs.length = k:=⟨_,rfl⟩
 by_cases h1 : 2048 < k
 · have HW : Hid (wchk n xs = 3):=by show _ = _; unfold wchk; rw [if_pos (by omega)]
   rw [hk] at HB HC ⊢
   have h1' : (2048 : Int) < (k : Int):=by omega
   clear hk
   go_enter Tryz.func188,Tryz.ntmps188
   go_wp2_with fail
   go_ret
   exact ⟨ret_int HW.out.symm,HB.out⟩
 · have h1' : ¬ (2048 : Int) < (k : Int):=by omega
   by_cases h2 : chk xs = 0
   · rw [h2] at HC
     cases n with
     | false =>
      have HW : Hid (wchk false xs = 0):=by show _ = _; unfold wchk; rw [if_neg (by omega),if_pos ⟨h2,.inl rfl⟩]
      rw [hk] at HB HC ⊢
      clear hk h2
      go_enter Tryz.func188,Tryz.ntmps188
      go_wp2_with fail
      refine Calls.mono HC.out ?_
      rintro e w' ⟨rfl,rfl⟩
      go_wp2_with fail
      go_ret
      exact ⟨ret_int HW.out.symm,HB.out⟩
     | true =>
      rcases Nat.eq_zero_or_pos k with h3 | h3
      · have HW : Hid (wchk true xs = 11):=by
         show _ = _
         unfold wchk
         rw [if_neg (by omega),if_neg (fun h => h.2.elim (fun e => by cases e) (fun e => by omega))]
        rw [hk] at HB HC ⊢
        clear hk h2
        subst h3
        go_enter Tryz.func188,Tryz.ntmps188
        go_wp2_with fail
        refine Calls.mono HC.out ?_
        rintro e w' ⟨rfl,rfl⟩
        go_wp2_with fail
        go_ret
        exact ⟨ret_int HW.out.symm,HB.out⟩
      · have HW : Hid (wchk true xs = 0):=by show _ = _; unfold wchk; rw [if_neg (by omega),if_pos ⟨h2,.inr (by omega)⟩]
        rw [hk] at HB HC ⊢
        have h3' : ((k : Int) == 0) = false:=by simp; omega
        clear hk h2
        go_enter Tryz.func188,Tryz.ntmps188
        go_wp2_with fail
        refine Calls.mono HC.out ?_
        rintro e w' ⟨rfl,rfl⟩
        go_wp2_with fail
        go_ret
        exact ⟨ret_int HW.out.symm,HB.out⟩
   · have HW : Hid (wchk n xs = 11):=by show _ = _; unfold wchk; rw [if_neg (by omega),if_neg (fun h => h2 h.1)]
     have hne : (chk xs != 0) = true:=by simp [h2]
     obtain ⟨c,hc⟩ : ∃ c,chk xs = c:=⟨_,rfl⟩
     rw [hc] at HC hne
     rw [hk] at HB HC ⊢
     clear hk h2 hc
     go_enter Tryz.func188,Tryz.ntmps188
     go_wp2_with fail
     refine Calls.mono HC.out ?_
     rintro e w' ⟨rfl,rfl⟩
     go_wp2_with fail
     go_ret
     exact ⟨ret_int HW.out.symm,HB.out⟩
def wboth (n : Bool) (xs : List Int) (m : Bool) (ys : List Int) : Int:=if wchk n xs = 0 then wchk m ys else wchk n xs
theorem wboth_good {n m : Bool} {xs ys : List Int} (h : wchk n xs = 0) (g : wchk m ys = 0) : wboth n xs m ys = 0:=by unfold wboth; rw [if_pos h,g]
theorem wboth_ok {n m : Bool} {xs ys : List Int} (h : wboth n xs m ys = 0) : wchk n xs = 0 /\ wchk m ys = 0:=by
 unfold wboth at h
 by_cases c : wchk n xs = 0
 · rw [if_pos c] at h; exact ⟨c,h⟩
 · rw [if_neg c] at h; exact absurd h c
set_option maxRecDepth 100000 in
theorem formed_any (n : Bool) (a : Option Addr) (k cap : Nat) (w : World) :
 Calls Tryz.prog 304 #[.bool n,.slice a k cap] w fun e w' => e = .returned (.agg #[.bool (n && decide (0 < k)),.slice a k cap]) /\ Below w.heap.size w w':=by
 have HB:=hid (alloc_later w (.cells #[.bool (n && decide (0 < k)),.slice a k cap] 152))
 cases n with
 | false =>
  go_enter Tryz.func304,Tryz.ntmps304
  go_wp2_with fail
  go_returns
  exact ⟨rfl,HB.out⟩
 | true =>
  by_cases hk : 0 < k
  · have hk' : (0 : Int) < (k : Int):=by omega
    have hd : decide (0 < k) = true:=decide_eq_true hk
    rw [hd] at HB ⊢
    clear hd
    go_enter Tryz.func304,Tryz.ntmps304
    go_wp2_with fail
    go_returns
    exact ⟨rfl,HB.out⟩
  · obtain rfl : k = 0:=by omega
    go_enter Tryz.func304,Tryz.ntmps304
    go_wp2_with fail
    go_returns
    exact ⟨rfl,HB.out⟩
theorem res_box {X w1 : World} {b t : Nat} {v0 v1 : Value} (hX : Box X b t #[v0,v1]) (hb : Below X.heap.size X w1) : w1.cell? ⟨b,0,none⟩ = some v0 /\ w1.cell? ⟨b,1,none⟩ = some v1 /\ w1.frozen? ⟨b,0,none⟩ = false /\ w1.frozen? ⟨b,1,none⟩ = false:=by
 have h:=hX.later hb hX.lt
 exact ⟨h.cell 0,h.cell 1,h.free 0,h.free 1⟩
theorem below_put2 {B : Nat} {a w : World} (h : Below B a w) (b : Nat) (hb : B <= b) (v0 v1 : Value) : Below B a ((w.setCell ⟨b,0,none⟩ v0).setCell ⟨b,1,none⟩ v1) :=
 (h.setCell (p:=⟨b,0,none⟩) hb _).setCell (p:=⟨b,1,none⟩) hb _
theorem grown_set (w : World) (p : Addr) (v : Value) : w.grownBy (w.setCell p v) (some p.block):=⟨rfl,rfl,rfl,by simp [World.setCell],fun k hk hne => Below.heap_setCell w p v k (fun e => hne (by rw [e]))⟩
theorem own_put2 {w : World} {base e n : Nat} {v : Value} {xs : List Value} (h : w.ownsRow base e 1 v n xs) (b : Nat) (hb : ∀ g,v.ownBlock = some g -> g ≠ b) (v0 v1 : Value) : ((w.setCell ⟨b,0,none⟩ v0).setCell ⟨b,1,none⟩ v1).ownsRow base e 1 v n xs:=by
 have hne : v.ownBlock = none \/ v.ownBlock ≠ some b:=by
  cases hv : v.ownBlock with
  | none => exact .inl rfl
  | some g => right; intro e; exact hb g hv (Option.some.inj e)
 exact World.ownsRow.kept (World.ownsRow.kept h (grown_set w ⟨b,0,none⟩ v0) hne) (grown_set _ ⟨b,1,none⟩ v1) hne
def WIs (w : World) (t : Int) (x : Ending) (w' : World) : Prop:=∃ n v zs,x = .returned (.agg #[.bool n,v]) /\ w'.ownsRow w.heap.size 69 1 v zs.length (zs.map (Value.int .u32)) /\ Wd zs /\ Trimmed zs /\ zs.length <= 2 /\ (n = false \/ 0 < zs.length) /\ wval n zs = t /\ Below w.heap.size w w'
theorem of_val (x : Int) (h0 : 0 <= x) (h1 : x <= 18446744073709551615) : val (trimmed [x % 4294967296,x / 4294967296]) = x:=by
 rw [val_trimmed,val_two]; omega
set_option maxRecDepth 100000 in
theorem wof_any (x : Int) (w : World) (h0 : -9223372036854775808 <= x) (h1 : x <= 9223372036854775807) :
 Calls Tryz.prog 290 #[.int .i64 x] w (WIs w x):=by
 have HB:=hid (alloc_later w (.cells #[.bool false,.slice none 0 0] 152))
 obtain ⟨y,hy⟩ : ∃ y : Int,y = (x.natAbs : Int):=⟨_,rfl⟩
 have y0 : 0 <= y /\ y <= 18446744073709551615:=by omega
 have HO:=hid (of_any y (w.alloc (.cells #[.bool false,.slice none 0 0] 152)) y0.1 y0.2)
 have HV:=hid (of_val y y0.1 y0.2)
 have hw:=of_wd y y0.1 y0.2
 have HT:=hid (Trimmed.trimmed [y % 4294967296,y / 4294967296])
 have HWD:=hid hw.trimmed
 have HLE : Hid (sz [y % 4294967296,y / 4294967296] <= 2):=sz_le _
 have HLN:=hid (length_trimmed [y % 4294967296,y / 4294967296])
 by_cases hx : x < 0
 · have hyx : y = -x:=by omega
   have hc : IntKind.u64.wrap x = 18446744073709551616 + x:=by rw [IntKind.wrap_u64]; omega
   have hc2 : IntKind.u64.wrap (-(18446744073709551616 + x)) = y:=by rw [IntKind.wrap_u64]; omega
   have HYX:=hid hyx
   generalize trimmed [y % 4294967296,y / 4294967296] = zs at *
   generalize sz [y % 4294967296,y / 4294967296] = k at *
   clear hy hyx hw
   go_enter Tryz.func290,Tryz.ntmps290
   go_wp2_with fail
   refine Calls.mono HO.out ?_
   rintro e w1 ⟨v1,rfl,o1,hb1⟩
   obtain ⟨a1,c1,hv1⟩:=own_slice' o1
   subst hv1
   have HF:=hid (formed_any true a1 k c1 w1)
   have hs1:=hb1.size
   have HO1:=hid o1
   obtain ⟨nb,hnb⟩ : ∃ nb,(true && decide (0 < k)) = nb:=⟨_,rfl⟩
   rw [hnb] at HF
   have HNB:=hid hnb
   clear o1 hnb HO
   go_wp2_with fail
   refine Calls.mono HF.out ?_
   rintro e w2 ⟨rfl,hb2⟩
   obtain ⟨r0,r1,f0,f1⟩:=res_box (Box.made w _ _) (bt hb1 hb2)
   have HBW:=hid (bt HB.out (bt hb1 hb2))
   have HO2:=hid (owns_later HO1.out hb2)
   clear hb1 hb2
   go_wp2_with fail
   refine bodyPost_ret (v:=.agg #[.bool nb,.slice a1 k c1]) (by simp [results,Tryz.results290,go_sem,r0,r1]) rfl ?_
   refine ⟨nb,_,zs,rfl,?_,HWD.out,HT.out,by rw [HLN.out]; exact HLE.out,?_,?_,below_put2 HBW.out _ (Nat.le_refl _) _ _⟩
   · rw [HLN.out]
     exact owns_base (own_put2 HO2.out w.heap.size (fun g hg => by have:=(World.ownsRow.lt HO2.out g hg).1; simp at this; omega) _ _) (by simp)
   · rw [<- HNB.out,HLN.out]; by_cases c : 0 < k <;> simp [c]
   · have hkp : 0 < k:=by
      by_cases c : 0 < k
      · exact c
      · have e0 : zs = []:=List.eq_nil_of_length_eq_zero (by rw [HLN.out]; omega)
        have:=HV.out
        rw [e0,val_nil] at this
        have:=HYX.out
        omega
     rw [<- HNB.out,show (true && decide (0 < k)) = true by simp [hkp]]
     show -(val zs) = x
     rw [HV.out,HYX.out]; omega
 · have hyx : y = x:=by omega
   have hc : IntKind.u64.wrap x = y:=by rw [IntKind.wrap_u64]; omega
   have HYX:=hid hyx
   generalize trimmed [y % 4294967296,y / 4294967296] = zs at *
   generalize sz [y % 4294967296,y / 4294967296] = k at *
   clear hy hyx hw
   go_enter Tryz.func290,Tryz.ntmps290
   go_wp2_with fail
   refine Calls.mono HO.out ?_
   rintro e w1 ⟨v1,rfl,o1,hb1⟩
   obtain ⟨a1,c1,hv1⟩:=own_slice' o1
   subst hv1
   have HF:=hid (formed_any false a1 k c1 w1)
   have hs1:=hb1.size
   have HO1:=hid o1
   obtain ⟨nb,hnb⟩ : ∃ nb,(false && decide (0 < k)) = nb:=⟨_,rfl⟩
   rw [hnb] at HF
   have HNB:=hid hnb
   clear o1 hnb HO
   go_wp2_with fail
   refine Calls.mono HF.out ?_
   rintro e w2 ⟨rfl,hb2⟩
   obtain ⟨r0,r1,f0,f1⟩:=res_box (Box.made w _ _) (bt hb1 hb2)
   have HBW:=hid (bt HB.out (bt hb1 hb2))
   have HO2:=hid (owns_later HO1.out hb2)
   clear hb1 hb2
   go_wp2_with fail
   refine bodyPost_ret (v:=.agg #[.bool nb,.slice a1 k c1]) (by simp [results,Tryz.results290,go_sem,r0,r1]) rfl ?_
   refine ⟨nb,_,zs,rfl,?_,HWD.out,HT.out,by rw [HLN.out]; exact HLE.out,?_,?_,below_put2 HBW.out _ (Nat.le_refl _) _ _⟩
   · rw [HLN.out]
     exact owns_base (own_put2 HO2.out w.heap.size (fun g hg => by have:=(World.ownsRow.lt HO2.out g hg).1; simp at this; omega) _ _) (by simp)
   · left; rw [<- HNB.out]; rfl
   · rw [<- HNB.out]
     show val zs = x
     rw [HV.out,HYX.out]
def wlim : Int:=4294967296 ^ 2048
structure WTells (e t : Int) (n : Bool) (zs : List Int) (code : Int) : Prop where
 wd : Wd zs
 trim : Trimmed zs
 sign : n = false \/ 0 < zs.length
 len : zs.length <= 2048
 bad : e ≠ 0 -> n = false /\ zs = [] /\ code = e
 long : e = 0 -> (wlim <= t \/ t <= -wlim) -> n = false /\ zs = [] /\ code = 3
 good : e = 0 -> -wlim < t -> t < wlim -> code = 0 /\ wval n zs = t
theorem len2048 {zs : List Int} (hw : Wd zs) (ht : Trimmed zs) : 2048 < zs.length ↔ wlim <= val zs:=by
 unfold wlim
 constructor
 · intro h
   have h1:=val_ge hw ht (by omega)
   have h2 : (4294967296 : Int) ^ 2048 <= 4294967296 ^ (zs.length - 1):=pw_le (by omega)
   exact Int.le_trans h2 h1
 · intro h
   by_cases c : 2048 < zs.length
   · exact c
   · have h1:=val_lt hw
     have h2 : (4294967296 : Int) ^ zs.length <= 4294967296 ^ 2048:=pw_le (by omega)
     exact absurd (Int.lt_of_lt_of_le h1 h2) (Int.not_lt.2 h)
theorem trimmed_zero' {us : List Int} (h : us.length = 0) : val us = 0:=by rw [List.eq_nil_of_length_eq_zero h]; rfl
def sg (n : Bool) (t : Int) : Int:=if n then -t else t
theorem mul_sign (n m : Bool) (x y : Int) : sg (n != m) (x * y) = (if n then -x else x) * (if m then -y else y):=by
 cases n <;> cases m <;> simp [sg,Int.neg_mul,Int.mul_neg]
set_option maxRecDepth 100000 in
theorem divMod_own (v u : Value) (xs ys : List Int) (w : World) (h : Sl w v xs) (g : Sl w u ys) (lx : xs.length <= 8192) (ly : ys.length <= 8192) (tx : Trimmed xs) (ty : Trimmed ys) (h0 : 0 < ys.length) :
 Calls Tryz.prog 305 #[v,u] w fun e w' => ∃ v1 u1 q r,e = .returned (.tuple #[v1,u1,.int .i64 0]) /\ w'.ownsRow w.heap.size 69 1 v1 q.length (q.map (Value.int .u32)) /\ w'.ownsRow w.heap.size 69 1 u1 r.length (r.map (Value.int .u32)) /\ Wd q /\ Wd r /\ Trimmed q /\ Trimmed r /\ val xs = val q * val ys + val r /\ val r < val ys /\ Below w.heap.size w w':=by
 have HB:=hid (checkBoth_sl v u xs ys w h g (by omega) (by omega))
 rw [both_good (chk_good lx tx) (chk_good ly ty)] at HB
 have HD : Hid (Calls Tryz.prog 287 #[v,u] w (Divided w xs ys)):=divide_any v u xs ys w h g lx ly tx ty h0
 obtain ⟨b,cap',rfl,gr⟩:=g
 have hz : ((ys.length : Int) == 0) = false:=by simp; exact fun e => by rw [e] at h0; simp at h0
 clear gr h ty
 go_enter Tryz.func305,Tryz.ntmps305
 go_wp2_with fail
 refine Calls.mono HB.out ?_
 rintro e w' ⟨rfl,rfl⟩
 go_wp2_with fail
 refine Calls.mono HD.out ?_
 rintro e w1 ⟨v1,u1,q,r,c,rfl,oq,orr,_,_,_,_,wq,wr,tq,tr,hv,hlt,hbel⟩
 have HQ:=hid oq
 have HR:=hid orr
 have HV:=hid hv
 have HLT:=hid hlt
 clear oq orr hv hlt
 go_wp2
 go_ret3
 exact ⟨v1,u1,q,r,rfl,HQ.out,HR.out,wq,wr,tq,tr,HV.out,HLT.out,hbel⟩
theorem val_pos' {zs : List Int} (hw : Wd zs) (ht : Trimmed zs) (h : 0 < zs.length) : 1 <= val zs:=by
 have h1:=val_ge hw ht h
 have h2:=pw_pos (zs.length - 1)
 omega
theorem below2048 {zs : List Int} (hw : Wd zs) (hl : zs.length <= 2048) : val zs < wlim:=by
 have h1:=val_lt hw
 have h2 : (4294967296 : Int) ^ zs.length <= 4294967296 ^ 2048:=pw_le hl
 unfold wlim
 exact Int.lt_of_lt_of_le h1 h2
def rform (n : Bool) (xs ys : List Int) : Prop:=both xs ys = 0 /\ 0 < ys.length /\ (n = false \/ 0 < xs.length) /\ gcdI (val xs) (val ys) = 1
instance (n : Bool) (xs ys : List Int) : Decidable (rform n xs ys):=by unfold rform; infer_instance
def rchk (n : Bool) (xs ys : List Int) : Int:=if 2048 < max xs.length ys.length then 3 else if rform n xs ys then 0 else 11
def rq (n : Bool) (xs ys : List Int) : Rat:=Rat.divInt (wval n xs) (val ys)
theorem res_box3 {X w1 : World} {b t : Nat} {v0 v1 v2 : Value} (hX : Box X b t #[v0,v1,v2]) (hb : Below X.heap.size X w1) : w1.cell? ⟨b,0,none⟩ = some v0 /\ w1.cell? ⟨b,1,none⟩ = some v1 /\ w1.cell? ⟨b,2,none⟩ = some v2 /\ w1.frozen? ⟨b,0,none⟩ = false /\ w1.frozen? ⟨b,1,none⟩ = false /\ w1.frozen? ⟨b,2,none⟩ = false:=by
 have h:=hX.later hb hX.lt
 exact ⟨h.cell 0,h.cell 1,h.cell 2,h.free 0,h.free 1,h.free 2⟩
theorem below_put3 {B : Nat} {a w : World} (h : Below B a w) (b : Nat) (hb : B <= b) (v0 v1 v2 : Value) : Below B a (((w.setCell ⟨b,0,none⟩ v0).setCell ⟨b,1,none⟩ v1).setCell ⟨b,2,none⟩ v2) :=
 ((h.setCell (p:=⟨b,0,none⟩) hb _).setCell (p:=⟨b,1,none⟩) hb _).setCell (p:=⟨b,2,none⟩) hb _
theorem own_put3 {w : World} {base e n : Nat} {v : Value} {xs : List Value} (h : w.ownsRow base e 1 v n xs) (b : Nat) (hb : ∀ g,v.ownBlock = some g -> g ≠ b) (v0 v1 v2 : Value) : (((w.setCell ⟨b,0,none⟩ v0).setCell ⟨b,1,none⟩ v1).setCell ⟨b,2,none⟩ v2).ownsRow base e 1 v n xs:=by
 have hne : v.ownBlock = none \/ v.ownBlock ≠ some b:=by
  cases hv : v.ownBlock with
  | none => exact .inl rfl
  | some g => right; intro e; exact hb g hv (Option.some.inj e)
 exact World.ownsRow.kept (World.ownsRow.kept (World.ownsRow.kept h (grown_set w ⟨b,0,none⟩ v0) hne) (grown_set _ ⟨b,1,none⟩ v1) hne) (grown_set _ ⟨b,2,none⟩ v2) hne
theorem rform_no_den {n : Bool} {xs ys : List Int} (h : ys.length = 0) : decide (rform n xs ys) = false:=decide_eq_false fun e => by have:=e.2.1; omega
theorem rform_no_sign {xs ys : List Int} (h : xs.length = 0) : decide (rform true xs ys) = false:=decide_eq_false fun e => e.2.2.1.elim (fun e => by cases e) (fun e => by omega)
theorem rform_no_both {n : Bool} {xs ys : List Int} (h : both xs ys ≠ 0) : decide (rform n xs ys) = false:=decide_eq_false fun e => h e.1
theorem one_iff {zs : List Int} (hw : Wd zs) (ht : Trimmed zs) : zs = [1] ↔ val zs = 1:=by
 constructor
 · rintro rfl; simp [val,valTo]
 · intro h
   exact trimmed_eq hw (Wd.one (by omega)) ht rfl (by rw [h]; simp [val,valTo])
theorem gcd_wide {xs ys : List Int} (wx : Wd xs) (wy : Wd ys) (h : both xs ys = 0) : gcdI (val xs) (val ys) < wide:=by
 obtain ⟨h1,h2⟩:=both_ok h
 have l1:=(chk_ok h1).1
 have l2:=(chk_ok h2).1
 have a1 : val xs < wide:=Int.lt_of_lt_of_le (val_lt wx) (pw_le l1)
 have a2 : val ys < wide:=Int.lt_of_lt_of_le (val_lt wy) (pw_le l2)
 rcases gcdI_le (val_nonneg wx) (val_nonneg wy) with e | e <;> omega
set_option maxRecDepth 100000 in
theorem rwords_any (n : Bool) (a : Option Addr) (k c : Nat) (b : Option Addr) (l d : Nat) (w : World) :
 Calls Tryz.prog 157 #[.agg #[.bool n,.slice a k c,.slice b l d]] w fun e w' => e = .returned (.int .i64 ((max k l : Nat) : Int)) /\ Below w.heap.size w w':=by
 have HB:=hid (alloc_later w (.cells #[.bool n,.slice a k c,.slice b l d] 24))
 by_cases h : k < l
 · have HM : Hid (max k l = l):=Nat.max_eq_right (by omega)
   go_enter Tryz.func157,Tryz.ntmps157
   go_wp2_with fail
   go_ret
   exact ⟨ret_int (by rw [HM.out]),HB.out⟩
 · have HM : Hid (max k l = k):=Nat.max_eq_left (by omega)
   go_enter Tryz.func157,Tryz.ntmps157
   go_wp2_with fail
   go_ret
   exact ⟨ret_int (by rw [HM.out]),HB.out⟩
set_option maxRecDepth 100000 in
theorem isOne_any (v : Value) (xs : List Int) (w : World) (h : Sl w v xs) :
 Calls Tryz.prog 142 #[v] w fun e w' => e = .returned (.bool (decide (xs = [1]))) /\ w = w':=by
 obtain ⟨a,cap,rfl,hl,hw,hc,hcap⟩:=h
 by_cases h1 : xs.length = 1
 · obtain ⟨x,rfl⟩:=List.length_eq_one_iff.1 h1
   rcases hc with h0 | ⟨b,o,rfl,hb,hc⟩
   · simp at h0
   · have c0:=hc 0 (by simp)
     simp at c0
     have hx:=hw.head
     clear hc hw h1 hl hcap
     by_cases e : x = 1
     · subst e
       go_enter Tryz.func142,Tryz.ntmps142
       go_wp2_with fail
       go_ret
       exact ⟨ret_bool rfl,rfl⟩
     · have HD : Hid (decide (([x] : List Int) = [1]) = false):=decide_eq_false (by simp [e])
       have e' : (x == 1) = false:=by simp [e]
       clear e
       go_enter Tryz.func142,Tryz.ntmps142
       go_wp2_with fail
       go_ret
       exact ⟨ret_bool HD.out.symm,rfl⟩
 · have HD : Hid (decide (xs = [1]) = false):=decide_eq_false (fun e => h1 (by rw [e]; rfl))
   have h1' : ((xs.length : Int) == 1) = false:=by simp; omega
   clear hc hw hl hcap h1
   go_enter Tryz.func142,Tryz.ntmps142
   go_wp2_with fail
   go_ret
   exact ⟨ret_bool HD.out.symm,rfl⟩
set_option maxRecDepth 100000 in
theorem inOneForm_any (n : Bool) (v : Value) (xs : List Int) (u : Value) (ys : List Int) (w : World) (h : Sl w v xs) (g : Sl w u ys) (hn : xs.length <= 281474976710656) (hm : ys.length <= 281474976710656) :
 Calls Tryz.prog 158 #[.agg #[.bool n,v,u]] w fun e w' => e = .returned (.bool (decide (rform n xs ys))) /\ Below w.heap.size w w':=by
 have HB:=hid (alloc_later w (.cells #[.bool n,v,u] 24))
 have HG:=hid (gcd_sl v u xs ys _ (h.later HB.out) (g.later HB.out) hn hm)
 have wx:=h.wd
 have wy:=g.wd
 obtain ⟨a,cap,rfl,hr⟩:=h
 obtain ⟨b,cap',rfl,gr⟩:=g
 clear hr gr
 by_cases hy : ys.length = 0
 · have HD:=hid (rform_no_den (n:=n) (xs:=xs) hy)
   rw [hy] at HB ⊢
   clear HG hy hm
   go_enter Tryz.func158,Tryz.ntmps158
   go_wp2_with fail
   go_ret
   exact ⟨ret_bool HD.out.symm,HB.out⟩
 · have hy' : ((ys.length : Int) == 0) = false:=by simp; exact fun e => hy (by rw [e]; rfl)
   have hy0 : 0 < ys.length:=by omega
   have key : (n = false \/ 0 < xs.length) -> Calls Tryz.prog 158 #[.agg #[.bool n,.slice a xs.length cap,.slice b ys.length cap']] w fun e w' => e = .returned (.bool (decide (rform n xs ys))) /\ Below w.heap.size w w':=by
    intro hs
    by_cases hz : both xs ys = 0
    · have HWD:=hid (gcd_wide wx wy hz)
      have HF : Hid (∀ zs,Wd zs -> Trimmed zs -> val zs = gcdI (val xs) (val ys) -> decide (zs = [1]) = decide (rform n xs ys)):=fun zs h1 h2 h3 => by
       have e1:=one_iff h1 h2
       have e2 : (zs = [1]) ↔ rform n xs ys:=⟨fun e => ⟨hz,hy0,hs,by rw [<- h3]; exact e1.1 e⟩,fun e => e1.2 (by rw [h3]; exact e.2.2.2)⟩
       exact decide_eq_decide.2 e2
      rw [hz] at HG
      clear hz hy wx wy hy0
      cases n with
      | false =>
       go_enter Tryz.func158,Tryz.ntmps158
       go_wp2_with fail
       refine Calls.mono HG.out ?_
       rintro e w1 ⟨v1,zs,code,rfl,o1,t1,hb1⟩
       obtain ⟨rfl,hv1⟩:=t1.good rfl HWD.out
       have HO:=hid (isOne_any v1 zs w1 (Sl.own o1 t1.wd))
       rw [HF.out zs t1.wd t1.trim hv1] at HO
       have hbA:=bt HB.out hb1
       obtain ⟨a1,c1,hs1⟩:=own_slice' o1
       subst hs1
       clear hb1 o1 t1 hv1 HG HF
       go_wp2_with fail
       refine Calls.mono HO.out ?_
       rintro e w2 ⟨rfl,rfl⟩
       go_wp2_with fail
       go_ret
       exact ⟨rfl,hbA⟩
      | true =>
       have hx' : ((xs.length : Int) == 0) = false:=by
        have : 0 < xs.length:=hs.elim (fun e => by cases e) id
        simp; exact fun e => by rw [e] at this; simp at this
       clear hs
       go_enter Tryz.func158,Tryz.ntmps158
       go_wp2_with fail
       refine Calls.mono HG.out ?_
       rintro e w1 ⟨v1,zs,code,rfl,o1,t1,hb1⟩
       obtain ⟨rfl,hv1⟩:=t1.good rfl HWD.out
       have HO:=hid (isOne_any v1 zs w1 (Sl.own o1 t1.wd))
       rw [HF.out zs t1.wd t1.trim hv1] at HO
       have hbA:=bt HB.out hb1
       obtain ⟨a1,c1,hs1⟩:=own_slice' o1
       subst hs1
       clear hb1 o1 t1 hv1 HG HF
       go_wp2_with fail
       refine Calls.mono HO.out ?_
       rintro e w2 ⟨rfl,rfl⟩
       go_wp2_with fail
       go_ret
       exact ⟨rfl,hbA⟩
    · have HD:=hid (rform_no_both (n:=n) hz)
      obtain ⟨ec,hec⟩ : ∃ ec,both xs ys = ec:=⟨_,rfl⟩
      rw [hec] at hz HG
      have hz' : (ec == 0) = false:=by simp [hz]
      clear hec hy wx wy hy0
      cases n with
      | false =>
       go_enter Tryz.func158,Tryz.ntmps158
       go_wp2_with fail
       refine Calls.mono HG.out ?_
       rintro e w1 ⟨v1,zs,code,rfl,o1,t1,hb1⟩
       obtain ⟨rfl,_⟩:=t1.bad hz
       have hbA:=bt HB.out hb1
       obtain ⟨a1,c1,hs1⟩:=own_slice' o1
       subst hs1
       clear hb1 o1 t1 HG hz
       go_wp2_with fail
       go_ret
       exact ⟨ret_bool HD.out.symm,hbA⟩
      | true =>
       have hx' : ((xs.length : Int) == 0) = false:=by
        have : 0 < xs.length:=hs.elim (fun e => by cases e) id
        simp; exact fun e => by rw [e] at this; simp at this
       clear hs
       go_enter Tryz.func158,Tryz.ntmps158
       go_wp2_with fail
       refine Calls.mono HG.out ?_
       rintro e w1 ⟨v1,zs,code,rfl,o1,t1,hb1⟩
       obtain ⟨rfl,_⟩:=t1.bad hz
       have hbA:=bt HB.out hb1
       obtain ⟨a1,c1,hs1⟩:=own_slice' o1
       subst hs1
       clear hb1 o1 t1 HG hz
       go_wp2_with fail
       go_ret
       exact ⟨ret_bool HD.out.symm,hbA⟩
   by_cases hx : n = false \/ 0 < xs.length
   · exact key hx
   · have hn1 : n = true:=by
      cases n with
      | false => exact absurd (.inl rfl) hx
      | true => rfl
     have hx0 : xs.length = 0:=by
      by_cases c : 0 < xs.length
      · exact absurd (.inr c) hx
      · omega
     subst hn1
     have HD:=hid (rform_no_sign (ys:=ys) hx0)
     rw [hx0] at HB ⊢
     clear key hx0 HG hx wx wy hy hy0
     go_enter Tryz.func158,Tryz.ntmps158
     go_wp2_with fail
     go_ret
     exact ⟨ret_bool HD.out.symm,HB.out⟩
theorem rchk_ok {n : Bool} {xs ys : List Int} (h : rchk n xs ys = 0) : xs.length <= 2048 /\ ys.length <= 2048 /\ Trimmed xs /\ Trimmed ys /\ 0 < ys.length /\ (n = false \/ 0 < xs.length) /\ gcdI (val xs) (val ys) = 1:=by
 unfold rchk at h
 by_cases h1 : 2048 < max xs.length ys.length
 · rw [if_pos h1] at h; omega
 · rw [if_neg h1] at h
   by_cases h2 : rform n xs ys
   · obtain ⟨a,b⟩:=both_ok h2.1
     exact ⟨by omega,by omega,(chk_ok a).2,(chk_ok b).2,h2.2.1,h2.2.2.1,h2.2.2.2⟩
   · rw [if_neg h2] at h; omega
theorem rchk_good {n : Bool} {xs ys : List Int} (lx : xs.length <= 2048) (ly : ys.length <= 2048) (tx : Trimmed xs) (ty : Trimmed ys) (h0 : 0 < ys.length) (hs : n = false \/ 0 < xs.length) (hg : gcdI (val xs) (val ys) = 1) : rchk n xs ys = 0:=by
 unfold rchk
 rw [if_neg (by omega),if_pos ⟨both_good (chk_good (by omega) tx) (chk_good (by omega) ty),h0,hs,hg⟩]
set_option maxRecDepth 100000 in
theorem rcheck_any (n : Bool) (v : Value) (xs : List Int) (u : Value) (ys : List Int) (w : World) (h : Sl w v xs) (g : Sl w u ys) :
 Calls Tryz.prog 102 #[.agg #[.bool n,v,u]] w fun e w' => e = .returned (.int .i64 (rchk n xs ys)) /\ Below w.heap.size w w':=by
 have HX:=hid (Box.made w 24 #[.bool n,v,u])
 have HB:=hid (alloc_later w (.cells #[.bool n,v,u] 24))
 have HI : Hid (∀ w1,Below (w.alloc (.cells #[.bool n,v,u] 24)).heap.size (w.alloc (.cells #[.bool n,v,u] 24)) w1 -> ¬ 2048 < max xs.length ys.length -> Calls Tryz.prog 158 #[.agg #[.bool n,v,u]] w1 fun e w' => e = .returned (.bool (decide (rform n xs ys))) /\ Below w1.heap.size w1 w'):=fun w1 hb hle => inOneForm_any n v xs u ys w1 ((h.later HB.out).later hb) ((g.later HB.out).later hb) (by omega) (by omega)
 obtain ⟨a,cap,rfl,hr⟩:=h
 obtain ⟨b,cap',rfl,gr⟩:=g
 clear hr gr
 have HW:=hid (rwords_any n a xs.length cap b ys.length cap' (w.alloc (.cells #[.bool n,.slice a xs.length cap,.slice b ys.length cap'] 24)))
 obtain ⟨M,hM⟩ : ∃ M,max xs.length ys.length = M:=⟨_,rfl⟩
 have HR : Hid (rchk n xs ys = if 2048 < M then 3 else if rform n xs ys then 0 else 11):=by show _ = _; unfold rchk; rw [hM]
 rw [hM] at HW HI
 clear hM
 by_cases hm : 2048 < M
 · have hm' : (2048 : Int) < (M : Int):=by omega
   rw [if_pos hm] at HR
   clear hm HI
   go_enter Tryz.func102,Tryz.ntmps102
   go_wp2_with fail
   refine Calls.mono HW.out ?_
   rintro e w1 ⟨rfl,hb1⟩
   have hbA:=bt HB.out hb1
   clear hb1
   go_wp2_with fail
   go_ret
   exact ⟨ret_int HR.out.symm,hbA⟩
 · have hm' : ¬ (2048 : Int) < (M : Int):=by omega
   rw [if_neg hm] at HR
   have HNM:=hid hm
   clear hm
   by_cases hf : rform n xs ys
   · rw [if_pos hf] at HR
     rw [decide_eq_true hf] at HI
     clear hf
     go_enter Tryz.func102,Tryz.ntmps102
     go_wp2_with fail
     refine Calls.mono HW.out ?_
     rintro e w1 ⟨rfl,hb1⟩
     obtain ⟨c0,c1,c2,_,_,_⟩:=res_box3 HX.out hb1
     have HI1:=hid (HI.out w1 hb1 HNM.out)
     have hbA:=bt HB.out hb1
     clear hb1 HI
     go_wp2_with fail
     refine Calls.mono HI1.out ?_
     rintro e w2 ⟨rfl,hb2⟩
     have hbB:=bt hbA hb2
     clear hb2
     go_wp2_with fail
     go_ret
     exact ⟨ret_int HR.out.symm,hbB⟩
   · rw [if_neg hf] at HR
     rw [decide_eq_false hf] at HI
     clear hf
     go_enter Tryz.func102,Tryz.ntmps102
     go_wp2_with fail
     refine Calls.mono HW.out ?_
     rintro e w1 ⟨rfl,hb1⟩
     obtain ⟨c0,c1,c2,_,_,_⟩:=res_box3 HX.out hb1
     have HI1:=hid (HI.out w1 hb1 HNM.out)
     have hbA:=bt HB.out hb1
     clear hb1 HI
     go_wp2_with fail
     refine Calls.mono HI1.out ?_
     rintro e w2 ⟨rfl,hb2⟩
     have hbB:=bt hbA hb2
     clear hb2
     go_wp2_with fail
     go_ret
     exact ⟨ret_int HR.out.symm,hbB⟩
def rboth (n : Bool) (xs ys : List Int) (m : Bool) (us vs : List Int) : Int:=if rchk n xs ys = 0 then rchk m us vs else rchk n xs ys
theorem rboth_good {n m : Bool} {xs ys us vs : List Int} (h : rchk n xs ys = 0) (g : rchk m us vs = 0) : rboth n xs ys m us vs = 0:=by unfold rboth; rw [if_pos h,g]
theorem rboth_ok {n m : Bool} {xs ys us vs : List Int} (h : rboth n xs ys m us vs = 0) : rchk n xs ys = 0 /\ rchk m us vs = 0:=by
 unfold rboth at h
 by_cases c : rchk n xs ys = 0
 · rw [if_pos c] at h; exact ⟨c,h⟩
 · rw [if_neg c] at h; exact absurd h c
set_option maxRecDepth 100000 in
theorem rcheckBoth_any (n : Bool) (v : Value) (xs : List Int) (u : Value) (ys : List Int) (m : Bool) (v' : Value) (us : List Int) (u' : Value) (vs : List Int) (w : World) (h : Sl w v xs) (g : Sl w u ys) (h' : Sl w v' us) (g' : Sl w u' vs) :
 Calls Tryz.prog 266 #[.agg #[.bool n,v,u],.agg #[.bool m,v',u']] w fun e w' => e = .returned (.int .i64 (rboth n xs ys m us vs)) /\ Below w.heap.size w w':=by
 have hb : Below w.heap.size w ((w.alloc (.cells #[.bool n,v,u] 24)).alloc (.cells #[.bool m,v',u'] 24)):=bt (alloc_later _ _) (alloc_later _ _)
 have HB:=hid hb
 have H1:=hid (rcheck_any n v xs u ys _ (h.later hb) (g.later hb))
 have H2:=hid (fun w1 (hb1 : Below _ ((w.alloc (.cells #[.bool n,v,u] 24)).alloc (.cells #[.bool m,v',u'] 24)) w1) => rcheck_any m v' us u' vs w1 ((h'.later hb).later hb1) ((g'.later hb).later hb1))
 have HS : Hid (Box ((w.alloc (.cells #[.bool n,v,u] 24)).alloc (.cells #[.bool m,v',u'] 24)) (w.heap.size + 1) 24 #[.bool m,v',u']):=by
  have e:=Box.made (w.alloc (.cells #[.bool n,v,u] 24)) 24 #[.bool m,v',u']
  simp at e
  exact e
 obtain ⟨a,cap,rfl,hr⟩:=h
 obtain ⟨b,cap',rfl,gr⟩:=g
 obtain ⟨a2,cap2,rfl,hr2⟩:=h'
 obtain ⟨b2,cap2',rfl,gr2⟩:=g'
 clear hb hr gr hr2 gr2
 by_cases h1 : rchk n xs ys = 0
 · have HW : Hid (rboth n xs ys m us vs = rchk m us vs):=by show _ = _; unfold rboth; rw [if_pos h1]
   rw [h1] at H1
   clear h1
   go_enter Tryz.func266,Tryz.ntmps266
   go_wp2_with fail
   refine Calls.mono H1.out ?_
   rintro e w1 ⟨rfl,hb1⟩
   obtain ⟨c0,c1,c2,_,_,_⟩:=res_box3 HS.out hb1
   have HC:=hid (H2.out w1 hb1)
   have hbA:=bt HB.out hb1
   clear hb1
   go_wp2_with fail
   refine Calls.mono HC.out ?_
   rintro e w2 ⟨rfl,hb2⟩
   have hbB:=bt hbA hb2
   clear hb2
   go_wp2_with fail
   go_ret
   exact ⟨ret_int HW.out.symm,hbB⟩
 · have HW : Hid (rboth n xs ys m us vs = rchk n xs ys):=by show _ = _; unfold rboth; rw [if_neg h1]
   have hne : (rchk n xs ys != 0) = true:=by simp [h1]
   obtain ⟨c,hc⟩ : ∃ c,rchk n xs ys = c:=⟨_,rfl⟩
   rw [hc] at H1 HW hne
   clear hc h1
   go_enter Tryz.func266,Tryz.ntmps266
   go_wp2_with fail
   refine Calls.mono H1.out ?_
   rintro e w1 ⟨rfl,hb1⟩
   have hbA:=bt HB.out hb1
   clear hb1
   go_wp2_with fail
   go_ret
   exact ⟨ret_int HW.out.symm,hbA⟩
def rlong (q : Rat) : Prop:=wlim <= (q.num.natAbs : Int) \/ wlim <= (q.den : Int)
structure RTells (e : Int) (q : Rat) (n : Bool) (xs ys : List Int) (code : Int) : Prop where
 wx : Wd xs
 wy : Wd ys
 bad : e ≠ 0 -> n = false /\ xs = [] /\ ys = [] /\ code = e
 long : e = 0 -> rlong q -> n = false /\ xs = [] /\ ys = [] /\ code = 3
 good : e = 0 -> ¬ rlong q -> code = 0 /\ rchk n xs ys = 0 /\ rq n xs ys = q
theorem RTells.err {e : Int} {q : Rat} (h : e ≠ 0) : RTells e q false [] [] e:=⟨Wd.nil,Wd.nil,fun _ => ⟨rfl,rfl,rfl,rfl⟩,fun h' => absurd h' h,fun h' => absurd h' h⟩
def rtoldV (n : Bool) (a : Option Addr) (k c : Nat) (b : Option Addr) (l d : Nat) : Value:=if 2048 < max k l then .tuple #[.agg #[.bool false,.slice none 0 0,.slice none 0 0],.int .i64 3] else .tuple #[.agg #[.bool (n && decide (0 < k)),.slice a k c,.slice b l d],.int .i64 0]
theorem gcd_sg (n : Bool) (x d : Int) : gcdI (sg n x) d = gcdI x d:=by
 cases n
 · rfl
 · show ((Int.gcd (-x) d : Nat) : Int) = _
   rw [Int.neg_gcd]; rfl
theorem abs_sg (n : Bool) {x : Int} (h : 0 <= x) : ((sg n x).natAbs : Int) = x:=by
 cases n <;> simp [sg] <;> omega
theorem rtells_of {n : Bool} {zs ds : List Int} (wz : Wd zs) (tz : Trimmed zs) (wd : Wd ds) (td : Trimmed ds) (hd : 0 < val ds) (hg : gcdI (val zs) (val ds) = 1) :
 ∃ m us vs c,(∀ a ca b cb,rtoldV n a zs.length ca b ds.length cb = .tuple #[.agg #[.bool m,if c = 0 then .slice a zs.length ca else .slice none 0 0,if c = 0 then .slice b ds.length cb else .slice none 0 0],.int .i64 c]) /\ (if c = 0 then us = zs else us = []) /\ (if c = 0 then vs = ds else vs = []) /\ RTells 0 (Rat.divInt (sg n (val zs)) (val ds)) m us vs c:=by
 have hz0:=val_nonneg wz
 obtain ⟨e1,e2⟩:=fr_num (x:=sg n (val zs)) hd (by rw [gcd_sg]; exact hg)
 have hl : rlong (Rat.divInt (sg n (val zs)) (val ds)) ↔ 2048 < max zs.length ds.length:=by
  unfold rlong
  rw [e1,e2,abs_sg n hz0,<- len2048 wz tz,<- len2048 wd td]
  omega
 by_cases h : 2048 < max zs.length ds.length
 · refine ⟨false,[],[],3,fun a ca b cb => by unfold rtoldV; rw [if_pos h]; rfl,by simp,by simp,⟨Wd.nil,Wd.nil,fun h => absurd rfl h,fun _ _ => ⟨rfl,rfl,rfl,rfl⟩,fun _ h' => absurd (hl.2 h) h'⟩⟩
 · have hd0 : 0 < ds.length:=by
    by_cases c : 0 < ds.length
    · exact c
    · have:=trimmed_zero' (us:=ds) (by omega); omega
   refine ⟨n && decide (0 < zs.length),zs,ds,0,fun a ca b cb => by unfold rtoldV; rw [if_neg h]; rfl,by simp,by simp,⟨wz,wd,fun h => absurd rfl h,fun _ h' => absurd (hl.1 h') h,fun _ _ => ⟨rfl,rchk_good (by omega) (by omega) tz td hd0 ?_ hg,?_⟩⟩⟩
   · by_cases c : 0 < zs.length
     · exact .inr c
     · left; simp [c]
   · unfold rq
     congr 1
     by_cases c : 0 < zs.length
     · simp [c,wval,sg]
     · rw [List.eq_nil_of_length_eq_zero (show zs.length = 0 by omega)]
       cases n <;> simp [wval,sg,val,valTo]
theorem ret_val {a b : Value} (h : a = b) : Ending.returned a = .returned b:=by rw [h]
set_option maxRecDepth 100000 in
theorem rtold_any (n : Bool) (a : Option Addr) (k c : Nat) (b : Option Addr) (l d : Nat) (w : World) :
 Calls Tryz.prog 200 #[.bool n,.slice a k c,.slice b l d] w fun x w' => x = .returned (rtoldV n a k c b l d) /\ Below w.heap.size w w':=by
 obtain ⟨M,hM⟩ : ∃ M,max k l = M:=⟨_,rfl⟩
 obtain ⟨s,hs⟩ : ∃ s,(n && decide (0 < k)) = s:=⟨_,rfl⟩
 have HT : Hid (rtoldV n a k c b l d = if 2048 < M then .tuple #[.agg #[.bool false,.slice none 0 0,.slice none 0 0],.int .i64 3] else .tuple #[.agg #[.bool s,.slice a k c,.slice b l d],.int .i64 0]):=by show _ = _; unfold rtoldV; rw [hM,hs]
 have HB : Hid (Below w.heap.size w ((w.alloc (.cells #[.bool false,.slice none 0 0,.slice none 0 0] 24)).alloc (.cells #[.bool s,.slice a k c,.slice b l d] 24))):=bt (alloc_later _ _) (alloc_later _ _)
 have HW:=hid (rwords_any s a k c b l d ((w.alloc (.cells #[.bool false,.slice none 0 0,.slice none 0 0] 24)).alloc (.cells #[.bool s,.slice a k c,.slice b l d] 24)))
 rw [hM] at HW
 clear hM
 have HZ : Hid (Box ((w.alloc (.cells #[.bool false,.slice none 0 0,.slice none 0 0] 24)).alloc (.cells #[.bool s,.slice a k c,.slice b l d] 24)) w.heap.size 24 #[.bool false,.slice none 0 0,.slice none 0 0]):=Box.later (Box.made w _ _) (alloc_later _ _) (by simp)
 have HS : Hid (Box ((w.alloc (.cells #[.bool false,.slice none 0 0,.slice none 0 0] 24)).alloc (.cells #[.bool s,.slice a k c,.slice b l d] 24)) (w.heap.size + 1) 24 #[.bool s,.slice a k c,.slice b l d]):=by
  have e:=Box.made (w.alloc (.cells #[.bool false,.slice none 0 0,.slice none 0 0] 24)) 24 #[.bool s,.slice a k c,.slice b l d]
  simp at e
  exact e
 by_cases hm : 2048 < M
 · have hm' : (2048 : Int) < (M : Int):=by omega
   rw [if_pos hm] at HT
   clear hm
   cases n with
   | false =>
    obtain rfl : s = false:=by rw [<- hs]; rfl
    clear hs
    go_enter Tryz.func200,Tryz.ntmps200
    go_wp2_with fail
    refine Calls.mono HW.out ?_
    rintro e w1 ⟨rfl,hb1⟩
    obtain ⟨r0,r1,r2,f0,f1,f2⟩:=res_box3 HZ.out hb1
    obtain ⟨c0,c1,c2,_,_,_⟩:=res_box3 HS.out hb1
    have hbA:=bt HB.out hb1
    clear hb1
    go_wp2_with fail
    refine bodyPost_ret (v:=.tuple #[.agg #[.bool false,.slice none 0 0,.slice none 0 0],.int .i64 3]) (by simp [results,Tryz.results200,go_sem,r0,r1,r2]) rfl ?_
    exact ⟨ret_val HT.out.symm,below_put3 hbA _ (Nat.le_refl _) _ _ _⟩
   | true =>
    obtain rfl : s = decide (0 < k):=by rw [<- hs]; rfl
    clear hs
    go_enter Tryz.func200,Tryz.ntmps200
    go_wp2_with fail
    refine Calls.mono HW.out ?_
    rintro e w1 ⟨rfl,hb1⟩
    obtain ⟨r0,r1,r2,f0,f1,f2⟩:=res_box3 HZ.out hb1
    obtain ⟨c0,c1,c2,_,_,_⟩:=res_box3 HS.out hb1
    have hbA:=bt HB.out hb1
    clear hb1
    go_wp2_with fail
    refine bodyPost_ret (v:=.tuple #[.agg #[.bool false,.slice none 0 0,.slice none 0 0],.int .i64 3]) (by simp [results,Tryz.results200,go_sem,r0,r1,r2]) rfl ?_
    exact ⟨ret_val HT.out.symm,below_put3 hbA _ (Nat.le_refl _) _ _ _⟩
 · have hm' : ¬ (2048 : Int) < (M : Int):=by omega
   rw [if_neg hm] at HT
   clear hm
   cases n with
   | false =>
    obtain rfl : s = false:=by rw [<- hs]; rfl
    clear hs
    go_enter Tryz.func200,Tryz.ntmps200
    go_wp2_with fail
    refine Calls.mono HW.out ?_
    rintro e w1 ⟨rfl,hb1⟩
    obtain ⟨r0,r1,r2,f0,f1,f2⟩:=res_box3 HZ.out hb1
    obtain ⟨c0,c1,c2,_,_,_⟩:=res_box3 HS.out hb1
    have hbA:=bt HB.out hb1
    clear hb1
    go_wp2_with fail
    refine bodyPost_ret (v:=.tuple #[.agg #[.bool false,.slice a k c,.slice b l d],.int .i64 0]) (by simp [results,Tryz.results200,go_sem,r0,r1,r2]) rfl ?_
    exact ⟨ret_val HT.out.symm,below_put3 hbA _ (Nat.le_refl _) _ _ _⟩
   | true =>
    obtain rfl : s = decide (0 < k):=by rw [<- hs]; rfl
    clear hs
    go_enter Tryz.func200,Tryz.ntmps200
    go_wp2_with fail
    refine Calls.mono HW.out ?_
    rintro e w1 ⟨rfl,hb1⟩
    obtain ⟨r0,r1,r2,f0,f1,f2⟩:=res_box3 HZ.out hb1
    obtain ⟨c0,c1,c2,_,_,_⟩:=res_box3 HS.out hb1
    have hbA:=bt HB.out hb1
    clear hb1
    go_wp2_with fail
    refine bodyPost_ret (v:=.tuple #[.agg #[.bool (decide (0 < k)),.slice a k c,.slice b l d],.int .i64 0]) (by simp [results,Tryz.results200,go_sem,r0,r1,r2]) rfl ?_
    exact ⟨ret_val HT.out.symm,below_put3 hbA _ (Nat.le_refl _) _ _ _⟩
theorem sum_wide {xs ys : List Int} (wx : Wd xs) (wy : Wd ys) (lx : xs.length <= 8191) (ly : ys.length <= 8191) : val xs + val ys < wide:=by
 have a1 : val xs < 4294967296 ^ 8191:=Int.lt_of_lt_of_le (val_lt wx) (pw_le lx)
 have a2 : val ys < 4294967296 ^ 8191:=Int.lt_of_lt_of_le (val_lt wy) (pw_le ly)
 have e : wide = 4294967296 ^ 8191 * 4294967296:=pw_succ 8191
 rw [e]
 generalize (4294967296 : Int) ^ 8191 = P at *
 have:=val_nonneg wx
 have:=val_nonneg wy
 omega
theorem prod_lt {xs ys : List Int} (wx : Wd xs) (wy : Wd ys) : val xs * val ys < 4294967296 ^ (xs.length + ys.length):=by
 have a1:=val_lt wx
 have a2:=val_lt wy
 rw [Int.pow_add]
 have n1:=val_nonneg wx
 have n2:=val_nonneg wy
 have p2:=pw_pos ys.length
 have p1:=pw_pos xs.length
 generalize (4294967296 : Int) ^ xs.length = P at *
 generalize (4294967296 : Int) ^ ys.length = Q at *
 have e1 : val xs * val ys <= val xs * Q:=Int.mul_le_mul_of_nonneg_left (by omega) n1
 have e2 : val xs * Q < P * Q:=Int.mul_lt_mul_of_pos_right a1 p2
 omega
theorem prod_wide {xs ys : List Int} (wx : Wd xs) (wy : Wd ys) (hl : xs.length + ys.length <= 8192) : val xs * val ys < wide:=Int.lt_of_lt_of_le (prod_lt wx wy) (pw_le hl)
set_option maxRecDepth 100000 in
theorem rsum_any (v u : Value) (xs ys : List Int) (w : World) (h : Sl w v xs) (g : Sl w u ys) (lx : xs.length <= 8191) (ly : ys.length <= 8191) (tx : Trimmed xs) (ty : Trimmed ys) :
 Calls Tryz.prog 306 #[v,u] w (Told1 w (val xs + val ys)):=by
 have HT:=hid (sum_wide h.wd g.wd lx ly)
 have HH:=hid (add_sl v u xs ys w h g (by omega) (by omega))
 rw [both_good (chk_good (by omega) tx) (chk_good (by omega) ty)] at HH
 obtain ⟨a,cap,rfl,hr⟩:=h
 obtain ⟨b,cap',rfl,gr⟩:=g
 clear hr gr
 go_enter Tryz.func306,Tryz.ntmps306
 go_wp2_with fail
 refine Calls.mono HH.out ?_
 rintro e w1 ⟨v1,zs,code,rfl,o1,t1,hb1⟩
 obtain ⟨rfl,hv1⟩:=t1.good rfl HT.out
 obtain ⟨a1,c1,hs1⟩:=own_slice' o1
 subst hs1
 have HE:=hid (And.intro o1 (And.intro t1.wd (And.intro t1.trim (And.intro hv1 hb1))))
 clear o1 t1 hv1 hb1 HH
 go_wp2_with fail
 go_ret
 exact ⟨_,zs,rfl,HE.out.1,HE.out.2.1,HE.out.2.2.1,HE.out.2.2.2.1,HE.out.2.2.2.2⟩
set_option maxRecDepth 100000 in
theorem rdiff_any (v u : Value) (xs ys : List Int) (w : World) (h : Sl w v xs) (g : Sl w u ys) (lx : xs.length <= 8192) (ly : ys.length <= 8192) (tx : Trimmed xs) (ty : Trimmed ys) (hle : val ys <= val xs) :
 Calls Tryz.prog 307 #[v,u] w (Told1 w (val xs - val ys)):=by
 have HT : Hid (val xs - val ys < wide):=by
  have a1 : val xs < wide:=Int.lt_of_lt_of_le (val_lt h.wd) (pw_le lx)
  have a2:=val_nonneg g.wd
  show _ < _
  omega
 have HH:=hid (sub_sl v u xs ys w h g (by omega) (by omega))
 rw [both_good (chk_good (by omega) tx) (chk_good (by omega) ty),if_pos rfl,if_neg (by omega)] at HH
 obtain ⟨a,cap,rfl,hr⟩:=h
 obtain ⟨b,cap',rfl,gr⟩:=g
 clear hr gr
 go_enter Tryz.func307,Tryz.ntmps307
 go_wp2_with fail
 refine Calls.mono HH.out ?_
 rintro e w1 ⟨v1,zs,code,rfl,o1,t1,hb1⟩
 obtain ⟨rfl,hv1⟩:=t1.good rfl HT.out
 obtain ⟨a1,c1,hs1⟩:=own_slice' o1
 subst hs1
 have HE:=hid (And.intro o1 (And.intro t1.wd (And.intro t1.trim (And.intro hv1 hb1))))
 clear o1 t1 hv1 hb1 HH
 go_wp2_with fail
 go_ret
 exact ⟨_,zs,rfl,HE.out.1,HE.out.2.1,HE.out.2.2.1,HE.out.2.2.2.1,HE.out.2.2.2.2⟩
set_option maxRecDepth 100000 in
theorem rprod_any (v u : Value) (xs ys : List Int) (w : World) (h : Sl w v xs) (g : Sl w u ys) (hl : xs.length + ys.length <= 8192) (tx : Trimmed xs) (ty : Trimmed ys) :
 Calls Tryz.prog 294 #[v,u] w (Told1 w (val xs * val ys)):=by
 have HT:=hid (prod_wide h.wd g.wd hl)
 have HH:=hid (mul_sl v u xs ys w h g (by omega) (by omega))
 rw [both_good (chk_good (by omega) tx) (chk_good (by omega) ty)] at HH
 obtain ⟨a,cap,rfl,hr⟩:=h
 obtain ⟨b,cap',rfl,gr⟩:=g
 clear hr gr
 go_enter Tryz.func294,Tryz.ntmps294
 go_wp2_with fail
 refine Calls.mono HH.out ?_
 rintro e w1 ⟨v1,zs,code,rfl,o1,t1,hb1⟩
 obtain ⟨rfl,hv1⟩:=t1.good rfl HT.out
 obtain ⟨a1,c1,hs1⟩:=own_slice' o1
 subst hs1
 have HE:=hid (And.intro o1 (And.intro t1.wd (And.intro t1.trim (And.intro hv1 hb1))))
 clear o1 t1 hv1 hb1 HH
 go_wp2_with fail
 go_ret
 exact ⟨_,zs,rfl,HE.out.1,HE.out.2.1,HE.out.2.2.1,HE.out.2.2.2.1,HE.out.2.2.2.2⟩
set_option maxRecDepth 100000 in
theorem rcommon_any (v u : Value) (xs ys : List Int) (w : World) (h : Sl w v xs) (g : Sl w u ys) (lx : xs.length <= 8192) (ly : ys.length <= 8192) (tx : Trimmed xs) (ty : Trimmed ys) :
 Calls Tryz.prog 291 #[v,u] w (Told1 w (gcdI (val xs) (val ys))):=by
 have hz:=both_good (chk_good lx tx) (chk_good ly ty)
 have HT:=hid (gcd_wide h.wd g.wd hz)
 have HH:=hid (gcd_sl v u xs ys w h g (by omega) (by omega))
 rw [hz] at HH
 clear hz
 obtain ⟨a,cap,rfl,hr⟩:=h
 obtain ⟨b,cap',rfl,gr⟩:=g
 clear hr gr
 go_enter Tryz.func291,Tryz.ntmps291
 go_wp2_with fail
 refine Calls.mono HH.out ?_
 rintro e w1 ⟨v1,zs,code,rfl,o1,t1,hb1⟩
 obtain ⟨rfl,hv1⟩:=t1.good rfl HT.out
 obtain ⟨a1,c1,hs1⟩:=own_slice' o1
 subst hs1
 have HE:=hid (And.intro o1 (And.intro t1.wd (And.intro t1.trim (And.intro hv1 hb1))))
 clear o1 t1 hv1 hb1 HH
 go_wp2_with fail
 go_ret
 exact ⟨_,zs,rfl,HE.out.1,HE.out.2.1,HE.out.2.2.1,HE.out.2.2.2.1,HE.out.2.2.2.2⟩
set_option maxRecDepth 100000 in
theorem rquot_any (v u : Value) (xs ys : List Int) (w : World) (h : Sl w v xs) (g : Sl w u ys) (lx : xs.length <= 8192) (ly : ys.length <= 8192) (tx : Trimmed xs) (ty : Trimmed ys) (h0 : 0 < ys.length) :
 Calls Tryz.prog 292 #[v,u] w (Told1 w (val xs / val ys)):=by
 have HH:=hid (divMod_own v u xs ys w h g lx ly tx ty h0)
 obtain ⟨a,cap,rfl,hr⟩:=h
 obtain ⟨b,cap',rfl,gr⟩:=g
 clear hr gr
 go_enter Tryz.func292,Tryz.ntmps292
 go_wp2_with fail
 refine Calls.mono HH.out ?_
 rintro e w1 ⟨v1,v2,q,r,rfl,o1,o2,wq,wr,tq,tr,hq,hr,hb1⟩
 have hv : val q = val xs / val ys:=by
  have r0:=val_nonneg wr
  rw [hq,Int.add_comm,Int.add_mul_ediv_right _ _ (by omega),Int.ediv_eq_zero_of_lt r0 hr]
  omega
 obtain ⟨a1,c1,hs1⟩:=own_slice' o1
 subst hs1
 obtain ⟨a2,c2,hs2⟩:=own_slice' o2
 subst hs2
 have HE:=hid (And.intro o1 (And.intro wq (And.intro tq (And.intro hv hb1))))
 clear o1 o2 wq wr tq tr hq hr hb1 hv HH
 go_wp2_with fail
 go_ret
 exact ⟨_,q,rfl,HE.out.1,HE.out.2.1,HE.out.2.2.1,HE.out.2.2.2.1,HE.out.2.2.2.2⟩
def WVal (w : World) (t : Int) (x : Ending) (w' : World) : Prop:=∃ n v zs,x = .returned (.agg #[.bool n,v]) /\ w'.ownsRow w.heap.size 69 1 v zs.length (zs.map (Value.int .u32)) /\ Wd zs /\ Trimmed zs /\ wval n zs = t /\ Below w.heap.size w w'
def One (U w' : World) (v : Value) (zs : List Int) (t : Int) : Prop:=w'.ownsRow U.heap.size 69 1 v zs.length (zs.map (Value.int .u32)) /\ Wd zs /\ Trimmed zs /\ val zs = t
theorem One.later {U V W : World} {v : Value} {zs : List Int} {t : Int} (h : One U V v zs t) (hb : Below V.heap.size V W) : One U W v zs t:=⟨owns_later h.1 hb,h.2⟩
theorem One.sl {U V : World} {v : Value} {zs : List Int} {t : Int} (h : One U V v zs t) : Sl V v zs:=Sl.own h.1 h.2.1
theorem told1_at {U : World} {f : Nat} {args : Array Value} {t : Int} (S : World -> Prop) (hS : ∀ w',Below U.heap.size U w' -> S w') (ww : World) (hb : Below U.heap.size U ww) (C : Calls Tryz.prog f args ww (Told1 ww t)) :
 Calls Tryz.prog f args ww fun e w' => ∃ a2 zs c2,e = .returned (.slice a2 zs.length c2) /\ Hid (One U w' (.slice a2 zs.length c2) zs t) /\ S w' /\ Below U.heap.size U w' /\ Hid (Below ww.heap.size ww w') :=
 Calls.mono C fun e w' h => by
  obtain ⟨v,zs,rfl,o,h1,h2,h3,hb2⟩:=h
  obtain ⟨a2,c2,hs2⟩:=own_slice' o
  subst hs2
  exact ⟨a2,zs,c2,rfl,⟨owns_base o hb.size,h1,h2,h3⟩,hS w' (bt hb hb2),bt hb hb2,hb2⟩
set_option maxRecDepth 100000 in
theorem rsigned_any (n : Bool) (v : Value) (xs : List Int) (m0 : Bool) (u : Value) (ys : List Int) (w : World) (h : Sl w v xs) (g : Sl w u ys) (lx : xs.length <= 8191) (ly : ys.length <= 8191) (tx : Trimmed xs) (ty : Trimmed ys) :
 Calls Tryz.prog 293 #[.agg #[.bool n,v],.agg #[.bool m0,u]] w (WVal w (wval n xs + wval m0 ys)):=by
 obtain ⟨a,cap,rfl,hr⟩:=h
 obtain ⟨b,cap',rfl,gr⟩:=g
 have h : Sl w (.slice a xs.length cap) xs:=⟨a,cap,rfl,hr⟩
 have g : Sl w (.slice b ys.length cap') ys:=⟨b,cap',rfl,gr⟩
 clear hr gr
 have HB : Hid (Below w.heap.size w (((w.alloc (.cells #[.bool n,.slice a xs.length cap] 152)).alloc (.cells #[.bool m0,.slice b ys.length cap'] 152)).alloc (.cells #[.bool false,.slice none 0 0] 152))):=bt (bt (alloc_later _ _) (alloc_later _ _)) (alloc_later _ _)
 have HXB : Hid (Box (((w.alloc (.cells #[.bool n,.slice a xs.length cap] 152)).alloc (.cells #[.bool m0,.slice b ys.length cap'] 152)).alloc (.cells #[.bool false,.slice none 0 0] 152)) (w.heap.size + 1 + 1) 152 #[.bool false,.slice none 0 0]):=by
  have e:=Box.made ((w.alloc (.cells #[.bool n,.slice a xs.length cap] 152)).alloc (.cells #[.bool m0,.slice b ys.length cap'] 152)) 152 #[.bool false,.slice none 0 0]
  simp at e
  exact e
 have HXR : Hid (w.heap.size <= w.heap.size + 1 + 1 /\ w.heap.size + 1 + 1 < (((w.alloc (.cells #[.bool n,.slice a xs.length cap] 152)).alloc (.cells #[.bool m0,.slice b ys.length cap'] 152)).alloc (.cells #[.bool false,.slice none 0 0] 152)).heap.size):=⟨by omega,HXB.out.lt⟩
 have HN : Hid (Box (((w.alloc (.cells #[.bool n,.slice a xs.length cap] 152)).alloc (.cells #[.bool m0,.slice b ys.length cap'] 152)).alloc (.cells #[.bool false,.slice none 0 0] 152)) w.heap.size 152 #[.bool n,.slice a xs.length cap]):=Box.later (Box.made w _ _) (bt (alloc_later _ _) (alloc_later _ _)) (by simp)
 have HM : Hid (Box (((w.alloc (.cells #[.bool n,.slice a xs.length cap] 152)).alloc (.cells #[.bool m0,.slice b ys.length cap'] 152)).alloc (.cells #[.bool false,.slice none 0 0] 152)) (w.heap.size + 1) 152 #[.bool m0,.slice b ys.length cap']):=by
  have e:=Box.later (Box.made (w.alloc (.cells #[.bool n,.slice a xs.length cap] 152)) 152 #[.bool m0,.slice b ys.length cap']) (alloc_later ((w.alloc (.cells #[.bool n,.slice a xs.length cap] 152)).alloc (.cells #[.bool m0,.slice b ys.length cap'] 152)) (.cells #[.bool false,.slice none 0 0] 152)) (by simp)
  simp at e
  exact e
 have HSL:=hid (And.intro (h.later HB.out) (g.later HB.out))
 have HCM:=hid (compare_sl _ _ xs ys _ HSL.out.1 HSL.out.2 (by omega) (by omega))
 clear h g
 cases n with
 | false =>
  cases m0 with
  | false =>
   clear HCM
   have HBU:=hid HB.out
   have HUS : Hid (w.heap.size + 1 + 1 < (((w.alloc (.cells #[.bool false,.slice a xs.length cap] 152)).alloc (.cells #[.bool false,.slice b ys.length cap'] 152)).alloc (.cells #[.bool false,.slice none 0 0] 152)).heap.size):=HXR.out.2
   go_enter Tryz.func293,Tryz.ntmps293
   have HK : Hid (∀ w',Below (((w.alloc (.cells #[.bool false,.slice a xs.length cap] 152)).alloc (.cells #[.bool false,.slice b ys.length cap'] 152)).alloc (.cells #[.bool false,.slice none 0 0] 152)).heap.size (((w.alloc (.cells #[.bool false,.slice a xs.length cap] 152)).alloc (.cells #[.bool false,.slice b ys.length cap'] 152)).alloc (.cells #[.bool false,.slice none 0 0] 152)) w' -> (fun w' : World => ((fun w' : World => w'.cell? ⟨w.heap.size,0,none⟩ = some (.bool false) /\ w'.cell? ⟨w.heap.size,1,none⟩ = some (.slice a xs.length cap) /\ w'.cell? ⟨w.heap.size + 1,0,none⟩ = some (.bool false) /\ w'.cell? ⟨w.heap.size + 1,1,none⟩ = some (.slice b ys.length cap'))) w' /\ w'.cell? ⟨w.heap.size + 1 + 1,0,none⟩ = some (.bool false) /\ w'.cell? ⟨w.heap.size + 1 + 1,1,none⟩ = some (.slice none 0 0) /\ w'.frozen? ⟨w.heap.size + 1 + 1,0,none⟩ = false /\ w'.frozen? ⟨w.heap.size + 1 + 1,1,none⟩ = false) w'):=fun w' hb => by
    have hx : Below (((w.alloc (.cells #[.bool false,.slice a xs.length cap] 152)).alloc (.cells #[.bool false,.slice b ys.length cap'] 152)).alloc (.cells #[.bool false,.slice none 0 0] 152)).heap.size _ w':=hb
    obtain ⟨r0,r1,f0,f1⟩:=res_box HXB.out hx
    obtain ⟨p0,p1,_,_⟩:=res_box HN.out hx
    obtain ⟨q0,q1,_,_⟩:=res_box HM.out hx
    exact ⟨⟨p0,p1,q0,q1⟩,r0,r1,f0,f1⟩
   have HF:=hid (fun ww (hb : Below (((w.alloc (.cells #[.bool false,.slice a xs.length cap] 152)).alloc (.cells #[.bool false,.slice b ys.length cap'] 152)).alloc (.cells #[.bool false,.slice none 0 0] 152)).heap.size (((w.alloc (.cells #[.bool false,.slice a xs.length cap] 152)).alloc (.cells #[.bool false,.slice b ys.length cap'] 152)).alloc (.cells #[.bool false,.slice none 0 0] 152)) ww) => told1_at _ HK.out ww hb (rsum_any _ _ xs ys ww (HSL.out.1.later hb) (HSL.out.2.later hb) lx ly tx ty))
   have hs0:=(HK.out _ (Below.drew (Below.refl _ (((w.alloc (.cells #[.bool false,.slice a xs.length cap] 152)).alloc (.cells #[.bool false,.slice b ys.length cap'] 152)).alloc (.cells #[.bool false,.slice none 0 0] 152))))).1
   have hq0 : w.heap.size + 1 + 1 ≠ w.heap.size:=by omega
   go_wp2_with fail
   go_region_held3 (fun w' : World => w'.cell? ⟨w.heap.size,0,none⟩ = some (.bool false) /\ w'.cell? ⟨w.heap.size,1,none⟩ = some (.slice a xs.length cap) /\ w'.cell? ⟨w.heap.size + 1,0,none⟩ = some (.bool false) /\ w'.cell? ⟨w.heap.size + 1,1,none⟩ = some (.slice b ys.length cap')) (first | exact hs1 | exact hs0 | (simp [hs1,World.cell?_setCell_far,hq0]))
    (first | (go_at_call 306; refine Calls.mono (HF.out _ (Below.drew (Below.refl _ _))) ?_; rintro e w2 ⟨a2,zs,c2,rfl,HE,⟨hs1,r0,r1,f0,f1⟩,hb2,_⟩))
   all_goals
    go_wp2_with fail
    refine bodyPost_ret (v:=.agg #[.bool false,.slice a2 zs.length c2]) (by simp [results,Tryz.results293,go_sem,r0,r1]) rfl ?_
    refine ⟨false,_,zs,rfl,owns_base (own_put2 HE.out.1 _ (fun g hg => ?_) _ _) (by have:=HXR.out; have:=HBU.out.size; omega),HE.out.2.1,HE.out.2.2.1,?_,below_put2 (bt HBU.out hb2) _ (by have:=HXR.out; omega) _ _⟩
    · have h1:=(World.ownsRow.lt HE.out.1 g hg).1
      have h2:=HXR.out
      have h3:=HUS.out
      omega
    · have e:=HE.out.2.2.2
      show _ = _
      simp [wval] at e ⊢
      omega
  | true =>
   by_cases hlt : val xs < val ys
   · rw [cmpI_lt hlt] at HCM
     go_enter Tryz.func293,Tryz.ntmps293
     go_wp2_with fail
     refine Calls.mono HCM.out ?_
     rintro e w1 ⟨rfl,hb1⟩
     obtain ⟨p0,p1,_,_⟩:=res_box HN.out hb1
     obtain ⟨q0,q1,_,_⟩:=res_box HM.out hb1
     have HB1:=hid hb1
     have HBU:=hid (bt HB.out hb1)
     have HUS : Hid (w.heap.size + 1 + 1 < w1.heap.size):=by
      show _ < _
      have h1:=HXR.out.2
      have h2:=HB1.out.size
      omega
     clear hb1 HCM
     have HK : Hid (∀ w',Below w1.heap.size w1 w' -> (fun w' : World => ((fun w' : World => w'.cell? ⟨w.heap.size,0,none⟩ = some (.bool false) /\ w'.cell? ⟨w.heap.size,1,none⟩ = some (.slice a xs.length cap) /\ w'.cell? ⟨w.heap.size + 1,0,none⟩ = some (.bool true) /\ w'.cell? ⟨w.heap.size + 1,1,none⟩ = some (.slice b ys.length cap'))) w' /\ w'.cell? ⟨w.heap.size + 1 + 1,0,none⟩ = some (.bool false) /\ w'.cell? ⟨w.heap.size + 1 + 1,1,none⟩ = some (.slice none 0 0) /\ w'.frozen? ⟨w.heap.size + 1 + 1,0,none⟩ = false /\ w'.frozen? ⟨w.heap.size + 1 + 1,1,none⟩ = false) w'):=fun w' hb => by
      have hx : Below (((w.alloc (.cells #[.bool false,.slice a xs.length cap] 152)).alloc (.cells #[.bool true,.slice b ys.length cap'] 152)).alloc (.cells #[.bool false,.slice none 0 0] 152)).heap.size _ w':=bt HB1.out hb
      obtain ⟨r0,r1,f0,f1⟩:=res_box HXB.out hx
      obtain ⟨p0,p1,_,_⟩:=res_box HN.out hx
      obtain ⟨q0,q1,_,_⟩:=res_box HM.out hx
      exact ⟨⟨p0,p1,q0,q1⟩,r0,r1,f0,f1⟩
     have HF:=hid (fun ww (hb : Below w1.heap.size w1 ww) => told1_at _ HK.out ww hb (rdiff_any _ _ ys xs ww ((HSL.out.2.later HB1.out).later hb) ((HSL.out.1.later HB1.out).later hb) (by omega) (by omega) ty tx (by omega)))
     have hs0:=(HK.out _ (Below.drew (Below.refl _ w1))).1
     have hq0 : w.heap.size + 1 + 1 ≠ w.heap.size:=by omega
     go_wp2_with fail
     go_region_held3 (fun w' : World => w'.cell? ⟨w.heap.size,0,none⟩ = some (.bool false) /\ w'.cell? ⟨w.heap.size,1,none⟩ = some (.slice a xs.length cap) /\ w'.cell? ⟨w.heap.size + 1,0,none⟩ = some (.bool true) /\ w'.cell? ⟨w.heap.size + 1,1,none⟩ = some (.slice b ys.length cap')) (first | exact hs1 | exact hs0 | (simp [hs1,World.cell?_setCell_far,hq0]))
      (first | (go_at_call 307; refine Calls.mono (HF.out _ (Below.drew (Below.refl _ _))) ?_; rintro e w2 ⟨a2,zs,c2,rfl,HE,⟨hs1,r0,r1,f0,f1⟩,hb2,_⟩))
     all_goals
      go_wp2_with fail
      refine bodyPost_ret (v:=.agg #[.bool true,.slice a2 zs.length c2]) (by simp [results,Tryz.results293,go_sem,r0,r1]) rfl ?_
      refine ⟨true,_,zs,rfl,owns_base (own_put2 HE.out.1 _ (fun g hg => ?_) _ _) (by have:=HXR.out; have:=HBU.out.size; omega),HE.out.2.1,HE.out.2.2.1,?_,below_put2 (bt HBU.out hb2) _ (by have:=HXR.out; omega) _ _⟩
      · have h1:=(World.ownsRow.lt HE.out.1 g hg).1
        have h2:=HXR.out
        have h3:=HUS.out
        omega
      · have e:=HE.out.2.2.2
        show _ = _
        simp [wval] at e ⊢
        omega
   · have hc0 : (0 : Int) <= cmpI (val xs) (val ys):=by
      by_cases c : val ys < val xs
      · rw [cmpI_gt c]; omega
      · rw [cmpI_eq (by omega)]; omega
     obtain ⟨cv,hcv⟩ : ∃ cv,cmpI (val xs) (val ys) = cv:=⟨_,rfl⟩
     rw [hcv] at HCM hc0
     have hc1 : ¬ cv < 0:=by omega
     clear hcv hc0
     go_enter Tryz.func293,Tryz.ntmps293
     go_wp2_with fail
     refine Calls.mono HCM.out ?_
     rintro e w1 ⟨rfl,hb1⟩
     obtain ⟨p0,p1,_,_⟩:=res_box HN.out hb1
     obtain ⟨q0,q1,_,_⟩:=res_box HM.out hb1
     have HB1:=hid hb1
     have HBU:=hid (bt HB.out hb1)
     have HUS : Hid (w.heap.size + 1 + 1 < w1.heap.size):=by
      show _ < _
      have h1:=HXR.out.2
      have h2:=HB1.out.size
      omega
     clear hb1 HCM
     have HK : Hid (∀ w',Below w1.heap.size w1 w' -> (fun w' : World => ((fun w' : World => w'.cell? ⟨w.heap.size,0,none⟩ = some (.bool false) /\ w'.cell? ⟨w.heap.size,1,none⟩ = some (.slice a xs.length cap) /\ w'.cell? ⟨w.heap.size + 1,0,none⟩ = some (.bool true) /\ w'.cell? ⟨w.heap.size + 1,1,none⟩ = some (.slice b ys.length cap'))) w' /\ w'.cell? ⟨w.heap.size + 1 + 1,0,none⟩ = some (.bool false) /\ w'.cell? ⟨w.heap.size + 1 + 1,1,none⟩ = some (.slice none 0 0) /\ w'.frozen? ⟨w.heap.size + 1 + 1,0,none⟩ = false /\ w'.frozen? ⟨w.heap.size + 1 + 1,1,none⟩ = false) w'):=fun w' hb => by
      have hx : Below (((w.alloc (.cells #[.bool false,.slice a xs.length cap] 152)).alloc (.cells #[.bool true,.slice b ys.length cap'] 152)).alloc (.cells #[.bool false,.slice none 0 0] 152)).heap.size _ w':=bt HB1.out hb
      obtain ⟨r0,r1,f0,f1⟩:=res_box HXB.out hx
      obtain ⟨p0,p1,_,_⟩:=res_box HN.out hx
      obtain ⟨q0,q1,_,_⟩:=res_box HM.out hx
      exact ⟨⟨p0,p1,q0,q1⟩,r0,r1,f0,f1⟩
     have HF:=hid (fun ww (hb : Below w1.heap.size w1 ww) => told1_at _ HK.out ww hb (rdiff_any _ _ xs ys ww ((HSL.out.1.later HB1.out).later hb) ((HSL.out.2.later HB1.out).later hb) (by omega) (by omega) tx ty (by omega)))
     have hs0:=(HK.out _ (Below.drew (Below.refl _ w1))).1
     have hq0 : w.heap.size + 1 + 1 ≠ w.heap.size:=by omega
     go_wp2_with fail
     go_region_held3 (fun w' : World => w'.cell? ⟨w.heap.size,0,none⟩ = some (.bool false) /\ w'.cell? ⟨w.heap.size,1,none⟩ = some (.slice a xs.length cap) /\ w'.cell? ⟨w.heap.size + 1,0,none⟩ = some (.bool true) /\ w'.cell? ⟨w.heap.size + 1,1,none⟩ = some (.slice b ys.length cap')) (first | exact hs1 | exact hs0 | (simp [hs1,World.cell?_setCell_far,hq0]))
      (first | (go_at_call 307; refine Calls.mono (HF.out _ (Below.drew (Below.refl _ _))) ?_; rintro e w2 ⟨a2,zs,c2,rfl,HE,⟨hs1,r0,r1,f0,f1⟩,hb2,_⟩))
     all_goals
      go_wp2_with fail
      refine bodyPost_ret (v:=.agg #[.bool false,.slice a2 zs.length c2]) (by simp [results,Tryz.results293,go_sem,r0,r1]) rfl ?_
      refine ⟨false,_,zs,rfl,owns_base (own_put2 HE.out.1 _ (fun g hg => ?_) _ _) (by have:=HXR.out; have:=HBU.out.size; omega),HE.out.2.1,HE.out.2.2.1,?_,below_put2 (bt HBU.out hb2) _ (by have:=HXR.out; omega) _ _⟩
      · have h1:=(World.ownsRow.lt HE.out.1 g hg).1
        have h2:=HXR.out
        have h3:=HUS.out
        omega
      · have e:=HE.out.2.2.2
        show _ = _
        simp [wval] at e ⊢
        omega
 | true =>
  cases m0 with
  | false =>
   by_cases hlt : val xs < val ys
   · rw [cmpI_lt hlt] at HCM
     go_enter Tryz.func293,Tryz.ntmps293
     go_wp2_with fail
     refine Calls.mono HCM.out ?_
     rintro e w1 ⟨rfl,hb1⟩
     obtain ⟨p0,p1,_,_⟩:=res_box HN.out hb1
     obtain ⟨q0,q1,_,_⟩:=res_box HM.out hb1
     have HB1:=hid hb1
     have HBU:=hid (bt HB.out hb1)
     have HUS : Hid (w.heap.size + 1 + 1 < w1.heap.size):=by
      show _ < _
      have h1:=HXR.out.2
      have h2:=HB1.out.size
      omega
     clear hb1 HCM
     have HK : Hid (∀ w',Below w1.heap.size w1 w' -> (fun w' : World => ((fun w' : World => w'.cell? ⟨w.heap.size,0,none⟩ = some (.bool true) /\ w'.cell? ⟨w.heap.size,1,none⟩ = some (.slice a xs.length cap) /\ w'.cell? ⟨w.heap.size + 1,0,none⟩ = some (.bool false) /\ w'.cell? ⟨w.heap.size + 1,1,none⟩ = some (.slice b ys.length cap'))) w' /\ w'.cell? ⟨w.heap.size + 1 + 1,0,none⟩ = some (.bool false) /\ w'.cell? ⟨w.heap.size + 1 + 1,1,none⟩ = some (.slice none 0 0) /\ w'.frozen? ⟨w.heap.size + 1 + 1,0,none⟩ = false /\ w'.frozen? ⟨w.heap.size + 1 + 1,1,none⟩ = false) w'):=fun w' hb => by
      have hx : Below (((w.alloc (.cells #[.bool true,.slice a xs.length cap] 152)).alloc (.cells #[.bool false,.slice b ys.length cap'] 152)).alloc (.cells #[.bool false,.slice none 0 0] 152)).heap.size _ w':=bt HB1.out hb
      obtain ⟨r0,r1,f0,f1⟩:=res_box HXB.out hx
      obtain ⟨p0,p1,_,_⟩:=res_box HN.out hx
      obtain ⟨q0,q1,_,_⟩:=res_box HM.out hx
      exact ⟨⟨p0,p1,q0,q1⟩,r0,r1,f0,f1⟩
     have HF:=hid (fun ww (hb : Below w1.heap.size w1 ww) => told1_at _ HK.out ww hb (rdiff_any _ _ ys xs ww ((HSL.out.2.later HB1.out).later hb) ((HSL.out.1.later HB1.out).later hb) (by omega) (by omega) ty tx (by omega)))
     have hs0:=(HK.out _ (Below.drew (Below.refl _ w1))).1
     have hq0 : w.heap.size + 1 + 1 ≠ w.heap.size:=by omega
     go_wp2_with fail
     go_region_held3 (fun w' : World => w'.cell? ⟨w.heap.size,0,none⟩ = some (.bool true) /\ w'.cell? ⟨w.heap.size,1,none⟩ = some (.slice a xs.length cap) /\ w'.cell? ⟨w.heap.size + 1,0,none⟩ = some (.bool false) /\ w'.cell? ⟨w.heap.size + 1,1,none⟩ = some (.slice b ys.length cap')) (first | exact hs1 | exact hs0 | (simp [hs1,World.cell?_setCell_far,hq0]))
      (first | (go_at_call 307; refine Calls.mono (HF.out _ (Below.drew (Below.refl _ _))) ?_; rintro e w2 ⟨a2,zs,c2,rfl,HE,⟨hs1,r0,r1,f0,f1⟩,hb2,_⟩))
     all_goals
      go_wp2_with fail
      refine bodyPost_ret (v:=.agg #[.bool false,.slice a2 zs.length c2]) (by simp [results,Tryz.results293,go_sem,r0,r1]) rfl ?_
      refine ⟨false,_,zs,rfl,owns_base (own_put2 HE.out.1 _ (fun g hg => ?_) _ _) (by have:=HXR.out; have:=HBU.out.size; omega),HE.out.2.1,HE.out.2.2.1,?_,below_put2 (bt HBU.out hb2) _ (by have:=HXR.out; omega) _ _⟩
      · have h1:=(World.ownsRow.lt HE.out.1 g hg).1
        have h2:=HXR.out
        have h3:=HUS.out
        omega
      · have e:=HE.out.2.2.2
        show _ = _
        simp [wval] at e ⊢
        omega
   · have hc0 : (0 : Int) <= cmpI (val xs) (val ys):=by
      by_cases c : val ys < val xs
      · rw [cmpI_gt c]; omega
      · rw [cmpI_eq (by omega)]; omega
     obtain ⟨cv,hcv⟩ : ∃ cv,cmpI (val xs) (val ys) = cv:=⟨_,rfl⟩
     rw [hcv] at HCM hc0
     have hc1 : ¬ cv < 0:=by omega
     clear hcv hc0
     go_enter Tryz.func293,Tryz.ntmps293
     go_wp2_with fail
     refine Calls.mono HCM.out ?_
     rintro e w1 ⟨rfl,hb1⟩
     obtain ⟨p0,p1,_,_⟩:=res_box HN.out hb1
     obtain ⟨q0,q1,_,_⟩:=res_box HM.out hb1
     have HB1:=hid hb1
     have HBU:=hid (bt HB.out hb1)
     have HUS : Hid (w.heap.size + 1 + 1 < w1.heap.size):=by
      show _ < _
      have h1:=HXR.out.2
      have h2:=HB1.out.size
      omega
     clear hb1 HCM
     have HK : Hid (∀ w',Below w1.heap.size w1 w' -> (fun w' : World => ((fun w' : World => w'.cell? ⟨w.heap.size,0,none⟩ = some (.bool true) /\ w'.cell? ⟨w.heap.size,1,none⟩ = some (.slice a xs.length cap) /\ w'.cell? ⟨w.heap.size + 1,0,none⟩ = some (.bool false) /\ w'.cell? ⟨w.heap.size + 1,1,none⟩ = some (.slice b ys.length cap'))) w' /\ w'.cell? ⟨w.heap.size + 1 + 1,0,none⟩ = some (.bool false) /\ w'.cell? ⟨w.heap.size + 1 + 1,1,none⟩ = some (.slice none 0 0) /\ w'.frozen? ⟨w.heap.size + 1 + 1,0,none⟩ = false /\ w'.frozen? ⟨w.heap.size + 1 + 1,1,none⟩ = false) w'):=fun w' hb => by
      have hx : Below (((w.alloc (.cells #[.bool true,.slice a xs.length cap] 152)).alloc (.cells #[.bool false,.slice b ys.length cap'] 152)).alloc (.cells #[.bool false,.slice none 0 0] 152)).heap.size _ w':=bt HB1.out hb
      obtain ⟨r0,r1,f0,f1⟩:=res_box HXB.out hx
      obtain ⟨p0,p1,_,_⟩:=res_box HN.out hx
      obtain ⟨q0,q1,_,_⟩:=res_box HM.out hx
      exact ⟨⟨p0,p1,q0,q1⟩,r0,r1,f0,f1⟩
     have HF:=hid (fun ww (hb : Below w1.heap.size w1 ww) => told1_at _ HK.out ww hb (rdiff_any _ _ xs ys ww ((HSL.out.1.later HB1.out).later hb) ((HSL.out.2.later HB1.out).later hb) (by omega) (by omega) tx ty (by omega)))
     have hs0:=(HK.out _ (Below.drew (Below.refl _ w1))).1
     have hq0 : w.heap.size + 1 + 1 ≠ w.heap.size:=by omega
     go_wp2_with fail
     go_region_held3 (fun w' : World => w'.cell? ⟨w.heap.size,0,none⟩ = some (.bool true) /\ w'.cell? ⟨w.heap.size,1,none⟩ = some (.slice a xs.length cap) /\ w'.cell? ⟨w.heap.size + 1,0,none⟩ = some (.bool false) /\ w'.cell? ⟨w.heap.size + 1,1,none⟩ = some (.slice b ys.length cap')) (first | exact hs1 | exact hs0 | (simp [hs1,World.cell?_setCell_far,hq0]))
      (first | (go_at_call 307; refine Calls.mono (HF.out _ (Below.drew (Below.refl _ _))) ?_; rintro e w2 ⟨a2,zs,c2,rfl,HE,⟨hs1,r0,r1,f0,f1⟩,hb2,_⟩))
     all_goals
      go_wp2_with fail
      refine bodyPost_ret (v:=.agg #[.bool true,.slice a2 zs.length c2]) (by simp [results,Tryz.results293,go_sem,r0,r1]) rfl ?_
      refine ⟨true,_,zs,rfl,owns_base (own_put2 HE.out.1 _ (fun g hg => ?_) _ _) (by have:=HXR.out; have:=HBU.out.size; omega),HE.out.2.1,HE.out.2.2.1,?_,below_put2 (bt HBU.out hb2) _ (by have:=HXR.out; omega) _ _⟩
      · have h1:=(World.ownsRow.lt HE.out.1 g hg).1
        have h2:=HXR.out
        have h3:=HUS.out
        omega
      · have e:=HE.out.2.2.2
        show _ = _
        simp [wval] at e ⊢
        omega
  | true =>
   clear HCM
   have HBU:=hid HB.out
   have HUS : Hid (w.heap.size + 1 + 1 < (((w.alloc (.cells #[.bool true,.slice a xs.length cap] 152)).alloc (.cells #[.bool true,.slice b ys.length cap'] 152)).alloc (.cells #[.bool false,.slice none 0 0] 152)).heap.size):=HXR.out.2
   go_enter Tryz.func293,Tryz.ntmps293
   have HK : Hid (∀ w',Below (((w.alloc (.cells #[.bool true,.slice a xs.length cap] 152)).alloc (.cells #[.bool true,.slice b ys.length cap'] 152)).alloc (.cells #[.bool false,.slice none 0 0] 152)).heap.size (((w.alloc (.cells #[.bool true,.slice a xs.length cap] 152)).alloc (.cells #[.bool true,.slice b ys.length cap'] 152)).alloc (.cells #[.bool false,.slice none 0 0] 152)) w' -> (fun w' : World => ((fun w' : World => w'.cell? ⟨w.heap.size,0,none⟩ = some (.bool true) /\ w'.cell? ⟨w.heap.size,1,none⟩ = some (.slice a xs.length cap) /\ w'.cell? ⟨w.heap.size + 1,0,none⟩ = some (.bool true) /\ w'.cell? ⟨w.heap.size + 1,1,none⟩ = some (.slice b ys.length cap'))) w' /\ w'.cell? ⟨w.heap.size + 1 + 1,0,none⟩ = some (.bool false) /\ w'.cell? ⟨w.heap.size + 1 + 1,1,none⟩ = some (.slice none 0 0) /\ w'.frozen? ⟨w.heap.size + 1 + 1,0,none⟩ = false /\ w'.frozen? ⟨w.heap.size + 1 + 1,1,none⟩ = false) w'):=fun w' hb => by
    have hx : Below (((w.alloc (.cells #[.bool true,.slice a xs.length cap] 152)).alloc (.cells #[.bool true,.slice b ys.length cap'] 152)).alloc (.cells #[.bool false,.slice none 0 0] 152)).heap.size _ w':=hb
    obtain ⟨r0,r1,f0,f1⟩:=res_box HXB.out hx
    obtain ⟨p0,p1,_,_⟩:=res_box HN.out hx
    obtain ⟨q0,q1,_,_⟩:=res_box HM.out hx
    exact ⟨⟨p0,p1,q0,q1⟩,r0,r1,f0,f1⟩
   have HF:=hid (fun ww (hb : Below (((w.alloc (.cells #[.bool true,.slice a xs.length cap] 152)).alloc (.cells #[.bool true,.slice b ys.length cap'] 152)).alloc (.cells #[.bool false,.slice none 0 0] 152)).heap.size (((w.alloc (.cells #[.bool true,.slice a xs.length cap] 152)).alloc (.cells #[.bool true,.slice b ys.length cap'] 152)).alloc (.cells #[.bool false,.slice none 0 0] 152)) ww) => told1_at _ HK.out ww hb (rsum_any _ _ xs ys ww (HSL.out.1.later hb) (HSL.out.2.later hb) lx ly tx ty))
   have hs0:=(HK.out _ (Below.drew (Below.refl _ (((w.alloc (.cells #[.bool true,.slice a xs.length cap] 152)).alloc (.cells #[.bool true,.slice b ys.length cap'] 152)).alloc (.cells #[.bool false,.slice none 0 0] 152))))).1
   have hq0 : w.heap.size + 1 + 1 ≠ w.heap.size:=by omega
   go_wp2_with fail
   go_region_held3 (fun w' : World => w'.cell? ⟨w.heap.size,0,none⟩ = some (.bool true) /\ w'.cell? ⟨w.heap.size,1,none⟩ = some (.slice a xs.length cap) /\ w'.cell? ⟨w.heap.size + 1,0,none⟩ = some (.bool true) /\ w'.cell? ⟨w.heap.size + 1,1,none⟩ = some (.slice b ys.length cap')) (first | exact hs1 | exact hs0 | (simp [hs1,World.cell?_setCell_far,hq0]))
    (first | (go_at_call 306; refine Calls.mono (HF.out _ (Below.drew (Below.refl _ _))) ?_; rintro e w2 ⟨a2,zs,c2,rfl,HE,⟨hs1,r0,r1,f0,f1⟩,hb2,_⟩))
   all_goals
    go_wp2_with fail
    refine bodyPost_ret (v:=.agg #[.bool true,.slice a2 zs.length c2]) (by simp [results,Tryz.results293,go_sem,r0,r1]) rfl ?_
    refine ⟨true,_,zs,rfl,owns_base (own_put2 HE.out.1 _ (fun g hg => ?_) _ _) (by have:=HXR.out; have:=HBU.out.size; omega),HE.out.2.1,HE.out.2.2.1,?_,below_put2 (bt HBU.out hb2) _ (by have:=HXR.out; omega) _ _⟩
    · have h1:=(World.ownsRow.lt HE.out.1 g hg).1
      have h2:=HXR.out
      have h3:=HUS.out
      omega
    · have e:=HE.out.2.2.2
      show _ = _
      simp [wval] at e ⊢
      omega
theorem div_gcd_left {x y g : Int} (hg : g = gcdI x y) : x = x / g * g:=(Int.ediv_mul_cancel (by rw [hg]; exact Int.gcd_dvd_left ..)).symm
theorem div_gcd_right {x y g : Int} (hg : g = gcdI x y) : y = y / g * g:=(Int.ediv_mul_cancel (by rw [hg]; exact Int.gcd_dvd_right ..)).symm
theorem gcd_pos_right {x y : Int} (h : 0 < y) : 0 < gcdI x y:=by
 have : 0 < Int.gcd x y:=Int.gcd_pos_iff.2 (Or.inr (by omega))
 unfold gcdI; omega
theorem gcd_le_right {x y : Int} (h : 0 < y) : gcdI x y <= y:=Int.le_of_dvd h (Int.gcd_dvd_right ..)
theorem sg_mul (n : Bool) (x y : Int) : sg n (x * y) = sg n x * y:=by cases n <;> simp [sg,Int.neg_mul]
theorem add_parts {n m nn : Bool} {xs ys us vs : List Int} {g rA rB p1 p2 N s q1 e den : Int} (hy : 0 < val ys) (hv : 0 < val vs) (h1 : gcdI (val xs) (val ys) = 1) (h2 : gcdI (val us) (val vs) = 1)
 (hg : g = gcdI (val ys) (val vs)) (hA : rA = val ys / g) (hB : rB = val vs / g) (hp1 : p1 = val xs * rB) (hp2 : p2 = val us * rA) (hN : sg nn N = sg n p1 + sg m p2) (hs : s = gcdI N g) (hq : q1 = N / s) (he : e = val vs / s) (hd : den = rA * e) :
 0 < den /\ gcdI q1 den = 1 /\ Rat.divInt (sg nn q1) den = rq n xs ys + rq m us vs:=by
 have g0 : 0 < g:=by rw [hg]; exact gcd_pos_right hv
 have k1 : val ys = rA * g:=by rw [hA]; exact div_gcd_left hg
 have k2 : val vs = rB * g:=by rw [hB]; exact div_gcd_right hg
 have k3 : N = q1 * s:=by rw [hq]; exact div_gcd_left hs
 have sg' : s ∣ g:=by rw [hs]; exact Int.gcd_dvd_right ..
 have k4 : val vs = e * s:=by rw [he]; exact (Int.ediv_mul_cancel (Int.dvd_trans sg' ⟨rB,by rw [k2,Int.mul_comm]⟩)).symm
 have hN' : sg nn N = sg n (val xs) * rB + sg m (val us) * rA:=by rw [hN,hp1,hp2,sg_mul,sg_mul]
 have hs' : s = gcdI (sg nn N) g:=by rw [gcd_sg]; exact hs
 have r:=fr_add (a:=sg n (val xs)) (c:=sg m (val us)) (p:=sg nn q1) hy hv (by rw [gcd_sg]; exact h1) (by rw [gcd_sg]; exact h2) hg k1 k2 hN' hs' (by rw [<- sg_mul,<- k3]) k4
 rw [<- hd,gcd_sg] at r
 exact r
theorem mul_parts {n m : Bool} {xs ys us vs : List Int} {f s num den : Int} (hy : 0 < val ys) (hv : 0 < val vs) (h1 : gcdI (val xs) (val ys) = 1) (h2 : gcdI (val us) (val vs) = 1)
 (hf : f = gcdI (val xs) (val vs)) (hs : s = gcdI (val us) (val ys)) (hn : num = val xs / f * (val us / s)) (hd : den = val ys / s * (val vs / f)) :
 0 < den /\ gcdI num den = 1 /\ Rat.divInt (sg (n != m) num) den = rq n xs ys * rq m us vs:=by
 have r:=fr_mul (a:=sg n (val xs)) (c:=sg m (val us)) (a1:=sg n (val xs / f)) (c1:=sg m (val us / s)) hy hv (by rw [gcd_sg]; exact h1) (by rw [gcd_sg]; exact h2) (by rw [gcd_sg]; exact hf) (by rw [gcd_sg]; exact hs) (by rw [<- sg_mul,<- div_gcd_left hf]) (div_gcd_right hf) (by rw [<- sg_mul,<- div_gcd_left hs]) (div_gcd_right hs)
 have e : sg n (val xs / f) * sg m (val us / s) = sg (n != m) num:=by rw [hn]; exact (mul_sign n m _ _).symm
 rw [e,<- hd,gcd_sg] at r
 exact r
theorem mul_4096 {x y : Int} (h0 : 0 <= x) (hx : x < 4294967296 ^ 2048) (g0 : 0 <= y) (hy : y < 4294967296 ^ 2048) : x * y < 4294967296 ^ 4096:=by
 have e : (4294967296 : Int) ^ 4096 = 4294967296 ^ 2048 * 4294967296 ^ 2048:=by rw [<- Int.pow_add]
 have p:=pw_pos 2048
 rw [e]
 generalize (4294967296 : Int) ^ 2048 = P at *
 have e1 : x * y <= x * P:=Int.mul_le_mul_of_nonneg_left (by omega) h0
 have e2 : x * P < P * P:=Int.mul_lt_mul_of_pos_right hx p
 omega
theorem own_len {v : Value} {zs : List Int} {U V : World} {t : Int} (h : One U V v zs t) {L : Nat} (hl : t < 4294967296 ^ L) : zs.length <= L:=len_of_lt h.2.1 h.2.2.1 (by rw [h.2.2.2]; exact hl)
theorem own_pos {v : Value} {zs : List Int} {U V : World} {t : Int} (h : One U V v zs t) (h0 : 0 < t) : 0 < zs.length:=by
 by_cases c : 0 < zs.length
 · exact c
 · have:=trimmed_zero' (us:=zs) (by omega)
   have:=h.2.2.2
   omega
theorem quot_by {U ww : World} {a : Option Addr} {ca : Nat} {xs : List Int} {a1 : Option Addr} {z1 : List Int} {c1 : Nat} {g : Int} (S : World -> Prop) (hS : ∀ w',Below U.heap.size U w' -> S w') (hb : Below U.heap.size U ww) (hx : Sl ww (.slice a xs.length ca) xs) (lx : xs.length <= 8192) (tx : Trimmed xs) (h : One U ww (.slice a1 z1.length c1) z1 g) (h0 : 0 < g) (hl : g < 4294967296 ^ 2048) :
 Calls Tryz.prog 292 #[.slice a xs.length ca,.slice a1 z1.length c1] ww fun e w' => ∃ a2 zs c2,e = .returned (.slice a2 zs.length c2) /\ Hid (One U w' (.slice a2 zs.length c2) zs (val xs / g)) /\ S w' /\ Below U.heap.size U w' /\ Hid (Below ww.heap.size ww w'):=by
 have e:=rquot_any _ _ xs z1 ww hx h.sl lx (by have:=own_len h hl; omega) tx h.2.2.1 (own_pos h h0)
 rw [h.2.2.2] at e
 exact told1_at S hS ww hb e
def Cut (w : World) (v u : Value) (w' : World) : Prop:=∃ c,w.heap.size <= c /\ c <= w'.heap.size /\ Lies v w.heap.size c /\ Lies u c w'.heap.size
theorem Cut.up {w w' W W' : World} {v u : Value} (h : Cut w v u w') (h0 : W.heap.size <= w.heap.size) (h1 : w'.heap.size <= W'.heap.size) : Cut W v u W':=by
 obtain ⟨c,c0,c1,l0,l1⟩:=h
 exact ⟨c,Nat.le_trans h0 c0,Nat.le_trans c1 h1,fun g hg => ⟨Nat.le_trans h0 (l0 g hg).1,(l0 g hg).2⟩,fun g hg => ⟨(l1 g hg).1,Nat.lt_of_lt_of_le (l1 g hg).2 h1⟩⟩
theorem Box.put2 {U : World} {b t : Nat} {u0 u1 : Value} (h : Box U b t #[u0,u1]) (v0 v1 : Value) : Box ((U.setCell ⟨b,0,none⟩ v0).setCell ⟨b,1,none⟩ v1) b t #[v0,v1]:=(h.set 0 v0).set 1 v1
theorem own_ne_box {U : World} {base e n b t : Nat} {v : Value} {xs : List Value} {vs : Array Value} (h : U.ownsRow base e 1 v n xs) (hb : Box U b t vs) (hne : e ≠ t) : ∀ g,v.ownBlock = some g -> g ≠ b:=fun g hg => by
 rcases h.2 with ⟨rfl,_⟩ | ⟨g1,c1,u1,rfl,_,hg1,_⟩
 · simp [Value.ownBlock] at hg
 · simp [Value.ownBlock] at hg
   subst hg
   intro e1
   subst e1
   unfold Box at hb
   rw [hg1] at hb
   simp at hb
   exact hne hb.2
structure Pb (U : World) (base b : Nat) (n : Bool) (a : Option Addr) (c : Nat) (zs : List Int) : Prop where
 box : Box U b 152 #[.bool n,.slice a zs.length c]
 own : U.ownsRow base 69 1 (.slice a zs.length c) zs.length (zs.map (Value.int .u32))
 wd : Wd zs
 ok : wchk n zs = 0
structure Ab (U : World) (b : Nat) (n : Bool) (a : Option Addr) (c : Nat) (xs : List Int) : Prop where
 box : Box U b 152 #[.bool n,.slice a xs.length c]
 sl : Sl U (.slice a xs.length c) xs
 ok : wchk n xs = 0
theorem Box.c2 {U : World} {b t : Nat} {u0 u1 : Value} (h : Box U b t #[u0,u1]) : U.cell? ⟨b,0,none⟩ = some u0 /\ U.cell? ⟨b,1,none⟩ = some u1 /\ U.frozen? ⟨b,0,none⟩ = false /\ U.frozen? ⟨b,1,none⟩ = false:=⟨h.cell 0,h.cell 1,h.free 0,h.free 1⟩
def RToldA (w : World) (e : Int) (q : Rat) (x : Ending) (w' : World) : Prop :=
 ∃ n v xs u ys code,x = .returned (.tuple #[.agg #[.bool n,v,u],.int .i64 code]) /\ w'.ownsRow w.heap.size 69 1 v xs.length (xs.map (Value.int .u32)) /\ w'.ownsRow w.heap.size 69 1 u ys.length (ys.map (Value.int .u32)) /\ RTells e q n xs ys code /\ Below w.heap.size w w' /\ Cut w v u w'
theorem RTells.same {e : Int} {q : Rat} {n m : Bool} {xs ys us vs : List Int} {c d : Int} (h : RTells e q n xs ys c) (g : RTells e q m us vs d) : n = m /\ xs = us /\ ys = vs /\ c = d:=by
 by_cases he : e = 0
 · by_cases hl : rlong q
   · obtain ⟨a1,a2,a3,a4⟩:=h.long he hl
     obtain ⟨b1,b2,b3,b4⟩:=g.long he hl
     exact ⟨by rw [a1,b1],by rw [a2,b2],by rw [a3,b3],by rw [a4,b4]⟩
   · obtain ⟨a1,a2,a3⟩:=h.good he hl
     obtain ⟨b1,b2,b3⟩:=g.good he hl
     obtain ⟨_,_,tx,ty,y0,sx,gx⟩:=rchk_ok a2
     obtain ⟨_,_,tu,tv,v0,su,gu⟩:=rchk_ok b2
     have py:=val_pos' h.wy ty y0
     have pv:=val_pos' g.wy tv v0
     have e1:=fr_inj (x:=wval n xs) (d:=val ys) (y:=wval m us) (e:=val vs) (by omega) (by rw [show wval n xs = sg n (val xs) from rfl,gcd_sg]; exact gx) (by omega) (by rw [show wval m us = sg m (val us) from rfl,gcd_sg]; exact gu) (a3.trans b3.symm)
     have e2 : n = m /\ xs = us:=by
      have x0:=val_nonneg h.wx
      have u0:=val_nonneg g.wx
      have e3:=e1.1
      cases n <;> cases m
      · exact ⟨rfl,trimmed_eq h.wx g.wx tx tu e3⟩
      · have e4 : val xs = -(val us):=e3
        have:=val_pos' g.wx tu (su.elim (fun e => by cases e) id)
        omega
      · have e4 : -(val xs) = val us:=e3
        have:=val_pos' h.wx tx (sx.elim (fun e => by cases e) id)
        omega
      · have e4 : -(val xs) = -(val us):=e3
        exact ⟨rfl,trimmed_eq h.wx g.wx tx tu (by omega)⟩
     exact ⟨e2.1,e2.2,trimmed_eq h.wy g.wy ty tv e1.2,by rw [a1,b1]⟩
 · obtain ⟨a1,a2,a3,a4⟩:=h.bad he
   obtain ⟨b1,b2,b3,b4⟩:=g.bad he
   exact ⟨by rw [a1,b1],by rw [a2,b2],by rw [a3,b3],by rw [a4,b4]⟩
theorem make_parts {n m : Bool} {xs ys : List Int} (hx : 0 <= val xs) (hy : 0 < val ys) :
 0 < val ys / gcdI (val xs) (val ys) /\ gcdI (val xs / gcdI (val xs) (val ys)) (val ys / gcdI (val xs) (val ys)) = 1 /\ Rat.divInt (sg (n != m) (val xs / gcdI (val xs) (val ys))) (val ys / gcdI (val xs) (val ys)) = Rat.divInt (wval n xs) (wval m ys):=by
 obtain ⟨e1,e2,e3⟩:=fr_make (x:=val xs) (d:=val ys) (p:=val xs / gcdI (val xs) (val ys)) (e:=val ys / gcdI (val xs) (val ys)) hy rfl (div_gcd_left rfl) (div_gcd_right rfl)
 refine ⟨e1,e2,?_⟩
 generalize val xs / gcdI (val xs) (val ys) = p at *
 generalize val ys / gcdI (val xs) (val ys) = e at *
 cases n <;> cases m <;> simp [sg,wval,e3,Rat.divInt_neg',<- Rat.neg_divInt]
theorem told1_in {U : World} {f : Nat} {args : Array Value} {t : Int} (S : World -> Prop) (hS : ∀ w',Below U.heap.size U w' -> S w') (ww : World) (hb : Below U.heap.size U ww) (C : Calls Tryz.prog f args ww (Told1 ww t)) :
 Calls Tryz.prog f args ww fun e w' => ∃ a2 zs c2,e = .returned (.slice a2 zs.length c2) /\ Hid (One U w' (.slice a2 zs.length c2) zs t /\ Lies (.slice a2 zs.length c2) ww.heap.size w'.heap.size) /\ S w' /\ Below U.heap.size U w' /\ Hid (Below ww.heap.size ww w') :=
 Calls.mono C fun e w' h => by
  obtain ⟨v,zs,rfl,o,h1,h2,h3,hb2⟩:=h
  obtain ⟨a2,c2,hs2⟩:=own_slice' o
  subst hs2
  exact ⟨a2,zs,c2,rfl,⟨⟨owns_base o hb.size,h1,h2,h3⟩,fun g hg => o.lt g hg⟩,hS w' (bt hb hb2),bt hb hb2,hb2⟩
theorem quot_in {U ww : World} {a : Option Addr} {ca : Nat} {xs : List Int} {a1 : Option Addr} {z1 : List Int} {c1 : Nat} {g : Int} (S : World -> Prop) (hS : ∀ w',Below U.heap.size U w' -> S w') (hb : Below U.heap.size U ww) (hx : Sl ww (.slice a xs.length ca) xs) (lx : xs.length <= 8192) (tx : Trimmed xs) (h : One U ww (.slice a1 z1.length c1) z1 g) (h0 : 0 < g) (hl : g < 4294967296 ^ 2048) :
 Calls Tryz.prog 292 #[.slice a xs.length ca,.slice a1 z1.length c1] ww fun e w' => ∃ a2 zs c2,e = .returned (.slice a2 zs.length c2) /\ Hid (One U w' (.slice a2 zs.length c2) zs (val xs / g) /\ Lies (.slice a2 zs.length c2) ww.heap.size w'.heap.size) /\ S w' /\ Below U.heap.size U w' /\ Hid (Below ww.heap.size ww w'):=by
 have e:=rquot_any _ _ xs z1 ww hx h.sl lx (by have:=own_len h hl; omega) tx h.2.2.1 (own_pos h h0)
 rw [h.2.2.2] at e
 exact told1_in S hS ww hb e
theorem cut_two {U u V W : World} {v w : Value} (h0 : U.heap.size <= u.heap.size) (h1 : u.heap.size <= V.heap.size) (h2 : V.heap.size <= W.heap.size) (l1 : Lies v u.heap.size V.heap.size) (l2 : Lies w V.heap.size W.heap.size) : Cut U v w W :=
 ⟨V.heap.size,Nat.le_trans h0 h1,h2,fun g hg => ⟨Nat.le_trans h0 (l1 g hg).1,(l1 g hg).2⟩,l2⟩
theorem rtold_cut {U ww : World} {n : Bool} {a : Option Addr} {ca : Nat} {zs : List Int} {b : Option Addr} {cb : Nat} {ds : List Int} {s t : Int} {q : Rat} (S : World -> Prop) (hS : ∀ w',Below U.heap.size U w' -> S w') (hb : Below U.heap.size U ww) (h1 : One U ww (.slice a zs.length ca) zs s) (h2 : One U ww (.slice b ds.length cb) ds t) (hc : Cut U (.slice a zs.length ca) (.slice b ds.length cb) ww) (hd : 0 < t) (hg : gcdI s t = 1) (hq : Rat.divInt (sg n s) t = q) :
 Calls Tryz.prog 200 #[.bool n,.slice a zs.length ca,.slice b ds.length cb] ww fun e w' => ∃ k a8 z8 c8 a9 z9 c9 code,e = .returned (.tuple #[.agg #[.bool k,.slice a8 (List.length z8) c8,.slice a9 (List.length z9) c9],.int .i64 code]) /\ Hid (w'.ownsRow U.heap.size 69 1 (.slice a8 (List.length z8) c8) z8.length (z8.map (Value.int .u32)) /\ w'.ownsRow U.heap.size 69 1 (.slice a9 (List.length z9) c9) z9.length (z9.map (Value.int .u32)) /\ RTells 0 q k z8 z9 code /\ Cut U (.slice a8 (List.length z8) c8) (.slice a9 (List.length z9) c9) w') /\ S w' /\ Below U.heap.size U w':=by
 obtain ⟨o1,w1,t1,v1⟩:=h1
 obtain ⟨o2,w2,t2,v2⟩:=h2
 obtain ⟨k,us,vs,c,e1,e2,e3,r⟩:=rtells_of (n:=n) w1 t1 w2 t2 (by rw [v2]; exact hd) (by rw [v1,v2]; exact hg)
 rw [v1,v2,hq] at r
 refine Calls.mono (rtold_any n a zs.length ca b ds.length cb ww) fun e w' h => ?_
 obtain ⟨rfl,hb2⟩:=h
 rw [e1]
 by_cases z : c = 0
 · rw [if_pos z] at e2 e3
   subst e2; subst e3
   refine ⟨k,a,us,ca,b,vs,cb,c,by rw [if_pos z,if_pos z],⟨owns_later o1 hb2,owns_later o2 hb2,r,hc.up (Nat.le_refl _) hb2.size⟩,hS w' (bt hb hb2),bt hb hb2⟩
 · rw [if_neg z] at e2 e3
   subst e2; subst e3
   exact ⟨k,none,[],0,none,[],0,c,by rw [if_neg z,if_neg z]; rfl,⟨World.ownsRow_nil _ _ _ _,World.ownsRow_nil _ _ _ _,r,⟨U.heap.size,Nat.le_refl _,(bt hb hb2).size,fun g hg => by simp [Value.ownBlock] at hg,fun g hg => by simp [Value.ownBlock] at hg⟩⟩,hS w' (bt hb hb2),bt hb hb2⟩
theorem RToldA.put {w U w3 : World} {e : Int} {q : Rat} {k : Bool} {v u : Value} {zs ds : List Int} {code : Int} (h : w3.ownsRow U.heap.size 69 1 v zs.length (zs.map (Value.int .u32)) /\ w3.ownsRow U.heap.size 69 1 u ds.length (ds.map (Value.int .u32)) /\ RTells e q k zs ds code /\ Cut U v u w3) (b : Nat) (hb : b < U.heap.size) (hw : w.heap.size <= b) (hbw : Below w.heap.size w w3) (x y z : Value) :
 RToldA w e q (.returned (.tuple #[.agg #[.bool k,v,u],.int .i64 code])) (((w3.setCell ⟨b,0,none⟩ x).setCell ⟨b,1,none⟩ y).setCell ⟨b,2,none⟩ z) :=
 ⟨k,v,zs,u,ds,code,rfl,owns_base (own_put3 h.1 b (fun g hg => by have:=(World.ownsRow.lt h.1 g hg).1; omega) _ _ _) (by omega),owns_base (own_put3 h.2.1 b (fun g hg => by have:=(World.ownsRow.lt h.2.1 g hg).1; omega) _ _ _) (by omega),h.2.2.1,below_put3 hbw b hw _ _ _,h.2.2.2.up (by omega) (by simp)⟩
def mkErr (n : Bool) (xs : List Int) (m : Bool) (ys : List Int) : Int:=if wboth n xs m ys = 0 then (if ys.length = 0 then 7 else 0) else wboth n xs m ys
theorem bel_al {a w : World} (h : Below a.heap.size a w) (o : Obj) : Below a.heap.size a (w.alloc o):=h.alloc h.size o
theorem bel_undrew {w V : World} (hb : Below w.drew.heap.size w.drew V) : Below w.heap.size w V:=bt (Below.drew (Below.refl _ w)) hb
theorem bel_unal {w V : World} {o : Obj} (hb : Below (w.alloc o).heap.size (w.alloc o) V) : Below w.heap.size w V:=bt (alloc_later _ _) hb
theorem zbw {w V : World} (hb : Below (w.alloc (.cells #[.bool false,.slice none 0 0] 152)).heap.size (w.alloc (.cells #[.bool false,.slice none 0 0] 152)) V) : Box V w.heap.size 152 #[.bool false,.slice none 0 0]:=(Box.made w 152 _).later hb (by simp)
theorem new_ne' {w : World} {g t : Nat} {vs : Array Value} (h : Box w g t vs) : g < w.heap.size /\ ¬ w.heap.size = g:=by
 have:=h.lt
 omega
theorem nes3 {p q : Nat} (h : p + 1 + 1 < q) : ¬ p = q /\ ¬ q = p /\ ¬ p + 1 = q /\ ¬ q = p + 1:=by omega
def Num (X U F : World) (p : Nat) (k : Bool) (a : Option Addr) (c : Nat) (z : List Int) (T : Int) : Prop:=Box F p 152 #[.bool k,.slice a z.length c] /\ One X F (.slice a z.length c) z T /\ Below U.heap.size U F
theorem num_old {X U W : World} {p : Nat} {k : Bool} {a : Option Addr} {c : Nat} {z : List Int} {T : Int} (o : One X W (.slice a z.length c) z T) (hb : Below U.heap.size U W) (h : Box W p 152 #[.bool false,.slice none 0 0]) (lp : U.heap.size <= p) : Num X U ((W.setCell ⟨p,0,none⟩ (.bool k)).setCell ⟨p,1,none⟩ (.slice a z.length c)) p k a c z T :=
 ⟨h.put2 _ _,⟨own_put2 o.1 p (own_ne_box o.1 h (by decide)) _ _,o.2⟩,below_put2 hb p lp _ _⟩
theorem num_new {X U W : World} {k : Bool} {a : Option Addr} {c : Nat} {z : List Int} {T : Int} (o : One X W (.slice a z.length c) z T) (hb : Below U.heap.size U W) : Num X U (W.alloc (.cells #[.bool k,.slice a z.length c] 152)) W.heap.size k a c z T :=
 ⟨Box.made W _ _,o.later (alloc_later _ _),bt hb (alloc_later _ _)⟩
theorem lies_low {v : Value} {lo lo' hi : Nat} (h : Lies v lo hi) (hl : lo' <= lo) : Lies v lo' hi:=fun g hg => ⟨Nat.le_trans hl (h g hg).1,(h g hg).2⟩
theorem sum_4097 {k n m : Bool} {T p1 p2 : Int} (h : sg k T = sg n p1 + sg m p2) (h0 : 0 <= T) (q0 : 0 <= p1) (q1 : p1 < 4294967296 ^ 4096) (r0 : 0 <= p2) (r1 : p2 < 4294967296 ^ 4096) : T < 4294967296 ^ 4097:=by
 have e : (4294967296 : Int) ^ 4097 = 4294967296 ^ 4096 * 4294967296:=Int.pow_succ _ 4096
 rw [e]
 generalize (4294967296 : Int) ^ 4096 = Y at *
 cases k <;> cases n <;> cases m <;> simp [sg] at h <;> omega
theorem at7 {X w7 ww : World} {f : Nat} {args : Array Value} {t : Int} {S : World -> Prop} (hS : ∀ V,Below w7.heap.size w7 V -> S V) (hw : Below w7.heap.size w7 ww) (C : Calls Tryz.prog f args ww (fun e w' => ∃ a2 zs c2,e = .returned (.slice a2 (List.length zs) c2) /\ Hid (One X w' (.slice a2 (List.length zs) c2) zs t /\ Lies (.slice a2 (List.length zs) c2) ww.heap.size w'.heap.size) /\ True /\ Below X.heap.size X w' /\ Hid (Below ww.heap.size ww w'))) :
 Calls Tryz.prog f args ww fun e w' => ∃ a2 zs c2,e = .returned (.slice a2 (List.length zs) c2) /\ Hid (One X w' (.slice a2 (List.length zs) c2) zs t /\ Lies (.slice a2 (List.length zs) c2) ww.heap.size w'.heap.size /\ True /\ Below w7.heap.size w7 w') /\ S w' /\ Hid (Below ww.heap.size ww w') :=
 Calls.mono C fun e w' ⟨a2,zs,c2,h1,h2,_,_,h5⟩ => ⟨a2,zs,c2,h1,⟨h2.out.1,h2.out.2,trivial,bt hw h5.out⟩,hS w' (bt hw h5.out),h5⟩
theorem rtold_cut2 {U ww : World} {n : Bool} {a : Option Addr} {ca : Nat} {zs : List Int} {b : Option Addr} {cb : Nat} {ds : List Int} {s t : Int} {q : Rat} (hb : Below U.heap.size U ww) (h1 : One U ww (.slice a zs.length ca) zs s) (h2 : One U ww (.slice b ds.length cb) ds t) (hc : Cut U (.slice a zs.length ca) (.slice b ds.length cb) ww) (hd : 0 < t) (hg : gcdI s t = 1) (hq : Rat.divInt (sg n s) t = q) :
 Calls Tryz.prog 200 #[.bool n,.slice a zs.length ca,.slice b ds.length cb] ww fun e w' => ∃ k a8 z8 c8 a9 z9 c9 code,e = .returned (.tuple #[.agg #[.bool k,.slice a8 (List.length z8) c8,.slice a9 (List.length z9) c9],.int .i64 code]) /\ Hid (w'.ownsRow U.heap.size 69 1 (.slice a8 (List.length z8) c8) z8.length (z8.map (Value.int .u32)) /\ w'.ownsRow U.heap.size 69 1 (.slice a9 (List.length z9) c9) z9.length (z9.map (Value.int .u32)) /\ RTells 0 q k z8 z9 code /\ Cut U (.slice a8 (List.length z8) c8) (.slice a9 (List.length z9) c9) w') /\ Below U.heap.size U w' /\ Hid (Below ww.heap.size ww w'):=by
 obtain ⟨o1,w1,t1,v1⟩:=h1
 obtain ⟨o2,w2,t2,v2⟩:=h2
 obtain ⟨k,us,vs,c,e1,e2,e3,r⟩:=rtells_of (n:=n) w1 t1 w2 t2 (by rw [v2]; exact hd) (by rw [v1,v2]; exact hg)
 rw [v1,v2,hq] at r
 refine Calls.mono (rtold_any n a zs.length ca b ds.length cb ww) fun e w' h => ?_
 obtain ⟨rfl,hb2⟩:=h
 rw [e1]
 by_cases z : c = 0
 · rw [if_pos z] at e2 e3
   subst e2; subst e3
   refine ⟨k,a,us,ca,b,vs,cb,c,by rw [if_pos z,if_pos z],⟨owns_later o1 hb2,owns_later o2 hb2,r,hc.up (Nat.le_refl _) hb2.size⟩,bt hb hb2,hb2⟩
 · rw [if_neg z] at e2 e3
   subst e2; subst e3
   exact ⟨k,none,[],0,none,[],0,c,by rw [if_neg z,if_neg z]; rfl,⟨World.ownsRow_nil _ _ _ _,World.ownsRow_nil _ _ _ _,r,⟨U.heap.size,Nat.le_refl _,(bt hb hb2).size,fun g hg => by simp [Value.ownBlock] at hg,fun g hg => by simp [Value.ownBlock] at hg⟩⟩,bt hb hb2,hb2⟩
set_option maxRecDepth 100000 in
theorem radd_any (n : Bool) (a : Option Addr) (ca : Nat) (xs : List Int) (b : Option Addr) (cb : Nat) (ys : List Int) (m : Bool) (c : Option Addr) (cc : Nat) (us : List Int) (d : Option Addr) (cd : Nat) (vs : List Int) (w : World)
 (sx : Sl w (.slice a xs.length ca) xs) (sy : Sl w (.slice b ys.length cb) ys) (su : Sl w (.slice c us.length cc) us) (sv : Sl w (.slice d vs.length cd) vs) (lx : xs.length <= 2048) (ly : ys.length <= 2048) (lu : us.length <= 2048) (lv : vs.length <= 2048) (tx : Trimmed xs) (ty : Trimmed ys) (tu : Trimmed us) (tv : Trimmed vs) (hy : 0 < val ys) (hv : 0 < val vs) (h1 : gcdI (val xs) (val ys) = 1) (h2 : gcdI (val us) (val vs) = 1) :
 Calls Tryz.prog 267 #[.agg #[.bool n,.slice a xs.length ca,.slice b ys.length cb],.agg #[.bool m,.slice c us.length cc,.slice d vs.length cd]] w (RToldA w 0 (rq n xs ys + rq m us vs)):=by
 have wx:=sx.wd
 have wy:=sy.wd
 have wu:=su.wd
 have wv:=sv.wd
 have HB : Hid (Below w.heap.size w (((w.alloc (.cells #[.bool n,.slice a xs.length ca,.slice b ys.length cb] 24)).alloc (.cells #[.bool m,.slice c us.length cc,.slice d vs.length cd] 24)).alloc (.cells #[.bool false,.slice none 0 0,.slice none 0 0] 24))):=bt (bt (alloc_later _ _) (alloc_later _ _)) (alloc_later _ _)
 have HZ : Hid (Box (((w.alloc (.cells #[.bool n,.slice a xs.length ca,.slice b ys.length cb] 24)).alloc (.cells #[.bool m,.slice c us.length cc,.slice d vs.length cd] 24)).alloc (.cells #[.bool false,.slice none 0 0,.slice none 0 0] 24)) (w.heap.size + 1 + 1) 24 #[.bool false,.slice none 0 0,.slice none 0 0]):=by
  have e:=Box.made ((w.alloc (.cells #[.bool n,.slice a xs.length ca,.slice b ys.length cb] 24)).alloc (.cells #[.bool m,.slice c us.length cc,.slice d vs.length cd] 24)) 24 #[.bool false,.slice none 0 0,.slice none 0 0]
  simp at e
  exact e
 have HN : Hid (Box (((w.alloc (.cells #[.bool n,.slice a xs.length ca,.slice b ys.length cb] 24)).alloc (.cells #[.bool m,.slice c us.length cc,.slice d vs.length cd] 24)).alloc (.cells #[.bool false,.slice none 0 0,.slice none 0 0] 24)) w.heap.size 24 #[.bool n,.slice a xs.length ca,.slice b ys.length cb]):=Box.later (Box.made w _ _) (bt (alloc_later _ _) (alloc_later _ _)) (by simp)
 have HM : Hid (Box (((w.alloc (.cells #[.bool n,.slice a xs.length ca,.slice b ys.length cb] 24)).alloc (.cells #[.bool m,.slice c us.length cc,.slice d vs.length cd] 24)).alloc (.cells #[.bool false,.slice none 0 0,.slice none 0 0] 24)) (w.heap.size + 1) 24 #[.bool m,.slice c us.length cc,.slice d vs.length cd]):=by
  have e:=Box.later (Box.made (w.alloc (.cells #[.bool n,.slice a xs.length ca,.slice b ys.length cb] 24)) 24 #[.bool m,.slice c us.length cc,.slice d vs.length cd]) (alloc_later ((w.alloc (.cells #[.bool n,.slice a xs.length ca,.slice b ys.length cb] 24)).alloc (.cells #[.bool m,.slice c us.length cc,.slice d vs.length cd] 24)) (.cells #[.bool false,.slice none 0 0,.slice none 0 0] 24)) (by simp)
  simp at e
  exact e
 have HXS : Hid (w.heap.size + 1 + 1 < (((w.alloc (.cells #[.bool n,.slice a xs.length ca,.slice b ys.length cb] 24)).alloc (.cells #[.bool m,.slice c us.length cc,.slice d vs.length cd] 24)).alloc (.cells #[.bool false,.slice none 0 0,.slice none 0 0] 24)).heap.size):=HZ.out.lt
 have HSL:=hid (And.intro (sx.later HB.out) (And.intro (sy.later HB.out) (And.intro (su.later HB.out) (sv.later HB.out))))
 have HP:=hid (And.intro hy (And.intro hv (And.intro h1 h2)))
 have HTT:=hid (And.intro tx (And.intro ty (And.intro tu tv)))
 have HF0 : Hid (0 < gcdI (val ys) (val vs) /\ gcdI (val ys) (val vs) <= val vs):=⟨gcd_pos_right hv,gcd_le_right hv⟩
 have HL : Hid (val xs < 4294967296 ^ 2048 /\ val ys < 4294967296 ^ 2048 /\ val us < 4294967296 ^ 2048 /\ val vs < 4294967296 ^ 2048):=⟨below2048 wx lx,below2048 wy ly,below2048 wu lu,below2048 wv lv⟩
 have HNN : Hid (0 <= val xs /\ 0 <= val us /\ 0 <= val ys /\ 0 <= val vs):=⟨val_nonneg wx,val_nonneg wu,val_nonneg wy,val_nonneg wv⟩
 have HD : Hid (val ys / gcdI (val ys) (val vs) < 4294967296 ^ 2048 /\ val vs / gcdI (val ys) (val vs) < 4294967296 ^ 2048 /\ 0 <= val ys / gcdI (val ys) (val vs) /\ 0 <= val vs / gcdI (val ys) (val vs)):=by
  have q3:=Int.ediv_le_self (a:=val ys) (gcdI (val ys) (val vs)) (by omega)
  have q4:=Int.ediv_le_self (a:=val vs) (gcdI (val ys) (val vs)) (by omega)
  have q5:=HF0.out
  have:=HL.out
  exact ⟨by omega,by omega,Int.ediv_nonneg (by omega) (by omega),Int.ediv_nonneg (by omega) (by omega)⟩
 have HPL : Hid (val xs * (val vs / gcdI (val ys) (val vs)) < 4294967296 ^ 4096 /\ val us * (val ys / gcdI (val ys) (val vs)) < 4294967296 ^ 4096):=⟨mul_4096 HNN.out.1 HL.out.1 HD.out.2.2.2 HD.out.2.1,mul_4096 HNN.out.2.1 HL.out.2.2.1 HD.out.2.2.1 HD.out.1⟩
 have HC1:=hid (rcommon_any _ _ ys vs (((w.alloc (.cells #[.bool n,.slice a xs.length ca,.slice b ys.length cb] 24)).alloc (.cells #[.bool m,.slice c us.length cc,.slice d vs.length cd] 24)).alloc (.cells #[.bool false,.slice none 0 0,.slice none 0 0] 24)) HSL.out.2.1 HSL.out.2.2.2 (by omega) (by omega) ty tv)
 obtain ⟨G,hG⟩ : ∃ G,G = gcdI (val ys) (val vs):=⟨_,rfl⟩
 rw [<- hG] at HC1 HF0 HD HPL
 obtain ⟨rA,hA⟩ : ∃ rA,rA = val ys / G:=⟨_,rfl⟩
 obtain ⟨rB,hB⟩ : ∃ rB,rB = val vs / G:=⟨_,rfl⟩
 rw [<- hA,<- hB] at HD HPL
 have HEQ:=hid (And.intro hG (And.intro hA hB))
 clear sx sy su sv tx ty tu tv hy hv h1 h2 wx wy wu wv hG hA hB
 go_enter Tryz.func267,Tryz.ntmps267
 go_wp2_with fail
 refine Calls.mono HC1.out ?_
 generalize (((w.alloc (.cells #[.bool n,.slice a xs.length ca,.slice b ys.length cb] 24)).alloc (.cells #[.bool m,.slice c us.length cc,.slice d vs.length cd] 24)).alloc (.cells #[.bool false,.slice none 0 0,.slice none 0 0] 24)) = X at *
 rintro e w1 ⟨v1,z1,rfl,o1,wd1,t1,hv1,hb1⟩
 obtain ⟨a1,c1,hs1⟩:=own_slice' o1
 subst hs1
 have HK : Hid (∀ V,Below X.heap.size X V -> V.cell? ⟨w.heap.size,0,none⟩ = some (.bool n) /\ V.cell? ⟨w.heap.size,1,none⟩ = some (.slice a xs.length ca) /\ V.cell? ⟨w.heap.size,2,none⟩ = some (.slice b ys.length cb) /\ V.cell? ⟨w.heap.size + 1,0,none⟩ = some (.bool m) /\ V.cell? ⟨w.heap.size + 1,1,none⟩ = some (.slice c us.length cc) /\ V.cell? ⟨w.heap.size + 1,2,none⟩ = some (.slice d vs.length cd)):=fun V hb => by
  obtain ⟨p0,p1,p2,_⟩:=res_box3 HN.out hb
  obtain ⟨q0,q1,q2,_⟩:=res_box3 HM.out hb
  exact ⟨p0,p1,p2,q0,q1,q2⟩
 have HO1 : Hid (One X w1.drew (.slice a1 z1.length c1) z1 G):=One.later ⟨o1,wd1,t1,hv1⟩ (Below.drew (Below.refl _ w1))
 have hb1d : Below X.heap.size X w1.drew:=hb1.drew
 have hs0:=HK.out _ hb1d
 clear o1 wd1 t1 hv1 hb1 HC1
 have HQY:=hid (fun ww (hv' : Below X.heap.size X ww) (h : One X ww (.slice a1 z1.length c1) z1 G) => quot_in _ HK.out hv' (HSL.out.2.1.later hv') (by omega) HTT.out.2.1 h HF0.out.1 (by have:=HF0.out; have:=HL.out; omega))
 have HQV:=hid (fun ww (hv' : Below X.heap.size X ww) (h : One X ww (.slice a1 z1.length c1) z1 G) => quot_in _ HK.out hv' (HSL.out.2.2.2.later hv') (by omega) HTT.out.2.2.2 h HF0.out.1 (by have:=HF0.out; have:=HL.out; omega))
 rw [<- HEQ.out.2.1] at HQY
 rw [<- HEQ.out.2.2] at HQV
 go_wp2_with fail
 go_region_held3 (fun V : World => V.cell? ⟨w.heap.size,0,none⟩ = some (.bool n) /\ V.cell? ⟨w.heap.size,1,none⟩ = some (.slice a xs.length ca) /\ V.cell? ⟨w.heap.size,2,none⟩ = some (.slice b ys.length cb) /\ V.cell? ⟨w.heap.size + 1,0,none⟩ = some (.bool m) /\ V.cell? ⟨w.heap.size + 1,1,none⟩ = some (.slice c us.length cc) /\ V.cell? ⟨w.heap.size + 1,2,none⟩ = some (.slice d vs.length cd)) (first | exact hs3 | exact hs2 | exact hs0)
  (first
   | (go_at_call 292; with_reducible refine Calls.mono (HQV.out _ hb2 (HO1.out.later HS2.out)) ?_; rintro e w3 ⟨a3,z3,c3,rfl,HE3,hs3,hb3,HS3⟩)
   | (go_at_call 292; with_reducible refine Calls.mono (HQY.out _ hb1d HO1.out) ?_; rintro e w2 ⟨a2,z2,c2,rfl,HE2,hs2,hb2,HS2⟩))
 have HO3:=hid (And.intro ((HO1.out.later HS2.out).later HS3.out) (And.intro (HE2.out.1.later HS3.out) HE3.out.1))
 have HB3:=hid hb3
 clear hs0 hs2 hs3 hb1d hb2 hb3 HE2 HE3 HS2 HS3 HO1 HQY HQV
 go_upto_region 5 with fail
 have HU : Hid (∀ V,Below w3.heap.size w3 V -> Below X.heap.size X V):=fun V hb => bt HB3.out hb
 have HBR:=hid (Below.refl w3.heap.size w3)
 have HP1 : Hid (∀ V,Below w3.heap.size w3 V -> Calls Tryz.prog 294 #[.slice a xs.length ca,.slice a3 z3.length c3] V fun e V' => ∃ a2 zs c2,e = .returned (.slice a2 (List.length zs) c2) /\ Hid (One X V' (.slice a2 (List.length zs) c2) zs (val xs * rB) /\ Below V.heap.size V V' /\ Below w3.heap.size w3 V') /\ V'.cell? ⟨w.heap.size,0,none⟩ = some (.bool n) /\ V'.cell? ⟨w.heap.size,1,none⟩ = some (.slice a xs.length ca) /\ V'.cell? ⟨w.heap.size,2,none⟩ = some (.slice b ys.length cb) /\ V'.cell? ⟨w.heap.size + 1,0,none⟩ = some (.bool m) /\ V'.cell? ⟨w.heap.size + 1,1,none⟩ = some (.slice c us.length cc) /\ V'.cell? ⟨w.heap.size + 1,2,none⟩ = some (.slice d vs.length cd)):=fun V hb => by
  have hx:=HU.out V hb
  have on:=HO3.out.2.2.later hb
  have e:=rprod_any _ _ xs z3 V (HSL.out.1.later hx) on.sl (by have:=own_len on HD.out.2.1; omega) HTT.out.1 on.2.2.1
  rw [on.2.2.2] at e
  refine Calls.mono e ?_
  rintro e V' ⟨v2,zs,rfl,o2,wd2,t2,hv2,hb2⟩
  obtain ⟨a2,c2,hs2⟩:=own_slice' o2
  subst hs2
  exact ⟨a2,zs,c2,rfl,⟨⟨owns_base o2 hx.size,wd2,t2,hv2⟩,hb2,bt hb hb2⟩,HK.out V' (bt hx hb2)⟩
 have HP2 : Hid (∀ V,Below w3.heap.size w3 V -> Calls Tryz.prog 294 #[.slice c us.length cc,.slice a2 z2.length c2] V fun e V' => ∃ a2 zs c2,e = .returned (.slice a2 (List.length zs) c2) /\ Hid (One X V' (.slice a2 (List.length zs) c2) zs (val us * rA) /\ Below V.heap.size V V' /\ Below w3.heap.size w3 V') /\ V'.cell? ⟨w.heap.size,0,none⟩ = some (.bool n) /\ V'.cell? ⟨w.heap.size,1,none⟩ = some (.slice a xs.length ca) /\ V'.cell? ⟨w.heap.size,2,none⟩ = some (.slice b ys.length cb) /\ V'.cell? ⟨w.heap.size + 1,0,none⟩ = some (.bool m) /\ V'.cell? ⟨w.heap.size + 1,1,none⟩ = some (.slice c us.length cc) /\ V'.cell? ⟨w.heap.size + 1,2,none⟩ = some (.slice d vs.length cd)):=fun V hb => by
  have hx:=HU.out V hb
  have on:=HO3.out.2.1.later hb
  have e:=rprod_any _ _ us z2 V (HSL.out.2.2.1.later hx) on.sl (by have:=own_len on HD.out.1; omega) HTT.out.2.2.1 on.2.2.1
  rw [on.2.2.2] at e
  refine Calls.mono e ?_
  rintro e V' ⟨v2,zs,rfl,o2,wd2,t2,hv2,hb2⟩
  obtain ⟨a2,c2,hs2⟩:=own_slice' o2
  subst hs2
  exact ⟨a2,zs,c2,rfl,⟨⟨owns_base o2 hx.size,wd2,t2,hv2⟩,hb2,bt hb hb2⟩,HK.out V' (bt hx hb2)⟩
 have HSG : Hid (∀ V,Below w3.heap.size w3 V -> ∀ a4 z4 c4 a5 z5 c5,One X V (.slice a4 (List.length z4) c4) z4 (val xs * rB) -> One X V (.slice a5 (List.length z5) c5) z5 (val us * rA) -> Calls Tryz.prog 293 #[.agg #[.bool n,.slice a4 z4.length c4],.agg #[.bool m,.slice a5 z5.length c5]] V fun e V' => ∃ k a2 zs c2,e = .returned (.agg #[.bool k,.slice a2 (List.length zs) c2]) /\ Hid ((∃ T,One X V' (.slice a2 (List.length zs) c2) zs T /\ sg k T = (sg n (val xs * rB) + sg m (val us * rA))) /\ Below V.heap.size V V' /\ Below w3.heap.size w3 V') /\ V'.cell? ⟨w.heap.size,0,none⟩ = some (.bool n) /\ V'.cell? ⟨w.heap.size,1,none⟩ = some (.slice a xs.length ca) /\ V'.cell? ⟨w.heap.size,2,none⟩ = some (.slice b ys.length cb) /\ V'.cell? ⟨w.heap.size + 1,0,none⟩ = some (.bool m) /\ V'.cell? ⟨w.heap.size + 1,1,none⟩ = some (.slice c us.length cc) /\ V'.cell? ⟨w.heap.size + 1,2,none⟩ = some (.slice d vs.length cd)):=fun V hb a4 z4 c4 a5 z5 c5 h4 h5 => by
  have hx:=HU.out V hb
  have e:=rsigned_any n _ z4 m _ z5 V h4.sl h5.sl (by have:=own_len h4 HPL.out.1; omega) (by have:=own_len h5 HPL.out.2; omega) h4.2.2.1 h5.2.2.1
  rw [show wval n z4 = sg n (val z4) from rfl,show wval m z5 = sg m (val z5) from rfl,h4.2.2.2,h5.2.2.2] at e
  refine Calls.mono e ?_
  rintro e V' ⟨k,v,zs,rfl,o,h1,h2,h3,hb2⟩
  obtain ⟨a2,c2,hs2⟩:=own_slice' o
  subst hs2
  exact ⟨k,a2,zs,c2,rfl,⟨⟨val zs,⟨owns_base o hx.size,h1,h2,rfl⟩,h3⟩,hb2,bt hb hb2⟩,HK.out V' (bt hx hb2)⟩
 have HW2:=hid (Nat.lt_of_lt_of_le HXS.out HB3.out.size)
 obtain ⟨m1,m2,m3,m4⟩:=nes3 HW2.out
 go_cut [9] from 11 (fun s9 wx => ∃ p k a6 c6 z6 T,s9 = .pointer (some ⟨p,0,none⟩) /\ Hid (Num X w3 wx p k a6 c6 z6 T /\ sg k T = sg n (val xs * rB) + sg m (val us * rA) /\ w3.heap.size <= p))
 case first =>
  have hs0:=HK.out _ (HU.out _ HBR.out.drew)
  go_region_held3 (fun V : World => V.cell? ⟨w.heap.size,0,none⟩ = some (.bool n) /\ V.cell? ⟨w.heap.size,1,none⟩ = some (.slice a xs.length ca) /\ V.cell? ⟨w.heap.size,2,none⟩ = some (.slice b ys.length cb) /\ V.cell? ⟨w.heap.size + 1,0,none⟩ = some (.bool m) /\ V.cell? ⟨w.heap.size + 1,1,none⟩ = some (.slice c us.length cc) /\ V.cell? ⟨w.heap.size + 1,2,none⟩ = some (.slice d vs.length cd)) (first | exact hs6 | exact hs5 | exact hs4 | exact hs0 | with_reducible exact HK.out _ (HU.out _ (bel_al HE6.out.2.2 _)) | with_reducible exact HK.out _ (HU.out _ (bel_al HE5.out.2.2 _)) | with_reducible exact HK.out _ (HU.out _ (bel_al HE4.out.2.2 _)) | with_reducible exact HK.out _ (HU.out _ (bel_al HBR.out _).drew) | with_reducible exact HK.out _ (HU.out _ (below_put2 HE6.out.2.2 _ (by omega) _ _)) | go_keep)
   (first
    | (go_at_call 293; with_reducible refine Calls.mono (HSG.out _ (by first | exact HE5.out.2.2 | exact bel_al HE5.out.2.2 _) _ _ _ _ _ _ (by first | exact HE4.out.1.later HL5.out | exact (HE4.out.1.later HL5.out).later (alloc_later _ _)) (by first | exact HE5.out.1 | exact HE5.out.1.later (alloc_later _ _))) ?_; rintro e w6 ⟨k6,a6,z6,c6,rfl,HE6,hs6⟩; (first | (have HL6:=hid (bel_unal (w:=w5) HE6.out.2.1)) | (have HL6:=hid HE6.out.2.1)); (first | (have HY1:=hid ((HZ1.out.later HL5.out HZ1.out.lt).later HL6.out (HZ1.out.later HL5.out HZ1.out.lt).lt); clear y0 y1 y2 y3; obtain ⟨j0,j1,j2,j3⟩:=HY1.out.c2; obtain ⟨j4,j5⟩:=new_ne' HY1.out) | skip); (first | (have HY2:=hid (HZ2.out.later HL6.out HZ2.out.lt); clear u0 u1 u2 u3; obtain ⟨j0,j1,j2,j3⟩:=HY2.out.c2; obtain ⟨j4,j5⟩:=new_ne' HY2.out) | skip); (first | (have HY3:=hid (zbw HE6.out.2.1); obtain ⟨j0,j1,j2,j3⟩:=HY3.out.c2; obtain ⟨j4,j5⟩:=new_ne' HY3.out) | skip))
    | (go_at_call 294; with_reducible refine Calls.mono (HP2.out _ (by first | exact HE4.out.2.2 | exact bel_al HE4.out.2.2 _)) ?_; rintro e w5 ⟨a5,z5,c5,rfl,HE5,hs5⟩; have hz5:=HE5.out.2.2.size; (first | (have HL5:=hid (bel_unal (w:=w4) HE5.out.2.1)) | (have HL5:=hid HE5.out.2.1)); (first | (have HZ2:=hid (zbw HE5.out.2.1); obtain ⟨u0,u1,u2,u3⟩:=HZ2.out.c2; obtain ⟨u4,u5⟩:=new_ne' HZ2.out) | skip))
    | (go_at_call 294; with_reducible refine Calls.mono (HP1.out _ (by first | exact HBR.out.drew | exact (bel_al HBR.out _).drew)) ?_; rintro e w4 ⟨a4,z4,c4,rfl,HE4,hs4⟩; have hz4:=HE4.out.2.2.size; obtain ⟨l1,l2,l3,l4⟩:=nes3 (Nat.lt_of_lt_of_le HW2.out HE4.out.2.2.size); (first | (have HZ1:=hid (zbw (bel_undrew HE4.out.2.1)); obtain ⟨y0,y1,y2,y3⟩:=HZ1.out.c2; obtain ⟨y4,y5⟩:=new_ne' HZ1.out) | skip)))
  all_goals
   have hz6:=HE6.out.2.2.size
   have hz45:=HL5.out.size
   obtain ⟨T,oT,hT⟩:=HE6.out.1
   have HOT:=hid oT
   have HHT:=hid hT
   clear oT hT
   go_wp2_with fail
   go_meet
  all_goals (first | with_reducible exact ⟨_,k6,a6,c6,z6,T,rfl,hid (And.intro (num_old HOT.out HE6.out.2.2 HY1.out (by omega)) (And.intro HHT.out (by omega)))⟩ | with_reducible exact ⟨_,k6,a6,c6,z6,T,rfl,hid (And.intro (num_old HOT.out HE6.out.2.2 HY2.out (by omega)) (And.intro HHT.out (by omega)))⟩ | with_reducible exact ⟨_,k6,a6,c6,z6,T,rfl,hid (And.intro (num_old HOT.out HE6.out.2.2 HY3.out (by omega)) (And.intro HHT.out (by omega)))⟩ | with_reducible exact ⟨_,k6,a6,c6,z6,T,rfl,hid (And.intro (num_new HOT.out HE6.out.2.2) (And.intro HHT.out (by omega)))⟩)
 case rest =>
  obtain ⟨p,k6,a6,c6,z6,T,rfl,HNm⟩:=hcut
  have HBc:=hid (bt HB3.out HNm.out.1.2.2)
  have HOc:=hid (And.intro (HO3.out.1.later HNm.out.1.2.2) (And.intro (HO3.out.2.1.later HNm.out.1.2.2) HNm.out.1.2.1))
  have HBX:=hid HNm.out.1.1
  have HTS:=hid HNm.out.2.1
  have HPW:=hid (Nat.lt_of_lt_of_le (Nat.lt_of_lt_of_le HXS.out HB3.out.size) HNm.out.2.2)
  have HT0 : Hid (0 <= T):=by rw [<- HOc.out.2.2.2.2.2]; exact val_nonneg HOc.out.2.2.2.1
  have HTL : Hid (T < 4294967296 ^ 4097):=sum_4097 HTS.out HT0.out (Int.mul_nonneg HNN.out.1 HD.out.2.2.2) HPL.out.1 (Int.mul_nonneg HNN.out.2.1 HD.out.2.2.1) HPL.out.2
  have l6 : z6.length <= 4097:=own_len HOc.out.2.2 HTL.out
  have l1 : z1.length <= 2048:=own_len HOc.out.1 (by have:=HF0.out; have:=HL.out; omega)
  have l2 : z2.length <= 2048:=own_len HOc.out.2.1 HD.out.1
  have HC4:=hid (rcommon_any _ _ z6 z1 wc HOc.out.2.2.sl HOc.out.1.sl (by omega) (by omega) HOc.out.2.2.2.2.1 HOc.out.1.2.2.1)
  rw [HOc.out.2.2.2.2.2,HOc.out.1.2.2.2] at HC4
  have HSS : Hid (0 < gcdI T G /\ gcdI T G <= G /\ G < 4294967296 ^ 2048):=⟨gcd_pos_right HF0.out.1,gcd_le_right HF0.out.1,by have:=HF0.out; have:=HL.out; omega⟩
  have HAP:=hid (add_parts (n:=n) (m:=m) (nn:=k6) (xs:=xs) (ys:=ys) (us:=us) (vs:=vs) HP.out.1 HP.out.2.1 HP.out.2.2.1 HP.out.2.2.2 HEQ.out.1 HEQ.out.2.1 HEQ.out.2.2 rfl rfl HTS.out (s:=gcdI T G) rfl (q1:=T / gcdI T G) rfl (e:=val vs / gcdI T G) rfl (den:=rA * (val vs / gcdI T G)) rfl)
  clear HNm HP1 HP2 HSG HU HBR HB3 HO3 m1 m2 m3 m4 HW2
  obtain ⟨p0,p1,_,_⟩:=HBX.out.c2
  go_wp2_with fail
  refine Calls.mono HC4.out ?_
  rintro e w7 ⟨v7,z7,rfl,o7,wd7,t7,hv7,hb7⟩
  obtain ⟨a7,c7,hs7⟩:=own_slice' o7
  subst hs7
  have HB7:=hid (bt HBc.out hb7)
  have HBX7:=hid (HBX.out.later hb7 HBX.out.lt)
  have HO7 : Hid (One X w7.drew (.slice a7 z7.length c7) z7 (gcdI T G) /\ One X w7.drew (.slice a2 z2.length c2) z2 rA /\ One X w7.drew (.slice a6 z6.length c6) z6 T):=⟨One.later ⟨owns_base o7 HBc.out.size,wd7,t7,hv7⟩ (Below.drew (Below.refl _ w7)),(HOc.out.2.1.later hb7).later (Below.drew (Below.refl _ w7)),(HOc.out.2.2.later hb7).later (Below.drew (Below.refl _ w7))⟩
  have hb7d : Below X.heap.size X w7.drew:=HB7.out.drew
  clear o7 wd7 t7 hv7 hb7 HC4 p0 p1 HOc
  obtain ⟨SP,hSP⟩ : ∃ SP : World -> Prop,SP = fun V => (V.cell? ⟨w.heap.size,0,none⟩ = some (.bool n) /\ V.cell? ⟨w.heap.size,1,none⟩ = some (.slice a xs.length ca) /\ V.cell? ⟨w.heap.size,2,none⟩ = some (.slice b ys.length cb) /\ V.cell? ⟨w.heap.size + 1,0,none⟩ = some (.bool m) /\ V.cell? ⟨w.heap.size + 1,1,none⟩ = some (.slice c us.length cc) /\ V.cell? ⟨w.heap.size + 1,2,none⟩ = some (.slice d vs.length cd)) /\ V.cell? ⟨p,0,none⟩ = some (.bool k6) /\ V.cell? ⟨p,1,none⟩ = some (.slice a6 z6.length c6):=⟨_,rfl⟩
  have HK7 : Hid (∀ V,Below w7.heap.size w7 V -> (V.cell? ⟨w.heap.size,0,none⟩ = some (.bool n) /\ V.cell? ⟨w.heap.size,1,none⟩ = some (.slice a xs.length ca) /\ V.cell? ⟨w.heap.size,2,none⟩ = some (.slice b ys.length cb) /\ V.cell? ⟨w.heap.size + 1,0,none⟩ = some (.bool m) /\ V.cell? ⟨w.heap.size + 1,1,none⟩ = some (.slice c us.length cc) /\ V.cell? ⟨w.heap.size + 1,2,none⟩ = some (.slice d vs.length cd)) /\ V.cell? ⟨p,0,none⟩ = some (.bool k6) /\ V.cell? ⟨p,1,none⟩ = some (.slice a6 z6.length c6)):=fun V hb => by
   obtain ⟨q0,q1,_,_⟩:=(HBX7.out.later hb HBX7.out.lt).c2
   exact ⟨HK.out V (bt HB7.out hb),q0,q1⟩
  clear hSP SP
  have HBR:=hid (Below.refl w7.heap.size w7)
  have hs0:=HK7.out _ HBR.out.drew
  have HQ6:=hid (fun (ww : World) (hw : Below w7.heap.size w7 ww) (h : One X ww (.slice a7 z7.length c7) z7 (gcdI T G)) (h6 : One X ww (.slice a6 z6.length c6) z6 T) => (by have e:=quot_in (U:=X) (fun _ => True) (fun _ _ => trivial) (bt HB7.out hw) h6.sl (by omega) h6.2.2.1 h HSS.out.1 (by have:=HSS.out; omega); rw [h6.2.2.2] at e; exact at7 HK7.out hw e : Calls Tryz.prog 292 #[.slice a6 z6.length c6,.slice a7 z7.length c7] ww _))
  have HQV:=hid (fun (ww : World) (hw : Below w7.heap.size w7 ww) (h : One X ww (.slice a7 z7.length c7) z7 (gcdI T G)) => (by have e:=quot_in (U:=X) (fun _ => True) (fun _ _ => trivial) (bt HB7.out hw) (HSL.out.2.2.2.later (bt HB7.out hw)) (by omega) HTT.out.2.2.2 h HSS.out.1 (by have:=HSS.out; omega); exact at7 HK7.out hw e : Calls Tryz.prog 292 #[.slice d vs.length cd,.slice a7 z7.length c7] ww _))
  have HPR:=hid (fun (ww : World) (hw : Below w7.heap.size w7 ww) (a9 : Option Addr) (z9 : List Int) (c9 : Nat) (h2 : One X ww (.slice a2 z2.length c2) z2 rA) (h9 : One X ww (.slice a9 z9.length c9) z9 (val vs / gcdI T G)) => (by have e:=told1_in (U:=X) (fun _ => True) (fun _ _ => trivial) ww (bt HB7.out hw) (rprod_any _ _ z2 z9 ww h2.sl h9.sl (by have:=own_len h9 (L:=2048) (by have q:=Int.ediv_le_self (a:=val vs) (gcdI T G) HNN.out.2.2.2; have:=HL.out; omega); omega) h2.2.2.1 h9.2.2.1); rw [h2.2.2.2,h9.2.2.2] at e; exact at7 HK7.out hw e : Calls Tryz.prog 294 #[.slice a2 z2.length c2,.slice a9 z9.length c9] ww _))
  have HTL2:=hid (fun (ww : World) (hb : Below X.heap.size X ww) (a8 : Option Addr) (z8 : List Int) (c8 : Nat) (a10 : Option Addr) (z10 : List Int) (c10 : Nat) (g1 : One X ww (.slice a8 z8.length c8) z8 (T / gcdI T G)) (g2 : One X ww (.slice a10 z10.length c10) z10 (rA * (val vs / gcdI T G))) (hc : Cut X (.slice a8 z8.length c8) (.slice a10 z10.length c10) ww) => rtold_cut2 (n:=k6) (q:=rq n xs ys + rq m us vs) hb g1 g2 hc HAP.out.1 HAP.out.2.1 HAP.out.2.2)
  have hq0 : w.heap.size + 1 + 1 ≠ w.heap.size:=by omega
  have hq2 : ¬ w.heap.size + 1 + 1 = p:=by have:=HPW.out; omega
  go_wp2_with fail
  go_region_held3 (fun V : World => (V.cell? ⟨w.heap.size,0,none⟩ = some (.bool n) /\ V.cell? ⟨w.heap.size,1,none⟩ = some (.slice a xs.length ca) /\ V.cell? ⟨w.heap.size,2,none⟩ = some (.slice b ys.length cb) /\ V.cell? ⟨w.heap.size + 1,0,none⟩ = some (.bool m) /\ V.cell? ⟨w.heap.size + 1,1,none⟩ = some (.slice c us.length cc) /\ V.cell? ⟨w.heap.size + 1,2,none⟩ = some (.slice d vs.length cd)) /\ V.cell? ⟨p,0,none⟩ = some (.bool k6) /\ V.cell? ⟨p,1,none⟩ = some (.slice a6 z6.length c6)) (first | exact hs11 | exact hs10 | exact hs9 | exact hs8 | exact hs0 | (simp [hs11,World.cell?_setCell_far,hq0,hq2]))
   (first
    | (go_at_call 200; with_reducible refine Calls.mono (HTL2.out _ (bt HB7.out HE10.out.2.2.2) _ _ _ _ _ _ ((HE8.out.1.later HS9.out).later HS10.out) HE10.out.1 (cut_two hb7d.size HS8.out.size (Nat.le_trans HS9.out.size HS10.out.size) HE8.out.2.1 (lies_low HE10.out.2.1 HS9.out.size))) ?_; rintro e w11 ⟨k9,a11,z11,c11,a12,z12,c12,code,rfl,HE11,hb11,HS11⟩; obtain ⟨y0,y1,y2,f0,f1,f2⟩:=res_box3 HZ.out hb11; have hs11:=HK7.out w11 (bt HE10.out.2.2.2 HS11.out))
    | (go_at_call 294; with_reducible refine Calls.mono (HPR.out _ HE9.out.2.2.2 _ _ _ ((HO7.out.2.1.later HS8.out).later HS9.out) HE9.out.1) ?_; rintro e w10 ⟨a10,z10,c10,rfl,HE10,hs10,HS10⟩)
    | (go_at_call 292; with_reducible refine Calls.mono (HQV.out _ HE8.out.2.2.2 (HO7.out.1.later HS8.out)) ?_; rintro e w9 ⟨a9,z9,c9,rfl,HE9,hs9,HS9⟩)
    | (go_at_call 292; with_reducible refine Calls.mono (HQ6.out _ HBR.out.drew HO7.out.1 HO7.out.2.2) ?_; rintro e w8 ⟨a8,z8,c8,rfl,HE8,hs8,HS8⟩))
  all_goals
   have HBW:=hid (bt HB.out hb11)
   have HR:=hid HE11.out
   clear HK HK7 HQ6 HQV HPR HTL2 HE8 HE9 HE10 HE11 HS8 HS9 HS10 HS11 HO7 hs0 hs8 hs9 hs10 hs11 hb7d hb11 HAP HBX HBX7 HBR HB7 HBc
   go_wp2_with fail
   refine bodyPost_ret (v:=.tuple #[.agg #[.bool k9,.slice a11 z11.length c11,.slice a12 z12.length c12],.int .i64 code]) (by simp [results,Tryz.results267,go_sem,y0,y1,y2]) rfl ?_
   exact RToldA.put HR.out (w.heap.size + 1 + 1) HXS.out (by omega) HBW.out _ _ _
set_option maxRecDepth 100000 in
theorem rmultiply_cut (n : Bool) (a : Option Addr) (ca : Nat) (xs : List Int) (b : Option Addr) (cb : Nat) (ys : List Int) (m : Bool) (c : Option Addr) (cc : Nat) (us : List Int) (d : Option Addr) (cd : Nat) (vs : List Int) (w : World)
 (sx : Sl w (.slice a xs.length ca) xs) (sy : Sl w (.slice b ys.length cb) ys) (su : Sl w (.slice c us.length cc) us) (sv : Sl w (.slice d vs.length cd) vs) (lx : xs.length <= 2048) (ly : ys.length <= 2048) (lu : us.length <= 2048) (lv : vs.length <= 2048) (tx : Trimmed xs) (ty : Trimmed ys) (tu : Trimmed us) (tv : Trimmed vs) (hy : 0 < val ys) (hv : 0 < val vs) (h1 : gcdI (val xs) (val ys) = 1) (h2 : gcdI (val us) (val vs) = 1) :
 Calls Tryz.prog 268 #[.agg #[.bool n,.slice a xs.length ca,.slice b ys.length cb],.agg #[.bool m,.slice c us.length cc,.slice d vs.length cd]] w (RToldA w 0 (rq n xs ys * rq m us vs)):=by
 have wx:=sx.wd
 have wy:=sy.wd
 have wu:=su.wd
 have wv:=sv.wd
 have HB : Hid (Below w.heap.size w (((w.alloc (.cells #[.bool n,.slice a xs.length ca,.slice b ys.length cb] 24)).alloc (.cells #[.bool m,.slice c us.length cc,.slice d vs.length cd] 24)).alloc (.cells #[.bool false,.slice none 0 0,.slice none 0 0] 24))):=bt (bt (alloc_later _ _) (alloc_later _ _)) (alloc_later _ _)
 have HZ : Hid (Box (((w.alloc (.cells #[.bool n,.slice a xs.length ca,.slice b ys.length cb] 24)).alloc (.cells #[.bool m,.slice c us.length cc,.slice d vs.length cd] 24)).alloc (.cells #[.bool false,.slice none 0 0,.slice none 0 0] 24)) (w.heap.size + 1 + 1) 24 #[.bool false,.slice none 0 0,.slice none 0 0]):=by
  have e:=Box.made ((w.alloc (.cells #[.bool n,.slice a xs.length ca,.slice b ys.length cb] 24)).alloc (.cells #[.bool m,.slice c us.length cc,.slice d vs.length cd] 24)) 24 #[.bool false,.slice none 0 0,.slice none 0 0]
  simp at e
  exact e
 have HK : Hid (∀ w',Below (((w.alloc (.cells #[.bool n,.slice a xs.length ca,.slice b ys.length cb] 24)).alloc (.cells #[.bool m,.slice c us.length cc,.slice d vs.length cd] 24)).alloc (.cells #[.bool false,.slice none 0 0,.slice none 0 0] 24)).heap.size (((w.alloc (.cells #[.bool n,.slice a xs.length ca,.slice b ys.length cb] 24)).alloc (.cells #[.bool m,.slice c us.length cc,.slice d vs.length cd] 24)).alloc (.cells #[.bool false,.slice none 0 0,.slice none 0 0] 24)) w' -> w'.cell? ⟨w.heap.size,0,none⟩ = some (.bool n) /\ w'.cell? ⟨w.heap.size,1,none⟩ = some (.slice a xs.length ca) /\ w'.cell? ⟨w.heap.size,2,none⟩ = some (.slice b ys.length cb) /\ w'.cell? ⟨w.heap.size + 1,0,none⟩ = some (.bool m) /\ w'.cell? ⟨w.heap.size + 1,1,none⟩ = some (.slice c us.length cc) /\ w'.cell? ⟨w.heap.size + 1,2,none⟩ = some (.slice d vs.length cd)):=fun w' hx => by
  have hA : Box (((w.alloc (.cells #[.bool n,.slice a xs.length ca,.slice b ys.length cb] 24)).alloc (.cells #[.bool m,.slice c us.length cc,.slice d vs.length cd] 24)).alloc (.cells #[.bool false,.slice none 0 0,.slice none 0 0] 24)) w.heap.size 24 #[.bool n,.slice a xs.length ca,.slice b ys.length cb]:=Box.later (Box.made w _ _) (bt (alloc_later _ _) (alloc_later _ _)) (by simp)
  have hB : Box (((w.alloc (.cells #[.bool n,.slice a xs.length ca,.slice b ys.length cb] 24)).alloc (.cells #[.bool m,.slice c us.length cc,.slice d vs.length cd] 24)).alloc (.cells #[.bool false,.slice none 0 0,.slice none 0 0] 24)) (w.heap.size + 1) 24 #[.bool m,.slice c us.length cc,.slice d vs.length cd]:=by
   have e:=Box.later (Box.made (w.alloc (.cells #[.bool n,.slice a xs.length ca,.slice b ys.length cb] 24)) 24 #[.bool m,.slice c us.length cc,.slice d vs.length cd]) (alloc_later ((w.alloc (.cells #[.bool n,.slice a xs.length ca,.slice b ys.length cb] 24)).alloc (.cells #[.bool m,.slice c us.length cc,.slice d vs.length cd] 24)) (.cells #[.bool false,.slice none 0 0,.slice none 0 0] 24)) (by simp)
   simp at e
   exact e
  obtain ⟨p0,p1,p2,_⟩:=res_box3 hA hx
  obtain ⟨q0,q1,q2,_⟩:=res_box3 hB hx
  exact ⟨p0,p1,p2,q0,q1,q2⟩
 have HXS : Hid (w.heap.size + 1 + 1 < (((w.alloc (.cells #[.bool n,.slice a xs.length ca,.slice b ys.length cb] 24)).alloc (.cells #[.bool m,.slice c us.length cc,.slice d vs.length cd] 24)).alloc (.cells #[.bool false,.slice none 0 0,.slice none 0 0] 24)).heap.size):=HZ.out.lt
 have HSL:=hid (And.intro (sx.later HB.out) (And.intro (sy.later HB.out) (And.intro (su.later HB.out) (sv.later HB.out))))
 have HP:=hid (And.intro hy (And.intro hv (And.intro h1 h2)))
 clear sx sy su sv
 have HF0 : Hid (0 < gcdI (val xs) (val vs) /\ gcdI (val xs) (val vs) <= val vs /\ 0 < gcdI (val us) (val ys) /\ gcdI (val us) (val ys) <= val ys):=⟨gcd_pos_right hv,gcd_le_right hv,gcd_pos_right hy,gcd_le_right hy⟩
 have HL : Hid (val xs < 4294967296 ^ 2048 /\ val ys < 4294967296 ^ 2048 /\ val us < 4294967296 ^ 2048 /\ val vs < 4294967296 ^ 2048):=⟨below2048 wx lx,below2048 wy ly,below2048 wu lu,below2048 wv lv⟩
 have HNN : Hid (0 <= val xs /\ 0 <= val us):=⟨val_nonneg wx,val_nonneg wu⟩
 have HC1:=hid (fun ww (hb : Below (((w.alloc (.cells #[.bool n,.slice a xs.length ca,.slice b ys.length cb] 24)).alloc (.cells #[.bool m,.slice c us.length cc,.slice d vs.length cd] 24)).alloc (.cells #[.bool false,.slice none 0 0,.slice none 0 0] 24)).heap.size (((w.alloc (.cells #[.bool n,.slice a xs.length ca,.slice b ys.length cb] 24)).alloc (.cells #[.bool m,.slice c us.length cc,.slice d vs.length cd] 24)).alloc (.cells #[.bool false,.slice none 0 0,.slice none 0 0] 24)) ww) => told1_at _ HK.out ww hb (rcommon_any _ _ xs vs ww (HSL.out.1.later hb) (HSL.out.2.2.2.later hb) (by omega) (by omega) tx tv))
 have HC2:=hid (fun ww (hb : Below (((w.alloc (.cells #[.bool n,.slice a xs.length ca,.slice b ys.length cb] 24)).alloc (.cells #[.bool m,.slice c us.length cc,.slice d vs.length cd] 24)).alloc (.cells #[.bool false,.slice none 0 0,.slice none 0 0] 24)).heap.size (((w.alloc (.cells #[.bool n,.slice a xs.length ca,.slice b ys.length cb] 24)).alloc (.cells #[.bool m,.slice c us.length cc,.slice d vs.length cd] 24)).alloc (.cells #[.bool false,.slice none 0 0,.slice none 0 0] 24)) ww) => told1_at _ HK.out ww hb (rcommon_any _ _ us ys ww (HSL.out.2.2.1.later hb) (HSL.out.2.1.later hb) (by omega) (by omega) tu ty))
 -- quotients by what was found,at each world behind it
 have HQX:=hid (fun ww (hv' : Below (((w.alloc (.cells #[.bool n,.slice a xs.length ca,.slice b ys.length cb] 24)).alloc (.cells #[.bool m,.slice c us.length cc,.slice d vs.length cd] 24)).alloc (.cells #[.bool false,.slice none 0 0,.slice none 0 0] 24)).heap.size (((w.alloc (.cells #[.bool n,.slice a xs.length ca,.slice b ys.length cb] 24)).alloc (.cells #[.bool m,.slice c us.length cc,.slice d vs.length cd] 24)).alloc (.cells #[.bool false,.slice none 0 0,.slice none 0 0] 24)) ww) (a1 : Option Addr) (z1 : List Int) (c1 : Nat) (h : One (((w.alloc (.cells #[.bool n,.slice a xs.length ca,.slice b ys.length cb] 24)).alloc (.cells #[.bool m,.slice c us.length cc,.slice d vs.length cd] 24)).alloc (.cells #[.bool false,.slice none 0 0,.slice none 0 0] 24)) ww (.slice a1 z1.length c1) z1 (gcdI (val xs) (val vs))) => quot_by _ HK.out hv' (HSL.out.1.later hv') (by omega) tx h HF0.out.1 (by have:=HF0.out; have:=HL.out; omega))
 have HQV:=hid (fun ww (hv' : Below (((w.alloc (.cells #[.bool n,.slice a xs.length ca,.slice b ys.length cb] 24)).alloc (.cells #[.bool m,.slice c us.length cc,.slice d vs.length cd] 24)).alloc (.cells #[.bool false,.slice none 0 0,.slice none 0 0] 24)).heap.size (((w.alloc (.cells #[.bool n,.slice a xs.length ca,.slice b ys.length cb] 24)).alloc (.cells #[.bool m,.slice c us.length cc,.slice d vs.length cd] 24)).alloc (.cells #[.bool false,.slice none 0 0,.slice none 0 0] 24)) ww) (a1 : Option Addr) (z1 : List Int) (c1 : Nat) (h : One (((w.alloc (.cells #[.bool n,.slice a xs.length ca,.slice b ys.length cb] 24)).alloc (.cells #[.bool m,.slice c us.length cc,.slice d vs.length cd] 24)).alloc (.cells #[.bool false,.slice none 0 0,.slice none 0 0] 24)) ww (.slice a1 z1.length c1) z1 (gcdI (val xs) (val vs))) => quot_by _ HK.out hv' (HSL.out.2.2.2.later hv') (by omega) tv h HF0.out.1 (by have:=HF0.out; have:=HL.out; omega))
 have HQU:=hid (fun ww (hv' : Below (((w.alloc (.cells #[.bool n,.slice a xs.length ca,.slice b ys.length cb] 24)).alloc (.cells #[.bool m,.slice c us.length cc,.slice d vs.length cd] 24)).alloc (.cells #[.bool false,.slice none 0 0,.slice none 0 0] 24)).heap.size (((w.alloc (.cells #[.bool n,.slice a xs.length ca,.slice b ys.length cb] 24)).alloc (.cells #[.bool m,.slice c us.length cc,.slice d vs.length cd] 24)).alloc (.cells #[.bool false,.slice none 0 0,.slice none 0 0] 24)) ww) (a1 : Option Addr) (z1 : List Int) (c1 : Nat) (h : One (((w.alloc (.cells #[.bool n,.slice a xs.length ca,.slice b ys.length cb] 24)).alloc (.cells #[.bool m,.slice c us.length cc,.slice d vs.length cd] 24)).alloc (.cells #[.bool false,.slice none 0 0,.slice none 0 0] 24)) ww (.slice a1 z1.length c1) z1 (gcdI (val us) (val ys))) => quot_by _ HK.out hv' (HSL.out.2.2.1.later hv') (by omega) tu h HF0.out.2.2.1 (by have:=HF0.out; have:=HL.out; omega))
 have HQY:=hid (fun ww (hv' : Below (((w.alloc (.cells #[.bool n,.slice a xs.length ca,.slice b ys.length cb] 24)).alloc (.cells #[.bool m,.slice c us.length cc,.slice d vs.length cd] 24)).alloc (.cells #[.bool false,.slice none 0 0,.slice none 0 0] 24)).heap.size (((w.alloc (.cells #[.bool n,.slice a xs.length ca,.slice b ys.length cb] 24)).alloc (.cells #[.bool m,.slice c us.length cc,.slice d vs.length cd] 24)).alloc (.cells #[.bool false,.slice none 0 0,.slice none 0 0] 24)) ww) (a1 : Option Addr) (z1 : List Int) (c1 : Nat) (h : One (((w.alloc (.cells #[.bool n,.slice a xs.length ca,.slice b ys.length cb] 24)).alloc (.cells #[.bool m,.slice c us.length cc,.slice d vs.length cd] 24)).alloc (.cells #[.bool false,.slice none 0 0,.slice none 0 0] 24)) ww (.slice a1 z1.length c1) z1 (gcdI (val us) (val ys))) => quot_by _ HK.out hv' (HSL.out.2.1.later hv') (by omega) ty h HF0.out.2.2.1 (by have:=HF0.out; have:=HL.out; omega))
 have HPR:=hid (fun ww (hv' : Below (((w.alloc (.cells #[.bool n,.slice a xs.length ca,.slice b ys.length cb] 24)).alloc (.cells #[.bool m,.slice c us.length cc,.slice d vs.length cd] 24)).alloc (.cells #[.bool false,.slice none 0 0,.slice none 0 0] 24)).heap.size (((w.alloc (.cells #[.bool n,.slice a xs.length ca,.slice b ys.length cb] 24)).alloc (.cells #[.bool m,.slice c us.length cc,.slice d vs.length cd] 24)).alloc (.cells #[.bool false,.slice none 0 0,.slice none 0 0] 24)) ww) (a1 : Option Addr) (z1 : List Int) (c1 : Nat) (s1 : Int) (h : One (((w.alloc (.cells #[.bool n,.slice a xs.length ca,.slice b ys.length cb] 24)).alloc (.cells #[.bool m,.slice c us.length cc,.slice d vs.length cd] 24)).alloc (.cells #[.bool false,.slice none 0 0,.slice none 0 0] 24)) ww (.slice a1 z1.length c1) z1 s1) (a2 : Option Addr) (z2 : List Int) (c2 : Nat) (s2 : Int) (g : One (((w.alloc (.cells #[.bool n,.slice a xs.length ca,.slice b ys.length cb] 24)).alloc (.cells #[.bool m,.slice c us.length cc,.slice d vs.length cd] 24)).alloc (.cells #[.bool false,.slice none 0 0,.slice none 0 0] 24)) ww (.slice a2 z2.length c2) z2 s2) (k1 : s1 < 4294967296 ^ 2048) (k2 : s2 < 4294967296 ^ 2048) => told1_in _ HK.out ww hv' (show Calls Tryz.prog 294 #[.slice a1 z1.length c1,.slice a2 z2.length c2] ww (Told1 ww (s1 * s2)) by
  have e:=rprod_any _ _ z1 z2 ww h.sl g.sl (by have:=own_len h k1; have:=own_len g k2; omega) h.2.2.1 g.2.2.1
  rw [h.2.2.2,g.2.2.2] at e
  exact e))
 have HD : Hid (val xs / gcdI (val xs) (val vs) < 4294967296 ^ 2048 /\ val us / gcdI (val us) (val ys) < 4294967296 ^ 2048 /\ val ys / gcdI (val us) (val ys) < 4294967296 ^ 2048 /\ val vs / gcdI (val xs) (val vs) < 4294967296 ^ 2048):=by
  have q1:=Int.ediv_le_self (gcdI (val xs) (val vs)) HNN.out.1
  have q2:=Int.ediv_le_self (gcdI (val us) (val ys)) HNN.out.2
  have q3:=Int.ediv_le_self (a:=val ys) (gcdI (val us) (val ys)) (by omega)
  have q4:=Int.ediv_le_self (a:=val vs) (gcdI (val xs) (val vs)) (by omega)
  have:=HL.out
  refine ⟨?_,?_,?_,?_⟩ <;> omega
 have hs0:=HK.out _ (Below.drew (Below.refl _ (((w.alloc (.cells #[.bool n,.slice a xs.length ca,.slice b ys.length cb] 24)).alloc (.cells #[.bool m,.slice c us.length cc,.slice d vs.length cd] 24)).alloc (.cells #[.bool false,.slice none 0 0,.slice none 0 0] 24))))
 go_enter Tryz.func268,Tryz.ntmps268
 go_wp2_with fail
 go_region_held3 (fun w' : World => w'.cell? ⟨w.heap.size,0,none⟩ = some (.bool n) /\ w'.cell? ⟨w.heap.size,1,none⟩ = some (.slice a xs.length ca) /\ w'.cell? ⟨w.heap.size,2,none⟩ = some (.slice b ys.length cb) /\ w'.cell? ⟨w.heap.size + 1,0,none⟩ = some (.bool m) /\ w'.cell? ⟨w.heap.size + 1,1,none⟩ = some (.slice c us.length cc) /\ w'.cell? ⟨w.heap.size + 1,2,none⟩ = some (.slice d vs.length cd)) (first | exact hs2 | exact hs1 | exact hs0)
  (first
   | (go_at_call 291; with_reducible refine Calls.mono (HC2.out _ hb1) ?_; rintro e w2 ⟨a2,z2,c2,rfl,HE2,hs2,hb2,HS2⟩)
   | (go_at_call 291; with_reducible refine Calls.mono (HC1.out _ (Below.drew (Below.refl _ _))) ?_; rintro e w1 ⟨a1,z1,c1,rfl,HE1,hs1,hb1,HS1⟩))
 have hb2d:=hb2.drew
 have HO1:=hid ((HE1.out.later HS2.out).later (Below.drew (Below.refl _ w2)))
 have HO2:=hid (HE2.out.later (Below.drew (Below.refl _ w2)))
 have hs0:=HK.out _ hb2d
 clear hs1 hs2 hb1 HC1 HC2 HE1 HE2 HS1 HS2
 go_wp2_with fail
 go_region_held3 (fun w' : World => w'.cell? ⟨w.heap.size,0,none⟩ = some (.bool n) /\ w'.cell? ⟨w.heap.size,1,none⟩ = some (.slice a xs.length ca) /\ w'.cell? ⟨w.heap.size,2,none⟩ = some (.slice b ys.length cb) /\ w'.cell? ⟨w.heap.size + 1,0,none⟩ = some (.bool m) /\ w'.cell? ⟨w.heap.size + 1,1,none⟩ = some (.slice c us.length cc) /\ w'.cell? ⟨w.heap.size + 1,2,none⟩ = some (.slice d vs.length cd)) (first | exact hs5 | exact hs4 | exact hs3 | exact hs0)
  (first
   | (go_at_call 294; with_reducible refine Calls.mono (HPR.out _ hb4 _ _ _ _ (HE3.out.later HS4.out) _ _ _ _ HE4.out HD.out.1 HD.out.2.1) ?_; rintro e w5 ⟨a5,z5,c5,rfl,HE5,hs5,hb5,HS5⟩)
   | (go_at_call 292; with_reducible refine Calls.mono (HQU.out _ hb3 _ _ _ (HO2.out.later HS3.out)) ?_; rintro e w4 ⟨a4,z4,c4,rfl,HE4,hs4,hb4,HS4⟩)
   | (go_at_call 292; with_reducible refine Calls.mono (HQX.out _ hb2d _ _ _ HO1.out) ?_; rintro e w3 ⟨a3,z3,c3,rfl,HE3,hs3,hb3,HS3⟩))
 have hb5d:=hb5.drew
 have HO1':=hid ((((HO1.out.later HS3.out).later HS4.out).later HS5.out).later (Below.drew (Below.refl _ w5)))
 have HO2':=hid ((((HO2.out.later HS3.out).later HS4.out).later HS5.out).later (Below.drew (Below.refl _ w5)))
 have HO5:=hid (HE5.out.1.later (Below.drew (Below.refl _ w5)))
 have HC5:=hid (And.intro hb4.size (And.intro HS5.out.size HE5.out.2))
 clear hs0 hs3 hs4 hs5 HO1 HO2 hb3 hb4 hb2 hb2d HE3 HE4 HE5 HS3 HS4 HS5
 have hs0:=HK.out _ hb5d
 go_wp2_with fail
 go_region_held3 (fun w' : World => w'.cell? ⟨w.heap.size,0,none⟩ = some (.bool n) /\ w'.cell? ⟨w.heap.size,1,none⟩ = some (.slice a xs.length ca) /\ w'.cell? ⟨w.heap.size,2,none⟩ = some (.slice b ys.length cb) /\ w'.cell? ⟨w.heap.size + 1,0,none⟩ = some (.bool m) /\ w'.cell? ⟨w.heap.size + 1,1,none⟩ = some (.slice c us.length cc) /\ w'.cell? ⟨w.heap.size + 1,2,none⟩ = some (.slice d vs.length cd)) (first | exact hs8 | exact hs7 | exact hs6 | exact hs0)
  (first
   | (go_at_call 294; with_reducible refine Calls.mono (HPR.out _ hb7 _ _ _ _ (HE6.out.later HS7.out) _ _ _ _ HE7.out HD.out.2.2.1 HD.out.2.2.2) ?_; rintro e w8 ⟨a8,z8,c8,rfl,HE8,hs8,hb8,HS8⟩)
   | (go_at_call 292; with_reducible refine Calls.mono (HQV.out _ hb6 _ _ _ (HO1'.out.later HS6.out)) ?_; rintro e w7 ⟨a7,z7,c7,rfl,HE7,hs7,hb7,HS7⟩)
   | (go_at_call 292; with_reducible refine Calls.mono (HQY.out _ hb5d _ _ _ HO2'.out) ?_; rintro e w6 ⟨a6,z6,c6,rfl,HE6,hs6,hb6,HS6⟩))
 have HN:=hid (((HO5.out.later HS6.out).later HS7.out).later HS8.out)
 have HC8:=hid (cut_two (u:=w4) (V:=w5) (W:=w8) HC5.out.1 HC5.out.2.1 (Nat.le_trans (show w5.heap.size <= w6.heap.size from HS6.out.size) (Nat.le_trans HS7.out.size HS8.out.size)) HC5.out.2.2 (lies_low HE8.out.2 (Nat.le_trans (show w5.heap.size <= w6.heap.size from HS6.out.size) HS7.out.size)))
 have hmp:=mul_parts (n:=n) (m:=m) HP.out.1 HP.out.2.1 HP.out.2.2.1 HP.out.2.2.2 rfl rfl rfl rfl
 have HT:=hid (fun ww (hb : Below (((w.alloc (.cells #[.bool n,.slice a xs.length ca,.slice b ys.length cb] 24)).alloc (.cells #[.bool m,.slice c us.length cc,.slice d vs.length cd] 24)).alloc (.cells #[.bool false,.slice none 0 0,.slice none 0 0] 24)).heap.size (((w.alloc (.cells #[.bool n,.slice a xs.length ca,.slice b ys.length cb] 24)).alloc (.cells #[.bool m,.slice c us.length cc,.slice d vs.length cd] 24)).alloc (.cells #[.bool false,.slice none 0 0,.slice none 0 0] 24)) ww) (g1 : One (((w.alloc (.cells #[.bool n,.slice a xs.length ca,.slice b ys.length cb] 24)).alloc (.cells #[.bool m,.slice c us.length cc,.slice d vs.length cd] 24)).alloc (.cells #[.bool false,.slice none 0 0,.slice none 0 0] 24)) ww (.slice a5 z5.length c5) z5 _) (g2 : One (((w.alloc (.cells #[.bool n,.slice a xs.length ca,.slice b ys.length cb] 24)).alloc (.cells #[.bool m,.slice c us.length cc,.slice d vs.length cd] 24)).alloc (.cells #[.bool false,.slice none 0 0,.slice none 0 0] 24)) ww (.slice a8 z8.length c8) z8 _) (hc : Cut (((w.alloc (.cells #[.bool n,.slice a xs.length ca,.slice b ys.length cb] 24)).alloc (.cells #[.bool m,.slice c us.length cc,.slice d vs.length cd] 24)).alloc (.cells #[.bool false,.slice none 0 0,.slice none 0 0] 24)) (.slice a5 z5.length c5) (.slice a8 z8.length c8) ww) => rtold_cut _ HK.out hb g1 g2 hc hmp.1 hmp.2.1 hmp.2.2)
 obtain ⟨g0,g1,g2,g3,g4,g5⟩:=hs8
 have HBX:=hid hb8
 have HE8':=hid HE8.out.1
 clear hs0 hs6 hs7 hb5 hb5d hb6 hb7 hb8 HO1' HO2' HO5 HE6 HE7 HE8 HS6 HS7 HS8 hmp HQX HQV HQU HQY HPR
 go_wp2_with fail
 refine Calls.mono (HT.out _ HBX.out HN.out HE8'.out HC8.out) ?_
 rintro e w9 ⟨k9,a9,z9,c9,aA,zA,cA,code,rfl,HR,_,hb9⟩
 obtain ⟨y0,y1,y2,f0,f1,f2⟩:=res_box3 HZ.out hb9
 have HBW:=hid (bt HB.out hb9)
 clear hb9 g0 g1 g2 g3 g4 g5 HT HN HE8'
 go_wp2_with fail
 refine bodyPost_ret (v:=.tuple #[.agg #[.bool k9,.slice a9 z9.length c9,.slice aA zA.length cA],.int .i64 code]) (by simp [results,Tryz.results268,go_sem,y0,y1,y2]) rfl ?_
 exact RToldA.put HR.out (w.heap.size + 1 + 1) HXS.out (by omega) HBW.out _ _ _
theorem rq_less {n m : Bool} {xs ys us vs : List Int} : rq n xs ys + rq (!m) us vs = rq n xs ys - rq m us vs:=by
 rw [Rat.sub_eq_add_neg]
 congr 1
 unfold rq
 rw [Rat.neg_divInt]
 congr 1
 cases m <;> simp [wval]
set_option maxRecDepth 100000 in
theorem rAdd_err (n : Bool) (a : Option Addr) (ca : Nat) (xs : List Int) (b : Option Addr) (cb : Nat) (ys : List Int) (m : Bool) (c : Option Addr) (cc : Nat) (us : List Int) (d : Option Addr) (cd : Nat) (vs : List Int) (w : World) (sx : Sl w (.slice a xs.length ca) xs) (sy : Sl w (.slice b ys.length cb) ys) (su : Sl w (.slice c us.length cc) us) (sv : Sl w (.slice d vs.length cd) vs) (he : rboth n xs ys m us vs ≠ 0) (q : Rat) :
 Calls Tryz.prog 239 #[.agg #[.bool n,.slice a xs.length ca,.slice b ys.length cb],.agg #[.bool m,.slice c us.length cc,.slice d vs.length cd]] w (RToldA w (rboth n xs ys m us vs) q):=by
 have HB : Hid (Below w.heap.size w (((w.alloc (.cells #[.bool n,.slice a xs.length ca,.slice b ys.length cb] 24)).alloc (.cells #[.bool m,.slice c us.length cc,.slice d vs.length cd] 24)).alloc (.cells #[.bool false,.slice none 0 0,.slice none 0 0] 24))):=bt (bt (alloc_later _ _) (alloc_later _ _)) (alloc_later _ _)
 have HZ : Hid (Box (((w.alloc (.cells #[.bool n,.slice a xs.length ca,.slice b ys.length cb] 24)).alloc (.cells #[.bool m,.slice c us.length cc,.slice d vs.length cd] 24)).alloc (.cells #[.bool false,.slice none 0 0,.slice none 0 0] 24)) (w.heap.size + 1 + 1) 24 #[.bool false,.slice none 0 0,.slice none 0 0]):=by
  have e:=Box.made ((w.alloc (.cells #[.bool n,.slice a xs.length ca,.slice b ys.length cb] 24)).alloc (.cells #[.bool m,.slice c us.length cc,.slice d vs.length cd] 24)) 24 #[.bool false,.slice none 0 0,.slice none 0 0]
  simp at e
  exact e
 have HN : Hid (Box (((w.alloc (.cells #[.bool n,.slice a xs.length ca,.slice b ys.length cb] 24)).alloc (.cells #[.bool m,.slice c us.length cc,.slice d vs.length cd] 24)).alloc (.cells #[.bool false,.slice none 0 0,.slice none 0 0] 24)) w.heap.size 24 #[.bool n,.slice a xs.length ca,.slice b ys.length cb]):=Box.later (Box.made w _ _) (bt (alloc_later _ _) (alloc_later _ _)) (by simp)
 have HM : Hid (Box (((w.alloc (.cells #[.bool n,.slice a xs.length ca,.slice b ys.length cb] 24)).alloc (.cells #[.bool m,.slice c us.length cc,.slice d vs.length cd] 24)).alloc (.cells #[.bool false,.slice none 0 0,.slice none 0 0] 24)) (w.heap.size + 1) 24 #[.bool m,.slice c us.length cc,.slice d vs.length cd]):=by
  have e:=Box.later (Box.made (w.alloc (.cells #[.bool n,.slice a xs.length ca,.slice b ys.length cb] 24)) 24 #[.bool m,.slice c us.length cc,.slice d vs.length cd]) (alloc_later ((w.alloc (.cells #[.bool n,.slice a xs.length ca,.slice b ys.length cb] 24)).alloc (.cells #[.bool m,.slice c us.length cc,.slice d vs.length cd] 24)) (.cells #[.bool false,.slice none 0 0,.slice none 0 0] 24)) (by simp)
  simp at e
  exact e
 have HXS : Hid (w.heap.size + 1 + 1 < (((w.alloc (.cells #[.bool n,.slice a xs.length ca,.slice b ys.length cb] 24)).alloc (.cells #[.bool m,.slice c us.length cc,.slice d vs.length cd] 24)).alloc (.cells #[.bool false,.slice none 0 0,.slice none 0 0] 24)).heap.size):=HZ.out.lt
 have HSL:=hid (And.intro (sx.later HB.out) (And.intro (sy.later HB.out) (And.intro (su.later HB.out) (sv.later HB.out))))
 have HC:=hid (rcheckBoth_any n _ xs _ ys m _ us _ vs (((w.alloc (.cells #[.bool n,.slice a xs.length ca,.slice b ys.length cb] 24)).alloc (.cells #[.bool m,.slice c us.length cc,.slice d vs.length cd] 24)).alloc (.cells #[.bool false,.slice none 0 0,.slice none 0 0] 24)) HSL.out.1 HSL.out.2.1 HSL.out.2.2.1 HSL.out.2.2.2)
 obtain ⟨E,hE⟩ : ∃ E,rboth n xs ys m us vs = E:=⟨_,rfl⟩
 rw [hE] at HC he ⊢
 have he' : (E == 0) = false:=beq_eq_false_iff_ne.2 he
 have HE:=hid he
 clear he hE sx sy su sv
 go_enter Tryz.func239,Tryz.ntmps239
 go_wp2_with fail
 refine Calls.mono HC.out ?_
 generalize (((w.alloc (.cells #[.bool n,.slice a xs.length ca,.slice b ys.length cb] 24)).alloc (.cells #[.bool m,.slice c us.length cc,.slice d vs.length cd] 24)).alloc (.cells #[.bool false,.slice none 0 0,.slice none 0 0] 24)) = X at *
 rintro e w1 ⟨rfl,hb1⟩
 obtain ⟨y0,y1,y2,f0,f1,f2⟩:=res_box3 HZ.out hb1
 have HBN:=hid (below_put3 (bt HB.out hb1) (w.heap.size + 1 + 1) (by omega) (.bool false) (.slice none 0 0) (.slice none 0 0))
 clear hb1 HC HN HM HZ HSL
 go_wp2_with fail
 refine bodyPost_ret (v:=.tuple #[.agg #[.bool false,.slice none 0 0,.slice none 0 0],.int .i64 E]) (by simp [results,Tryz.results239,go_sem,y0,y1,y2]) rfl ?_
 exact ⟨false,_,[],_,[],_,rfl,World.ownsRow_nil _ _ _ _,World.ownsRow_nil _ _ _ _,RTells.err HE.out,HBN.out,⟨w.heap.size,Nat.le_refl _,HBN.out.size,fun g hg => by simp [Value.ownBlock] at hg,fun g hg => by simp [Value.ownBlock] at hg⟩⟩
set_option maxRecDepth 100000 in
theorem rAdd_ok (n : Bool) (a : Option Addr) (ca : Nat) (xs : List Int) (b : Option Addr) (cb : Nat) (ys : List Int) (m : Bool) (c : Option Addr) (cc : Nat) (us : List Int) (d : Option Addr) (cd : Nat) (vs : List Int) (w : World) (sx : Sl w (.slice a xs.length ca) xs) (sy : Sl w (.slice b ys.length cb) ys) (su : Sl w (.slice c us.length cc) us) (sv : Sl w (.slice d vs.length cd) vs) (hx : rchk n xs ys = 0) (hy : rchk m us vs = 0) :
 Calls Tryz.prog 239 #[.agg #[.bool n,.slice a xs.length ca,.slice b ys.length cb],.agg #[.bool m,.slice c us.length cc,.slice d vs.length cd]] w (RToldA w 0 (rq n xs ys + rq m us vs)):=by
 obtain ⟨lx,ly,tx,ty,y0',_,g1⟩:=rchk_ok hx
 obtain ⟨lu,lv,tu,tv,v0',_,g2⟩:=rchk_ok hy
 have py:=val_pos' sy.wd ty y0'
 have pv:=val_pos' sv.wd tv v0'
 have HB : Hid (Below w.heap.size w (((w.alloc (.cells #[.bool n,.slice a xs.length ca,.slice b ys.length cb] 24)).alloc (.cells #[.bool m,.slice c us.length cc,.slice d vs.length cd] 24)).alloc (.cells #[.bool false,.slice none 0 0,.slice none 0 0] 24))):=bt (bt (alloc_later _ _) (alloc_later _ _)) (alloc_later _ _)
 have HZ : Hid (Box (((w.alloc (.cells #[.bool n,.slice a xs.length ca,.slice b ys.length cb] 24)).alloc (.cells #[.bool m,.slice c us.length cc,.slice d vs.length cd] 24)).alloc (.cells #[.bool false,.slice none 0 0,.slice none 0 0] 24)) (w.heap.size + 1 + 1) 24 #[.bool false,.slice none 0 0,.slice none 0 0]):=by
  have e:=Box.made ((w.alloc (.cells #[.bool n,.slice a xs.length ca,.slice b ys.length cb] 24)).alloc (.cells #[.bool m,.slice c us.length cc,.slice d vs.length cd] 24)) 24 #[.bool false,.slice none 0 0,.slice none 0 0]
  simp at e
  exact e
 have HN : Hid (Box (((w.alloc (.cells #[.bool n,.slice a xs.length ca,.slice b ys.length cb] 24)).alloc (.cells #[.bool m,.slice c us.length cc,.slice d vs.length cd] 24)).alloc (.cells #[.bool false,.slice none 0 0,.slice none 0 0] 24)) w.heap.size 24 #[.bool n,.slice a xs.length ca,.slice b ys.length cb]):=Box.later (Box.made w _ _) (bt (alloc_later _ _) (alloc_later _ _)) (by simp)
 have HM : Hid (Box (((w.alloc (.cells #[.bool n,.slice a xs.length ca,.slice b ys.length cb] 24)).alloc (.cells #[.bool m,.slice c us.length cc,.slice d vs.length cd] 24)).alloc (.cells #[.bool false,.slice none 0 0,.slice none 0 0] 24)) (w.heap.size + 1) 24 #[.bool m,.slice c us.length cc,.slice d vs.length cd]):=by
  have e:=Box.later (Box.made (w.alloc (.cells #[.bool n,.slice a xs.length ca,.slice b ys.length cb] 24)) 24 #[.bool m,.slice c us.length cc,.slice d vs.length cd]) (alloc_later ((w.alloc (.cells #[.bool n,.slice a xs.length ca,.slice b ys.length cb] 24)).alloc (.cells #[.bool m,.slice c us.length cc,.slice d vs.length cd] 24)) (.cells #[.bool false,.slice none 0 0,.slice none 0 0] 24)) (by simp)
  simp at e
  exact e
 have HXS : Hid (w.heap.size + 1 + 1 < (((w.alloc (.cells #[.bool n,.slice a xs.length ca,.slice b ys.length cb] 24)).alloc (.cells #[.bool m,.slice c us.length cc,.slice d vs.length cd] 24)).alloc (.cells #[.bool false,.slice none 0 0,.slice none 0 0] 24)).heap.size):=HZ.out.lt
 have HSL:=hid (And.intro (sx.later HB.out) (And.intro (sy.later HB.out) (And.intro (su.later HB.out) (sv.later HB.out))))
 have HC:=hid (rcheckBoth_any n _ xs _ ys m _ us _ vs (((w.alloc (.cells #[.bool n,.slice a xs.length ca,.slice b ys.length cb] 24)).alloc (.cells #[.bool m,.slice c us.length cc,.slice d vs.length cd] 24)).alloc (.cells #[.bool false,.slice none 0 0,.slice none 0 0] 24)) HSL.out.1 HSL.out.2.1 HSL.out.2.2.1 HSL.out.2.2.2)
 rw [rboth_good hx hy] at HC
 have HA:=hid (fun ww (hb : Below (((w.alloc (.cells #[.bool n,.slice a xs.length ca,.slice b ys.length cb] 24)).alloc (.cells #[.bool m,.slice c us.length cc,.slice d vs.length cd] 24)).alloc (.cells #[.bool false,.slice none 0 0,.slice none 0 0] 24)).heap.size (((w.alloc (.cells #[.bool n,.slice a xs.length ca,.slice b ys.length cb] 24)).alloc (.cells #[.bool m,.slice c us.length cc,.slice d vs.length cd] 24)).alloc (.cells #[.bool false,.slice none 0 0,.slice none 0 0] 24)) ww) => radd_any n a ca xs b cb ys m c cc us d cd vs ww (HSL.out.1.later hb) (HSL.out.2.1.later hb) (HSL.out.2.2.1.later hb) (HSL.out.2.2.2.later hb) lx ly lu lv tx ty tu tv (by omega) (by omega) g1 g2)
 clear sx sy su sv hx hy tx ty tu tv g1 g2 py pv
 go_enter Tryz.func239,Tryz.ntmps239
 go_wp2_with fail
 refine Calls.mono HC.out ?_
 generalize (((w.alloc (.cells #[.bool n,.slice a xs.length ca,.slice b ys.length cb] 24)).alloc (.cells #[.bool m,.slice c us.length cc,.slice d vs.length cd] 24)).alloc (.cells #[.bool false,.slice none 0 0,.slice none 0 0] 24)) = X at *
 rintro e w1 ⟨rfl,hb1⟩
 have HCA:=hid (HA.out w1 hb1)
 obtain ⟨p0,p1,p2,_⟩:=res_box3 HN.out hb1
 obtain ⟨q0,q1,q2,_⟩:=res_box3 HM.out hb1
 have HB1:=hid hb1
 clear hb1 HC HA
 go_wp2_with fail
 refine Calls.mono HCA.out ?_
 rintro e w2 ⟨k2,v2,z2,u2,r2,code,rfl,o2,o3,t2,hb2,hc2⟩
 obtain ⟨a2,c2,hs2⟩:=own_slice' o2
 subst hs2
 obtain ⟨a3,c3,hs3⟩:=own_slice' o3
 subst hs3
 have HR:=hid (And.intro o2 (And.intro o3 (And.intro t2 hc2)))
 obtain ⟨y0,y1,y2,f0,f1,f2⟩:=res_box3 HZ.out (bt HB1.out hb2)
 have HBW:=hid (bt HB.out (bt HB1.out hb2))
 have HLT : Hid (w.heap.size + 1 + 1 < w1.heap.size):=Nat.lt_of_lt_of_le HXS.out HB1.out.size
 clear o2 o3 t2 hb2 hc2 HCA p0 p1 p2 q0 q1 q2
 go_wp2_with fail
 refine bodyPost_ret (v:=.tuple #[.agg #[.bool k2,.slice a2 z2.length c2,.slice a3 r2.length c3],.int .i64 code]) (by simp [results,Tryz.results239,go_sem,y0,y1,y2]) rfl ?_
 exact RToldA.put HR.out (w.heap.size + 1 + 1) HLT.out (by omega) HBW.out _ _ _
theorem rAdd_full (n : Bool) (a : Option Addr) (ca : Nat) (xs : List Int) (b : Option Addr) (cb : Nat) (ys : List Int) (m : Bool) (c : Option Addr) (cc : Nat) (us : List Int) (d : Option Addr) (cd : Nat) (vs : List Int) (w : World) (sx : Sl w (.slice a xs.length ca) xs) (sy : Sl w (.slice b ys.length cb) ys) (su : Sl w (.slice c us.length cc) us) (sv : Sl w (.slice d vs.length cd) vs) :
 Calls Tryz.prog 239 #[.agg #[.bool n,.slice a xs.length ca,.slice b ys.length cb],.agg #[.bool m,.slice c us.length cc,.slice d vs.length cd]] w (RToldA w (rboth n xs ys m us vs) (rq n xs ys + rq m us vs)):=by
 by_cases he : rboth n xs ys m us vs = 0
 · rw [he]
   exact rAdd_ok n a ca xs b cb ys m c cc us d cd vs w sx sy su sv (rboth_ok he).1 (rboth_ok he).2
 · exact rAdd_err n a ca xs b cb ys m c cc us d cd vs w sx sy su sv he _
set_option maxRecDepth 100000 in
theorem rMul_err (n : Bool) (a : Option Addr) (ca : Nat) (xs : List Int) (b : Option Addr) (cb : Nat) (ys : List Int) (m : Bool) (c : Option Addr) (cc : Nat) (us : List Int) (d : Option Addr) (cd : Nat) (vs : List Int) (w : World) (sx : Sl w (.slice a xs.length ca) xs) (sy : Sl w (.slice b ys.length cb) ys) (su : Sl w (.slice c us.length cc) us) (sv : Sl w (.slice d vs.length cd) vs) (he : rboth n xs ys m us vs ≠ 0) (q : Rat) :
 Calls Tryz.prog 238 #[.agg #[.bool n,.slice a xs.length ca,.slice b ys.length cb],.agg #[.bool m,.slice c us.length cc,.slice d vs.length cd]] w (RToldA w (rboth n xs ys m us vs) q):=by
 have HB : Hid (Below w.heap.size w (((w.alloc (.cells #[.bool n,.slice a xs.length ca,.slice b ys.length cb] 24)).alloc (.cells #[.bool m,.slice c us.length cc,.slice d vs.length cd] 24)).alloc (.cells #[.bool false,.slice none 0 0,.slice none 0 0] 24))):=bt (bt (alloc_later _ _) (alloc_later _ _)) (alloc_later _ _)
 have HZ : Hid (Box (((w.alloc (.cells #[.bool n,.slice a xs.length ca,.slice b ys.length cb] 24)).alloc (.cells #[.bool m,.slice c us.length cc,.slice d vs.length cd] 24)).alloc (.cells #[.bool false,.slice none 0 0,.slice none 0 0] 24)) (w.heap.size + 1 + 1) 24 #[.bool false,.slice none 0 0,.slice none 0 0]):=by
  have e:=Box.made ((w.alloc (.cells #[.bool n,.slice a xs.length ca,.slice b ys.length cb] 24)).alloc (.cells #[.bool m,.slice c us.length cc,.slice d vs.length cd] 24)) 24 #[.bool false,.slice none 0 0,.slice none 0 0]
  simp at e
  exact e
 have HN : Hid (Box (((w.alloc (.cells #[.bool n,.slice a xs.length ca,.slice b ys.length cb] 24)).alloc (.cells #[.bool m,.slice c us.length cc,.slice d vs.length cd] 24)).alloc (.cells #[.bool false,.slice none 0 0,.slice none 0 0] 24)) w.heap.size 24 #[.bool n,.slice a xs.length ca,.slice b ys.length cb]):=Box.later (Box.made w _ _) (bt (alloc_later _ _) (alloc_later _ _)) (by simp)
 have HM : Hid (Box (((w.alloc (.cells #[.bool n,.slice a xs.length ca,.slice b ys.length cb] 24)).alloc (.cells #[.bool m,.slice c us.length cc,.slice d vs.length cd] 24)).alloc (.cells #[.bool false,.slice none 0 0,.slice none 0 0] 24)) (w.heap.size + 1) 24 #[.bool m,.slice c us.length cc,.slice d vs.length cd]):=by
  have e:=Box.later (Box.made (w.alloc (.cells #[.bool n,.slice a xs.length ca,.slice b ys.length cb] 24)) 24 #[.bool m,.slice c us.length cc,.slice d vs.length cd]) (alloc_later ((w.alloc (.cells #[.bool n,.slice a xs.length ca,.slice b ys.length cb] 24)).alloc (.cells #[.bool m,.slice c us.length cc,.slice d vs.length cd] 24)) (.cells #[.bool false,.slice none 0 0,.slice none 0 0] 24)) (by simp)
  simp at e
  exact e
 have HXS : Hid (w.heap.size + 1 + 1 < (((w.alloc (.cells #[.bool n,.slice a xs.length ca,.slice b ys.length cb] 24)).alloc (.cells #[.bool m,.slice c us.length cc,.slice d vs.length cd] 24)).alloc (.cells #[.bool false,.slice none 0 0,.slice none 0 0] 24)).heap.size):=HZ.out.lt
 have HSL:=hid (And.intro (sx.later HB.out) (And.intro (sy.later HB.out) (And.intro (su.later HB.out) (sv.later HB.out))))
 have HC:=hid (rcheckBoth_any n _ xs _ ys m _ us _ vs (((w.alloc (.cells #[.bool n,.slice a xs.length ca,.slice b ys.length cb] 24)).alloc (.cells #[.bool m,.slice c us.length cc,.slice d vs.length cd] 24)).alloc (.cells #[.bool false,.slice none 0 0,.slice none 0 0] 24)) HSL.out.1 HSL.out.2.1 HSL.out.2.2.1 HSL.out.2.2.2)
 obtain ⟨E,hE⟩ : ∃ E,rboth n xs ys m us vs = E:=⟨_,rfl⟩
 rw [hE] at HC he ⊢
 have he' : (E == 0) = false:=beq_eq_false_iff_ne.2 he
 have HE:=hid he
 clear he hE sx sy su sv
 go_enter Tryz.func238,Tryz.ntmps238
 go_wp2_with fail
 refine Calls.mono HC.out ?_
 generalize (((w.alloc (.cells #[.bool n,.slice a xs.length ca,.slice b ys.length cb] 24)).alloc (.cells #[.bool m,.slice c us.length cc,.slice d vs.length cd] 24)).alloc (.cells #[.bool false,.slice none 0 0,.slice none 0 0] 24)) = X at *
 rintro e w1 ⟨rfl,hb1⟩
 obtain ⟨y0,y1,y2,f0,f1,f2⟩:=res_box3 HZ.out hb1
 have HBN:=hid (below_put3 (bt HB.out hb1) (w.heap.size + 1 + 1) (by omega) (.bool false) (.slice none 0 0) (.slice none 0 0))
 clear hb1 HC HN HM HZ HSL
 go_wp2_with fail
 refine bodyPost_ret (v:=.tuple #[.agg #[.bool false,.slice none 0 0,.slice none 0 0],.int .i64 E]) (by simp [results,Tryz.results238,go_sem,y0,y1,y2]) rfl ?_
 exact ⟨false,_,[],_,[],_,rfl,World.ownsRow_nil _ _ _ _,World.ownsRow_nil _ _ _ _,RTells.err HE.out,HBN.out,⟨w.heap.size,Nat.le_refl _,HBN.out.size,fun g hg => by simp [Value.ownBlock] at hg,fun g hg => by simp [Value.ownBlock] at hg⟩⟩
set_option maxRecDepth 100000 in
theorem rMul_ok (n : Bool) (a : Option Addr) (ca : Nat) (xs : List Int) (b : Option Addr) (cb : Nat) (ys : List Int) (m : Bool) (c : Option Addr) (cc : Nat) (us : List Int) (d : Option Addr) (cd : Nat) (vs : List Int) (w : World) (sx : Sl w (.slice a xs.length ca) xs) (sy : Sl w (.slice b ys.length cb) ys) (su : Sl w (.slice c us.length cc) us) (sv : Sl w (.slice d vs.length cd) vs) (hx : rchk n xs ys = 0) (hy : rchk m us vs = 0) :
 Calls Tryz.prog 238 #[.agg #[.bool n,.slice a xs.length ca,.slice b ys.length cb],.agg #[.bool m,.slice c us.length cc,.slice d vs.length cd]] w (RToldA w 0 (rq n xs ys * rq m us vs)):=by
 obtain ⟨lx,ly,tx,ty,y0',_,g1⟩:=rchk_ok hx
 obtain ⟨lu,lv,tu,tv,v0',_,g2⟩:=rchk_ok hy
 have py:=val_pos' sy.wd ty y0'
 have pv:=val_pos' sv.wd tv v0'
 have HB : Hid (Below w.heap.size w (((w.alloc (.cells #[.bool n,.slice a xs.length ca,.slice b ys.length cb] 24)).alloc (.cells #[.bool m,.slice c us.length cc,.slice d vs.length cd] 24)).alloc (.cells #[.bool false,.slice none 0 0,.slice none 0 0] 24))):=bt (bt (alloc_later _ _) (alloc_later _ _)) (alloc_later _ _)
 have HZ : Hid (Box (((w.alloc (.cells #[.bool n,.slice a xs.length ca,.slice b ys.length cb] 24)).alloc (.cells #[.bool m,.slice c us.length cc,.slice d vs.length cd] 24)).alloc (.cells #[.bool false,.slice none 0 0,.slice none 0 0] 24)) (w.heap.size + 1 + 1) 24 #[.bool false,.slice none 0 0,.slice none 0 0]):=by
  have e:=Box.made ((w.alloc (.cells #[.bool n,.slice a xs.length ca,.slice b ys.length cb] 24)).alloc (.cells #[.bool m,.slice c us.length cc,.slice d vs.length cd] 24)) 24 #[.bool false,.slice none 0 0,.slice none 0 0]
  simp at e
  exact e
 have HN : Hid (Box (((w.alloc (.cells #[.bool n,.slice a xs.length ca,.slice b ys.length cb] 24)).alloc (.cells #[.bool m,.slice c us.length cc,.slice d vs.length cd] 24)).alloc (.cells #[.bool false,.slice none 0 0,.slice none 0 0] 24)) w.heap.size 24 #[.bool n,.slice a xs.length ca,.slice b ys.length cb]):=Box.later (Box.made w _ _) (bt (alloc_later _ _) (alloc_later _ _)) (by simp)
 have HM : Hid (Box (((w.alloc (.cells #[.bool n,.slice a xs.length ca,.slice b ys.length cb] 24)).alloc (.cells #[.bool m,.slice c us.length cc,.slice d vs.length cd] 24)).alloc (.cells #[.bool false,.slice none 0 0,.slice none 0 0] 24)) (w.heap.size + 1) 24 #[.bool m,.slice c us.length cc,.slice d vs.length cd]):=by
  have e:=Box.later (Box.made (w.alloc (.cells #[.bool n,.slice a xs.length ca,.slice b ys.length cb] 24)) 24 #[.bool m,.slice c us.length cc,.slice d vs.length cd]) (alloc_later ((w.alloc (.cells #[.bool n,.slice a xs.length ca,.slice b ys.length cb] 24)).alloc (.cells #[.bool m,.slice c us.length cc,.slice d vs.length cd] 24)) (.cells #[.bool false,.slice none 0 0,.slice none 0 0] 24)) (by simp)
  simp at e
  exact e
 have HXS : Hid (w.heap.size + 1 + 1 < (((w.alloc (.cells #[.bool n,.slice a xs.length ca,.slice b ys.length cb] 24)).alloc (.cells #[.bool m,.slice c us.length cc,.slice d vs.length cd] 24)).alloc (.cells #[.bool false,.slice none 0 0,.slice none 0 0] 24)).heap.size):=HZ.out.lt
 have HSL:=hid (And.intro (sx.later HB.out) (And.intro (sy.later HB.out) (And.intro (su.later HB.out) (sv.later HB.out))))
 have HC:=hid (rcheckBoth_any n _ xs _ ys m _ us _ vs (((w.alloc (.cells #[.bool n,.slice a xs.length ca,.slice b ys.length cb] 24)).alloc (.cells #[.bool m,.slice c us.length cc,.slice d vs.length cd] 24)).alloc (.cells #[.bool false,.slice none 0 0,.slice none 0 0] 24)) HSL.out.1 HSL.out.2.1 HSL.out.2.2.1 HSL.out.2.2.2)
 rw [rboth_good hx hy] at HC
 have HA:=hid (fun ww (hb : Below (((w.alloc (.cells #[.bool n,.slice a xs.length ca,.slice b ys.length cb] 24)).alloc (.cells #[.bool m,.slice c us.length cc,.slice d vs.length cd] 24)).alloc (.cells #[.bool false,.slice none 0 0,.slice none 0 0] 24)).heap.size (((w.alloc (.cells #[.bool n,.slice a xs.length ca,.slice b ys.length cb] 24)).alloc (.cells #[.bool m,.slice c us.length cc,.slice d vs.length cd] 24)).alloc (.cells #[.bool false,.slice none 0 0,.slice none 0 0] 24)) ww) => rmultiply_cut n a ca xs b cb ys m c cc us d cd vs ww (HSL.out.1.later hb) (HSL.out.2.1.later hb) (HSL.out.2.2.1.later hb) (HSL.out.2.2.2.later hb) lx ly lu lv tx ty tu tv (by omega) (by omega) g1 g2)
 clear sx sy su sv hx hy tx ty tu tv g1 g2 py pv
 go_enter Tryz.func238,Tryz.ntmps238
 go_wp2_with fail
 refine Calls.mono HC.out ?_
 generalize (((w.alloc (.cells #[.bool n,.slice a xs.length ca,.slice b ys.length cb] 24)).alloc (.cells #[.bool m,.slice c us.length cc,.slice d vs.length cd] 24)).alloc (.cells #[.bool false,.slice none 0 0,.slice none 0 0] 24)) = X at *
 rintro e w1 ⟨rfl,hb1⟩
 have HCA:=hid (HA.out w1 hb1)
 obtain ⟨p0,p1,p2,_⟩:=res_box3 HN.out hb1
 obtain ⟨q0,q1,q2,_⟩:=res_box3 HM.out hb1
 have HB1:=hid hb1
 clear hb1 HC HA
 go_wp2_with fail
 refine Calls.mono HCA.out ?_
 rintro e w2 ⟨k2,v2,z2,u2,r2,code,rfl,o2,o3,t2,hb2,hc2⟩
 obtain ⟨a2,c2,hs2⟩:=own_slice' o2
 subst hs2
 obtain ⟨a3,c3,hs3⟩:=own_slice' o3
 subst hs3
 have HR:=hid (And.intro o2 (And.intro o3 (And.intro t2 hc2)))
 obtain ⟨y0,y1,y2,f0,f1,f2⟩:=res_box3 HZ.out (bt HB1.out hb2)
 have HBW:=hid (bt HB.out (bt HB1.out hb2))
 have HLT : Hid (w.heap.size + 1 + 1 < w1.heap.size):=Nat.lt_of_lt_of_le HXS.out HB1.out.size
 clear o2 o3 t2 hb2 hc2 HCA p0 p1 p2 q0 q1 q2
 go_wp2_with fail
 refine bodyPost_ret (v:=.tuple #[.agg #[.bool k2,.slice a2 z2.length c2,.slice a3 r2.length c3],.int .i64 code]) (by simp [results,Tryz.results238,go_sem,y0,y1,y2]) rfl ?_
 exact RToldA.put HR.out (w.heap.size + 1 + 1) HLT.out (by omega) HBW.out _ _ _
theorem rMul_full (n : Bool) (a : Option Addr) (ca : Nat) (xs : List Int) (b : Option Addr) (cb : Nat) (ys : List Int) (m : Bool) (c : Option Addr) (cc : Nat) (us : List Int) (d : Option Addr) (cd : Nat) (vs : List Int) (w : World) (sx : Sl w (.slice a xs.length ca) xs) (sy : Sl w (.slice b ys.length cb) ys) (su : Sl w (.slice c us.length cc) us) (sv : Sl w (.slice d vs.length cd) vs) :
 Calls Tryz.prog 238 #[.agg #[.bool n,.slice a xs.length ca,.slice b ys.length cb],.agg #[.bool m,.slice c us.length cc,.slice d vs.length cd]] w (RToldA w (rboth n xs ys m us vs) (rq n xs ys * rq m us vs)):=by
 by_cases he : rboth n xs ys m us vs = 0
 · rw [he]
   exact rMul_ok n a ca xs b cb ys m c cc us d cd vs w sx sy su sv (rboth_ok he).1 (rboth_ok he).2
 · exact rMul_err n a ca xs b cb ys m c cc us d cd vs w sx sy su sv he _
set_option maxRecDepth 100000 in
theorem rSub_err (n : Bool) (a : Option Addr) (ca : Nat) (xs : List Int) (b : Option Addr) (cb : Nat) (ys : List Int) (m : Bool) (c : Option Addr) (cc : Nat) (us : List Int) (d : Option Addr) (cd : Nat) (vs : List Int) (w : World) (sx : Sl w (.slice a xs.length ca) xs) (sy : Sl w (.slice b ys.length cb) ys) (su : Sl w (.slice c us.length cc) us) (sv : Sl w (.slice d vs.length cd) vs) (he : rboth n xs ys m us vs ≠ 0) (q : Rat) :
 Calls Tryz.prog 237 #[.agg #[.bool n,.slice a xs.length ca,.slice b ys.length cb],.agg #[.bool m,.slice c us.length cc,.slice d vs.length cd]] w (RToldA w (rboth n xs ys m us vs) q):=by
 have HB : Hid (Below w.heap.size w (((w.alloc (.cells #[.bool n,.slice a xs.length ca,.slice b ys.length cb] 24)).alloc (.cells #[.bool m,.slice c us.length cc,.slice d vs.length cd] 24)).alloc (.cells #[.bool false,.slice none 0 0,.slice none 0 0] 24))):=bt (bt (alloc_later _ _) (alloc_later _ _)) (alloc_later _ _)
 have HZ : Hid (Box (((w.alloc (.cells #[.bool n,.slice a xs.length ca,.slice b ys.length cb] 24)).alloc (.cells #[.bool m,.slice c us.length cc,.slice d vs.length cd] 24)).alloc (.cells #[.bool false,.slice none 0 0,.slice none 0 0] 24)) (w.heap.size + 1 + 1) 24 #[.bool false,.slice none 0 0,.slice none 0 0]):=by
  have e:=Box.made ((w.alloc (.cells #[.bool n,.slice a xs.length ca,.slice b ys.length cb] 24)).alloc (.cells #[.bool m,.slice c us.length cc,.slice d vs.length cd] 24)) 24 #[.bool false,.slice none 0 0,.slice none 0 0]
  simp at e
  exact e
 have HN : Hid (Box (((w.alloc (.cells #[.bool n,.slice a xs.length ca,.slice b ys.length cb] 24)).alloc (.cells #[.bool m,.slice c us.length cc,.slice d vs.length cd] 24)).alloc (.cells #[.bool false,.slice none 0 0,.slice none 0 0] 24)) w.heap.size 24 #[.bool n,.slice a xs.length ca,.slice b ys.length cb]):=Box.later (Box.made w _ _) (bt (alloc_later _ _) (alloc_later _ _)) (by simp)
 have HM : Hid (Box (((w.alloc (.cells #[.bool n,.slice a xs.length ca,.slice b ys.length cb] 24)).alloc (.cells #[.bool m,.slice c us.length cc,.slice d vs.length cd] 24)).alloc (.cells #[.bool false,.slice none 0 0,.slice none 0 0] 24)) (w.heap.size + 1) 24 #[.bool m,.slice c us.length cc,.slice d vs.length cd]):=by
  have e:=Box.later (Box.made (w.alloc (.cells #[.bool n,.slice a xs.length ca,.slice b ys.length cb] 24)) 24 #[.bool m,.slice c us.length cc,.slice d vs.length cd]) (alloc_later ((w.alloc (.cells #[.bool n,.slice a xs.length ca,.slice b ys.length cb] 24)).alloc (.cells #[.bool m,.slice c us.length cc,.slice d vs.length cd] 24)) (.cells #[.bool false,.slice none 0 0,.slice none 0 0] 24)) (by simp)
  simp at e
  exact e
 have HXS : Hid (w.heap.size + 1 + 1 < (((w.alloc (.cells #[.bool n,.slice a xs.length ca,.slice b ys.length cb] 24)).alloc (.cells #[.bool m,.slice c us.length cc,.slice d vs.length cd] 24)).alloc (.cells #[.bool false,.slice none 0 0,.slice none 0 0] 24)).heap.size):=HZ.out.lt
 have HSL:=hid (And.intro (sx.later HB.out) (And.intro (sy.later HB.out) (And.intro (su.later HB.out) (sv.later HB.out))))
 have HC:=hid (rcheckBoth_any n _ xs _ ys m _ us _ vs (((w.alloc (.cells #[.bool n,.slice a xs.length ca,.slice b ys.length cb] 24)).alloc (.cells #[.bool m,.slice c us.length cc,.slice d vs.length cd] 24)).alloc (.cells #[.bool false,.slice none 0 0,.slice none 0 0] 24)) HSL.out.1 HSL.out.2.1 HSL.out.2.2.1 HSL.out.2.2.2)
 obtain ⟨E,hE⟩ : ∃ E,rboth n xs ys m us vs = E:=⟨_,rfl⟩
 rw [hE] at HC he ⊢
 have he' : (E == 0) = false:=beq_eq_false_iff_ne.2 he
 have HE:=hid he
 clear he hE sx sy su sv
 go_enter Tryz.func237,Tryz.ntmps237
 go_wp2_with fail
 refine Calls.mono HC.out ?_
 generalize (((w.alloc (.cells #[.bool n,.slice a xs.length ca,.slice b ys.length cb] 24)).alloc (.cells #[.bool m,.slice c us.length cc,.slice d vs.length cd] 24)).alloc (.cells #[.bool false,.slice none 0 0,.slice none 0 0] 24)) = X at *
 rintro e w1 ⟨rfl,hb1⟩
 obtain ⟨y0,y1,y2,f0,f1,f2⟩:=res_box3 HZ.out hb1
 have HBN:=hid (below_put3 (bt HB.out hb1) (w.heap.size + 1 + 1) (by omega) (.bool false) (.slice none 0 0) (.slice none 0 0))
 clear hb1 HC HN HM HZ HSL
 go_wp2_with fail
 refine bodyPost_ret (v:=.tuple #[.agg #[.bool false,.slice none 0 0,.slice none 0 0],.int .i64 E]) (by simp [results,Tryz.results237,go_sem,y0,y1,y2]) rfl ?_
 exact ⟨false,_,[],_,[],_,rfl,World.ownsRow_nil _ _ _ _,World.ownsRow_nil _ _ _ _,RTells.err HE.out,HBN.out,⟨w.heap.size,Nat.le_refl _,HBN.out.size,fun g hg => by simp [Value.ownBlock] at hg,fun g hg => by simp [Value.ownBlock] at hg⟩⟩
set_option maxRecDepth 100000 in
theorem rSub_ok (n : Bool) (a : Option Addr) (ca : Nat) (xs : List Int) (b : Option Addr) (cb : Nat) (ys : List Int) (m : Bool) (c : Option Addr) (cc : Nat) (us : List Int) (d : Option Addr) (cd : Nat) (vs : List Int) (w : World) (sx : Sl w (.slice a xs.length ca) xs) (sy : Sl w (.slice b ys.length cb) ys) (su : Sl w (.slice c us.length cc) us) (sv : Sl w (.slice d vs.length cd) vs) (hx : rchk n xs ys = 0) (hy : rchk m us vs = 0) :
 Calls Tryz.prog 237 #[.agg #[.bool n,.slice a xs.length ca,.slice b ys.length cb],.agg #[.bool m,.slice c us.length cc,.slice d vs.length cd]] w (RToldA w 0 (rq n xs ys - rq m us vs)):=by
 obtain ⟨lx,ly,tx,ty,y0',_,g1⟩:=rchk_ok hx
 obtain ⟨lu,lv,tu,tv,v0',_,g2⟩:=rchk_ok hy
 have py:=val_pos' sy.wd ty y0'
 have pv:=val_pos' sv.wd tv v0'
 have HB : Hid (Below w.heap.size w (((w.alloc (.cells #[.bool n,.slice a xs.length ca,.slice b ys.length cb] 24)).alloc (.cells #[.bool m,.slice c us.length cc,.slice d vs.length cd] 24)).alloc (.cells #[.bool false,.slice none 0 0,.slice none 0 0] 24))):=bt (bt (alloc_later _ _) (alloc_later _ _)) (alloc_later _ _)
 have HZ : Hid (Box (((w.alloc (.cells #[.bool n,.slice a xs.length ca,.slice b ys.length cb] 24)).alloc (.cells #[.bool m,.slice c us.length cc,.slice d vs.length cd] 24)).alloc (.cells #[.bool false,.slice none 0 0,.slice none 0 0] 24)) (w.heap.size + 1 + 1) 24 #[.bool false,.slice none 0 0,.slice none 0 0]):=by
  have e:=Box.made ((w.alloc (.cells #[.bool n,.slice a xs.length ca,.slice b ys.length cb] 24)).alloc (.cells #[.bool m,.slice c us.length cc,.slice d vs.length cd] 24)) 24 #[.bool false,.slice none 0 0,.slice none 0 0]
  simp at e
  exact e
 have HN : Hid (Box (((w.alloc (.cells #[.bool n,.slice a xs.length ca,.slice b ys.length cb] 24)).alloc (.cells #[.bool m,.slice c us.length cc,.slice d vs.length cd] 24)).alloc (.cells #[.bool false,.slice none 0 0,.slice none 0 0] 24)) w.heap.size 24 #[.bool n,.slice a xs.length ca,.slice b ys.length cb]):=Box.later (Box.made w _ _) (bt (alloc_later _ _) (alloc_later _ _)) (by simp)
 have HM : Hid (Box (((w.alloc (.cells #[.bool n,.slice a xs.length ca,.slice b ys.length cb] 24)).alloc (.cells #[.bool m,.slice c us.length cc,.slice d vs.length cd] 24)).alloc (.cells #[.bool false,.slice none 0 0,.slice none 0 0] 24)) (w.heap.size + 1) 24 #[.bool m,.slice c us.length cc,.slice d vs.length cd]):=by
  have e:=Box.later (Box.made (w.alloc (.cells #[.bool n,.slice a xs.length ca,.slice b ys.length cb] 24)) 24 #[.bool m,.slice c us.length cc,.slice d vs.length cd]) (alloc_later ((w.alloc (.cells #[.bool n,.slice a xs.length ca,.slice b ys.length cb] 24)).alloc (.cells #[.bool m,.slice c us.length cc,.slice d vs.length cd] 24)) (.cells #[.bool false,.slice none 0 0,.slice none 0 0] 24)) (by simp)
  simp at e
  exact e
 have HXS : Hid (w.heap.size + 1 + 1 < (((w.alloc (.cells #[.bool n,.slice a xs.length ca,.slice b ys.length cb] 24)).alloc (.cells #[.bool m,.slice c us.length cc,.slice d vs.length cd] 24)).alloc (.cells #[.bool false,.slice none 0 0,.slice none 0 0] 24)).heap.size):=HZ.out.lt
 have HSL:=hid (And.intro (sx.later HB.out) (And.intro (sy.later HB.out) (And.intro (su.later HB.out) (sv.later HB.out))))
 have HC:=hid (rcheckBoth_any n _ xs _ ys m _ us _ vs (((w.alloc (.cells #[.bool n,.slice a xs.length ca,.slice b ys.length cb] 24)).alloc (.cells #[.bool m,.slice c us.length cc,.slice d vs.length cd] 24)).alloc (.cells #[.bool false,.slice none 0 0,.slice none 0 0] 24)) HSL.out.1 HSL.out.2.1 HSL.out.2.2.1 HSL.out.2.2.2)
 rw [rboth_good hx hy] at HC
 have HT:=hid (And.intro lx (And.intro ly (And.intro lu (And.intro lv (And.intro tx (And.intro ty (And.intro tu (And.intro tv (And.intro g1 g2)))))))))
 have HS0:=hid (And.intro sx (And.intro sy (And.intro su sv)))
 have HPY:=hid (And.intro py pv)
 clear sx sy su sv hx hy tx ty tu tv g1 g2 py pv lx ly lu lv
 go_enter Tryz.func237,Tryz.ntmps237
 go_wp2_with fail
 refine Calls.mono HC.out ?_
 generalize (((w.alloc (.cells #[.bool n,.slice a xs.length ca,.slice b ys.length cb] 24)).alloc (.cells #[.bool m,.slice c us.length cc,.slice d vs.length cd] 24)).alloc (.cells #[.bool false,.slice none 0 0,.slice none 0 0] 24)) = X at *
 rintro e w1 ⟨rfl,hb1⟩
 have HB1:=hid (bt HB.out hb1)
 have HN1:=hid (HN.out.later hb1 HN.out.lt)
 have HM1:=hid (HM.out.later hb1 HM.out.lt)
 have HZ1:=hid (HZ.out.later hb1 HZ.out.lt)
 have HL1 : Hid (w.heap.size + 1 + 1 < w1.heap.size):=Nat.lt_of_lt_of_le HXS.out hb1.size
 have HMp:=hid (HM1.out.set 0 (.bool (!m)))
 have HNp:=hid (HN1.out.other ⟨w.heap.size + 1,0,none⟩ (.bool (!m)) (by simp))
 have HZp:=hid (HZ1.out.other ⟨w.heap.size + 1,0,none⟩ (.bool (!m)) (by simp))
 have HBs : Hid (Below w.heap.size w (w1.setCell ⟨w.heap.size + 1,0,none⟩ (.bool (!m)))):=HB1.out.setCell (p:=⟨w.heap.size + 1,0,none⟩) (by simp) _
 have HLs : Hid (w.heap.size + 1 + 1 < (w1.setCell ⟨w.heap.size + 1,0,none⟩ (.bool (!m))).heap.size):=HZp.out.lt
 have HCA:=hid (radd_any n a ca xs b cb ys (!m) c cc us d cd vs (w1.setCell ⟨w.heap.size + 1,0,none⟩ (.bool (!m))) (HS0.out.1.later HBs.out) (HS0.out.2.1.later HBs.out) (HS0.out.2.2.1.later HBs.out) (HS0.out.2.2.2.later HBs.out) HT.out.1 HT.out.2.1 HT.out.2.2.1 HT.out.2.2.2.1 HT.out.2.2.2.2.1 HT.out.2.2.2.2.2.1 HT.out.2.2.2.2.2.2.1 HT.out.2.2.2.2.2.2.2.1 (by have:=HPY.out; omega) (by have:=HPY.out; omega) HT.out.2.2.2.2.2.2.2.2.1 HT.out.2.2.2.2.2.2.2.2.2)
 rw [rq_less] at HCA
 obtain ⟨p0,p1,p2,_⟩:=res_box3 HN1.out (Below.refl _ w1)
 obtain ⟨q0,q1,q2,g0,g1,g2⟩:=res_box3 HM1.out (Below.refl _ w1)
 have r0 : (w1.setCell ⟨w.heap.size + 1,0,none⟩ (.bool (!m))).cell? ⟨w.heap.size,0,none⟩ = some (.bool n):=HNp.out.cell 0
 have r1 : (w1.setCell ⟨w.heap.size + 1,0,none⟩ (.bool (!m))).cell? ⟨w.heap.size,1,none⟩ = some (.slice a xs.length ca):=HNp.out.cell 1
 have r2 : (w1.setCell ⟨w.heap.size + 1,0,none⟩ (.bool (!m))).cell? ⟨w.heap.size,2,none⟩ = some (.slice b ys.length cb):=HNp.out.cell 2
 have t0 : (w1.setCell ⟨w.heap.size + 1,0,none⟩ (.bool (!m))).cell? ⟨w.heap.size + 1,0,none⟩ = some (.bool (!m)):=HMp.out.cell 0
 have t1 : (w1.setCell ⟨w.heap.size + 1,0,none⟩ (.bool (!m))).cell? ⟨w.heap.size + 1,1,none⟩ = some (.slice c us.length cc):=HMp.out.cell 1
 have t2 : (w1.setCell ⟨w.heap.size + 1,0,none⟩ (.bool (!m))).cell? ⟨w.heap.size + 1,2,none⟩ = some (.slice d vs.length cd):=HMp.out.cell 2
 clear hb1 HC
 go_wp2_with fail
 refine Calls.mono HCA.out ?_
 generalize w1.setCell ⟨w.heap.size + 1,0,none⟩ (.bool (!m)) = V at *
 rintro e w2 ⟨k2,v2,z2,u2,r2',code,rfl,o2,o3,tt2,hb2,hc2⟩
 obtain ⟨a2,c2,hs2⟩:=own_slice' o2
 subst hs2
 obtain ⟨a3,c3,hs3⟩:=own_slice' o3
 subst hs3
 have HR:=hid (And.intro o2 (And.intro o3 (And.intro tt2 hc2)))
 obtain ⟨y0,y1,y2,f0,f1,f2⟩:=res_box3 HZp.out hb2
 have HBW:=hid (bt HBs.out hb2)
 clear o2 o3 tt2 hb2 hc2 HCA p0 p1 p2 q0 q1 q2 g0 g1 g2 r0 r1 r2 t0 t1 t2
 go_wp2_with fail
 refine bodyPost_ret (v:=.tuple #[.agg #[.bool k2,.slice a2 z2.length c2,.slice a3 r2'.length c3],.int .i64 code]) (by simp [results,Tryz.results237,go_sem,y0,y1,y2]) rfl ?_
 exact RToldA.put HR.out (w.heap.size + 1 + 1) HLs.out (by omega) HBW.out _ _ _
theorem rSub_full (n : Bool) (a : Option Addr) (ca : Nat) (xs : List Int) (b : Option Addr) (cb : Nat) (ys : List Int) (m : Bool) (c : Option Addr) (cc : Nat) (us : List Int) (d : Option Addr) (cd : Nat) (vs : List Int) (w : World) (sx : Sl w (.slice a xs.length ca) xs) (sy : Sl w (.slice b ys.length cb) ys) (su : Sl w (.slice c us.length cc) us) (sv : Sl w (.slice d vs.length cd) vs) :
 Calls Tryz.prog 237 #[.agg #[.bool n,.slice a xs.length ca,.slice b ys.length cb],.agg #[.bool m,.slice c us.length cc,.slice d vs.length cd]] w (RToldA w (rboth n xs ys m us vs) (rq n xs ys - rq m us vs)):=by
 by_cases he : rboth n xs ys m us vs = 0
 · rw [he]
   exact rSub_ok n a ca xs b cb ys m c cc us d cd vs w sx sy su sv (rboth_ok he).1 (rboth_ok he).2
 · exact rSub_err n a ca xs b cb ys m c cc us d cd vs w sx sy su sv he _
theorem trim1_any (v : Value) (xs : List Int) (w : World) (h : Sl w v xs) (hn : xs.length <= 1099511627776) : Calls Tryz.prog 201 #[v] w (Told1 w (val xs)):=by
 have wx:=h.wd
 refine Calls.mono (trim_sl v xs w h hn) ?_
 rintro e w' ⟨v',rfl,o,hb⟩
 exact ⟨v',trimmed xs,rfl,owns_len o,wx.trimmed,Trimmed.trimmed _,val_trimmed xs,hb⟩
theorem rq_neg {n : Bool} {xs ys : List Int} : Rat.divInt (sg (!n) (val xs)) (val ys) = -(rq n xs ys):=by
 unfold rq
 rw [Rat.neg_divInt]
 congr 1
 cases n <;> simp [sg,wval]
set_option maxRecDepth 100000 in
theorem rNeg_err (n : Bool) (a : Option Addr) (ca : Nat) (xs : List Int) (b : Option Addr) (cb : Nat) (ys : List Int) (w : World) (sx : Sl w (.slice a xs.length ca) xs) (sy : Sl w (.slice b ys.length cb) ys) (he : rchk n xs ys ≠ 0) (q : Rat) :
 Calls Tryz.prog 160 #[.agg #[.bool n,.slice a xs.length ca,.slice b ys.length cb]] w (RToldA w (rchk n xs ys) q):=by
 have HB : Hid (Below w.heap.size w ((w.alloc (.cells #[.bool n,.slice a xs.length ca,.slice b ys.length cb] 24)).alloc (.cells #[.bool false,.slice none 0 0,.slice none 0 0] 24))):=bt (alloc_later _ _) (alloc_later _ _)
 have HZ : Hid (Box ((w.alloc (.cells #[.bool n,.slice a xs.length ca,.slice b ys.length cb] 24)).alloc (.cells #[.bool false,.slice none 0 0,.slice none 0 0] 24)) (w.heap.size + 1) 24 #[.bool false,.slice none 0 0,.slice none 0 0]):=by
  have e:=Box.made (w.alloc (.cells #[.bool n,.slice a xs.length ca,.slice b ys.length cb] 24)) 24 #[.bool false,.slice none 0 0,.slice none 0 0]
  simp at e
  exact e
 have HC:=hid (rcheck_any n _ xs _ ys ((w.alloc (.cells #[.bool n,.slice a xs.length ca,.slice b ys.length cb] 24)).alloc (.cells #[.bool false,.slice none 0 0,.slice none 0 0] 24)) (sx.later HB.out) (sy.later HB.out))
 obtain ⟨E,hE⟩ : ∃ E,rchk n xs ys = E:=⟨_,rfl⟩
 rw [hE] at HC he ⊢
 have he' : (E == 0) = false:=beq_eq_false_iff_ne.2 he
 have HE:=hid he
 clear he hE sx sy
 go_enter Tryz.func160,Tryz.ntmps160
 go_wp2_with fail
 refine Calls.mono HC.out ?_
 generalize ((w.alloc (.cells #[.bool n,.slice a xs.length ca,.slice b ys.length cb] 24)).alloc (.cells #[.bool false,.slice none 0 0,.slice none 0 0] 24)) = X at *
 rintro e w1 ⟨rfl,hb1⟩
 obtain ⟨y0,y1,y2,f0,f1,f2⟩:=res_box3 HZ.out hb1
 have HBN:=hid (below_put3 (bt HB.out hb1) (w.heap.size + 1) (by omega) (.bool false) (.slice none 0 0) (.slice none 0 0))
 clear hb1 HC HZ
 go_wp2_with fail
 refine bodyPost_ret (v:=.tuple #[.agg #[.bool false,.slice none 0 0,.slice none 0 0],.int .i64 E]) (by simp [results,Tryz.results160,go_sem,y0,y1,y2]) rfl ?_
 exact ⟨false,_,[],_,[],_,rfl,World.ownsRow_nil _ _ _ _,World.ownsRow_nil _ _ _ _,RTells.err HE.out,HBN.out,⟨w.heap.size,Nat.le_refl _,HBN.out.size,fun g hg => by simp [Value.ownBlock] at hg,fun g hg => by simp [Value.ownBlock] at hg⟩⟩
set_option maxRecDepth 100000 in
theorem rNeg_ok (n : Bool) (a : Option Addr) (ca : Nat) (xs : List Int) (b : Option Addr) (cb : Nat) (ys : List Int) (w : World) (sx : Sl w (.slice a xs.length ca) xs) (sy : Sl w (.slice b ys.length cb) ys) (hx : rchk n xs ys = 0) :
 Calls Tryz.prog 160 #[.agg #[.bool n,.slice a xs.length ca,.slice b ys.length cb]] w (RToldA w 0 (-(rq n xs ys))):=by
 obtain ⟨lx,ly,tx,ty,y0',_,g1⟩:=rchk_ok hx
 have py:=val_pos' sy.wd ty y0'
 have HB : Hid (Below w.heap.size w ((w.alloc (.cells #[.bool n,.slice a xs.length ca,.slice b ys.length cb] 24)).alloc (.cells #[.bool false,.slice none 0 0,.slice none 0 0] 24))):=bt (alloc_later _ _) (alloc_later _ _)
 have HZ : Hid (Box ((w.alloc (.cells #[.bool n,.slice a xs.length ca,.slice b ys.length cb] 24)).alloc (.cells #[.bool false,.slice none 0 0,.slice none 0 0] 24)) (w.heap.size + 1) 24 #[.bool false,.slice none 0 0,.slice none 0 0]):=by
  have e:=Box.made (w.alloc (.cells #[.bool n,.slice a xs.length ca,.slice b ys.length cb] 24)) 24 #[.bool false,.slice none 0 0,.slice none 0 0]
  simp at e
  exact e
 have HN : Hid (Box ((w.alloc (.cells #[.bool n,.slice a xs.length ca,.slice b ys.length cb] 24)).alloc (.cells #[.bool false,.slice none 0 0,.slice none 0 0] 24)) w.heap.size 24 #[.bool n,.slice a xs.length ca,.slice b ys.length cb]):=Box.later (Box.made w _ _) (alloc_later _ _) (by simp)
 have HXS : Hid (w.heap.size + 1 < ((w.alloc (.cells #[.bool n,.slice a xs.length ca,.slice b ys.length cb] 24)).alloc (.cells #[.bool false,.slice none 0 0,.slice none 0 0] 24)).heap.size):=HZ.out.lt
 have HSL:=hid (And.intro (sx.later HB.out) (sy.later HB.out))
 have HC:=hid (rcheck_any n _ xs _ ys ((w.alloc (.cells #[.bool n,.slice a xs.length ca,.slice b ys.length cb] 24)).alloc (.cells #[.bool false,.slice none 0 0,.slice none 0 0] 24)) HSL.out.1 HSL.out.2)
 rw [hx] at HC
 have HP : Hid (0 < val ys /\ gcdI (val xs) (val ys) = 1):=⟨by omega,g1⟩
 clear sx sy hx tx ty g1 py
 go_enter Tryz.func160,Tryz.ntmps160
 go_wp2_with fail
 refine Calls.mono HC.out ?_
 generalize ((w.alloc (.cells #[.bool n,.slice a xs.length ca,.slice b ys.length cb] 24)).alloc (.cells #[.bool false,.slice none 0 0,.slice none 0 0] 24)) = X at *
 rintro e w1 ⟨rfl,hb1⟩
 have HB1:=hid hb1
 have hb1d : Below X.heap.size X w1.drew:=hb1.drew
 have HK : Hid (∀ V,Below X.heap.size X V -> V.cell? ⟨w.heap.size,0,none⟩ = some (.bool n) /\ V.cell? ⟨w.heap.size,1,none⟩ = some (.slice a xs.length ca) /\ V.cell? ⟨w.heap.size,2,none⟩ = some (.slice b ys.length cb)):=fun V hb => by
  obtain ⟨p0,p1,p2,_⟩:=res_box3 HN.out hb
  exact ⟨p0,p1,p2⟩
 have hs0:=HK.out _ hb1d
 have H1:=hid (fun ww (hv : Below X.heap.size X ww) => told1_in _ HK.out ww hv (trim1_any _ xs ww (HSL.out.1.later hv) (by omega)))
 have H2:=hid (fun ww (hv : Below X.heap.size X ww) => told1_in _ HK.out ww hv (trim1_any _ ys ww (HSL.out.2.later hv) (by omega)))
 have HTL:=hid (fun (ww : World) (hb : Below X.heap.size X ww) (a4 : Option Addr) (z4 : List Int) (c4 : Nat) (a5 : Option Addr) (z5 : List Int) (c5 : Nat) (g1 : One X ww (.slice a4 z4.length c4) z4 (val xs)) (g2 : One X ww (.slice a5 z5.length c5) z5 (val ys)) (hc : Cut X (.slice a4 z4.length c4) (.slice a5 z5.length c5) ww) => rtold_cut (n:=!n) (q:=-(rq n xs ys)) _ HK.out hb g1 g2 hc HP.out.1 HP.out.2 rq_neg)
 have hq0 : w.heap.size + 1 ≠ w.heap.size:=by omega
 clear hb1 HC
 go_wp2_with fail
 go_region_held3 (fun V : World => V.cell? ⟨w.heap.size,0,none⟩ = some (.bool n) /\ V.cell? ⟨w.heap.size,1,none⟩ = some (.slice a xs.length ca) /\ V.cell? ⟨w.heap.size,2,none⟩ = some (.slice b ys.length cb)) (first | exact hs9 | exact hs5 | exact hs4 | exact hs0 | (simp [hs9,World.cell?_setCell_far]))
  (first
   | (go_at_call 200; with_reducible refine Calls.mono (HTL.out _ hb5 _ _ _ _ _ _ (HE4.out.1.later HS5.out) HE5.out.1 (cut_two hb1d.size HS4.out.size HS5.out.size HE4.out.2 HE5.out.2)) ?_; rintro e w9 ⟨k9,a8,z8,c8,a9,z9,c9,code,rfl,HE9,hs9,hb9⟩; obtain ⟨y0,y1,y2,f0,f1,f2⟩:=res_box3 HZ.out hb9)
   | (go_at_call 201; with_reducible refine Calls.mono (H2.out _ hb4) ?_; rintro e w5 ⟨a5,z5,c5,rfl,HE5,hs5,hb5,HS5⟩)
   | (go_at_call 201; with_reducible refine Calls.mono (H1.out _ hb1d) ?_; rintro e w4 ⟨a4,z4,c4,rfl,HE4,hs4,hb4,HS4⟩))
 all_goals
  have HBW:=hid (bt HB.out hb9)
  have HR:=hid HE9.out
  clear HK H1 H2 HTL HE4 HE5 HE9 HS4 HS5 hs0 hs4 hs5 hs9 hb1d hb4 hb5 hb9 HP
  go_wp2_with fail
  refine bodyPost_ret (v:=.tuple #[.agg #[.bool k9,.slice a8 z8.length c8,.slice a9 z9.length c9],.int .i64 code]) (by simp [results,Tryz.results160,go_sem,y0,y1,y2]) rfl ?_
  exact RToldA.put HR.out (w.heap.size + 1) HXS.out (by omega) HBW.out _ _ _
theorem rNeg_full (n : Bool) (a : Option Addr) (ca : Nat) (xs : List Int) (b : Option Addr) (cb : Nat) (ys : List Int) (w : World) (sx : Sl w (.slice a xs.length ca) xs) (sy : Sl w (.slice b ys.length cb) ys) :
 Calls Tryz.prog 160 #[.agg #[.bool n,.slice a xs.length ca,.slice b ys.length cb]] w (RToldA w (rchk n xs ys) (-(rq n xs ys))):=by
 by_cases he : rchk n xs ys = 0
 · rw [he]; exact rNeg_ok n a ca xs b cb ys w sx sy he
 · exact rNeg_err n a ca xs b cb ys w sx sy he _
set_option maxRecDepth 100000 in
theorem slEqual_any (a : Option Addr) (n cap : Nat) (xs : List Int) (b : Option Addr) (m cap' : Nat) (ys : List Int) (w : World) (h : Reads w w.heap.size a n cap xs) (g : Reads w w.heap.size b m cap' ys) (hn : n <= 281474976710656) (hm : m <= 281474976710656) :
 Calls Tryz.prog 129 #[.slice a n cap,.slice b m cap'] w fun e w' => e = .returned (.bool (decide (xs = ys))) /\ Below w.heap.size w w':=by
 obtain ⟨hl,hw,hc,hcap⟩:=h
 obtain ⟨gl,gw,gc,gcap⟩:=g
 by_cases hnm : n = m
 · subst hnm
   have htt : ((n : Int) != (n : Int)) = false:=by simp
   rcases hc with h0 | ⟨b1,o1,rfl,hb1,hc⟩
   · subst h0
     have hx : xs = []:=List.eq_nil_of_length_eq_zero hl
     have hy : ys = []:=List.eq_nil_of_length_eq_zero gl
     subst hx; subst hy
     go_enter Tryz.func129,Tryz.ntmps129
     go_wp2
     refine wp_loop_rounds 1 ?_
     rw [rounds_succ]
     go_wp2
     go_ret
     exact ⟨rfl,Below.refl _ _⟩
   · rcases gc with g0 | ⟨b2,o2,rfl,hb2,gc⟩
     · subst g0
       have hx : xs = []:=List.eq_nil_of_length_eq_zero hl
       have hy : ys = []:=List.eq_nil_of_length_eq_zero gl
       subst hx; subst hy
       go_enter Tryz.func129,Tryz.ntmps129
       go_wp2
       refine wp_loop_rounds 1 ?_
       rw [rounds_succ]
       go_wp2
       go_ret
       exact ⟨rfl,Below.refl _ _⟩
     · have HL : Hid (xs.length = n /\ ys.length = n):=⟨hl,gl⟩
       clear hl gl
       go_enter Tryz.func129,Tryz.ntmps129
       go_wp2
       go_loopw [13] (fun t wr => ∃ k : Nat,k <= n /\ t = .int .i64 k /\ xs.take k = ys.take k /\ Below w.heap.size w wr) (fun t _ => n - (intOf t).toNat)
       case atStart => exact ⟨0,Nat.zero_le _,rfl,rfl,Below.refl _ _⟩
       case round =>
        obtain ⟨k,hk,rfl,hs,hbel⟩:=hrel
        have HS : Hid (xs.take k = ys.take k):=hs
        clear hs
        by_cases hlt : k < n
        · have hcx : wr.cell? ⟨b1,o1 + k,none⟩ = some (.int .u32 (xs[k]?.getD 0)):=(hbel.cell (p:=⟨b1,o1 + k,none⟩) hb1).trans (hc k hlt)
          have hcy : wr.cell? ⟨b2,o2 + k,none⟩ = some (.int .u32 (ys[k]?.getD 0)):=(hbel.cell (p:=⟨b2,o2 + k,none⟩) hb2).trans (gc k hlt)
          by_cases he : xs[k]?.getD 0 = ys[k]?.getD 0
          · have hne : (xs[k]?.getD 0 != ys[k]?.getD 0) = false:=by simp [he]
            have HE : Hid (xs[k]?.getD 0 = ys[k]?.getD 0):=he
            clear he
            go_wp2
            go_region
            all_goals go_wp2
            all_goals
             go_roundw
             case rel => exact ⟨k + 1,by omega,by go_num,take_same HS.out (by have:=HL.out; omega) (by have:=HL.out; omega) HE.out,hbel.drew⟩
             case measure => simp [intOf]; omega
          · have hne : (xs[k]?.getD 0 != ys[k]?.getD 0) = true:=by simp [he]
            have HE : Hid (¬ xs[k]?.getD 0 = ys[k]?.getD 0):=he
            clear he
            go_wp2
            go_region
            all_goals go_wp2
            all_goals
             go_ret
             exact ⟨ret_bool (decide_eq_false fun e => HE.out (by rw [e])).symm,hbel.drew⟩
        · have hkn : k = n:=by omega
          subst hkn
          go_wp2
          go_ret
          exact ⟨ret_bool (decide_eq_true (by have:=HS.out; have hl:=HL.out; rwa [List.take_of_length_le (by omega),List.take_of_length_le (by omega)] at this)).symm,hbel⟩
 · have hne : ((n : Int) != (m : Int)) = true:=by simp; omega
   have hd : decide (xs = ys) = false:=decide_eq_false fun e => hnm (by rw [<- hl,<- gl,e])
   have HD : Hid (decide (xs = ys) = false):=hd
   clear hd hc gc
   go_enter Tryz.func129,Tryz.ntmps129
   go_wp2
   go_ret
   exact ⟨ret_bool HD.out.symm,Below.refl _ _⟩
theorem slEqual_sl (v u : Value) (xs ys : List Int) (w : World) (h : Sl w v xs) (g : Sl w u ys) (hn : xs.length <= 281474976710656) (hm : ys.length <= 281474976710656) :
 Calls Tryz.prog 129 #[v,u] w fun e w' => e = .returned (.bool (decide (xs = ys))) /\ Below w.heap.size w w':=by
 obtain ⟨a,ca,rfl,hr⟩:=h
 obtain ⟨b,cb,rfl,gr⟩:=g
 exact slEqual_any a _ ca xs b _ cb ys w hr gr hn hm
set_option maxRecDepth 100000 in
theorem rSame_any (n : Bool) (a : Option Addr) (ca : Nat) (xs : List Int) (b : Option Addr) (cb : Nat) (ys : List Int) (m : Bool) (c : Option Addr) (cc : Nat) (us : List Int) (d : Option Addr) (cd : Nat) (vs : List Int) (w : World) (sx : Sl w (.slice a xs.length ca) xs) (sy : Sl w (.slice b ys.length cb) ys) (su : Sl w (.slice c us.length cc) us) (sv : Sl w (.slice d vs.length cd) vs) (lx : xs.length <= 281474976710656) (ly : ys.length <= 281474976710656) (lu : us.length <= 281474976710656) (lv : vs.length <= 281474976710656) :
 Calls Tryz.prog 75 #[.agg #[.bool n,.slice a xs.length ca,.slice b ys.length cb],.agg #[.bool m,.slice c us.length cc,.slice d vs.length cd]] w fun e w' => e = .returned (.bool (decide (n = m /\ xs = us /\ ys = vs))) /\ Below w.heap.size w w':=by
 have HB : Hid (Below w.heap.size w ((w.alloc (.cells #[.bool n,.slice a xs.length ca,.slice b ys.length cb] 24)).alloc (.cells #[.bool m,.slice c us.length cc,.slice d vs.length cd] 24))):=bt (alloc_later _ _) (alloc_later _ _)
 have HN : Hid (Box ((w.alloc (.cells #[.bool n,.slice a xs.length ca,.slice b ys.length cb] 24)).alloc (.cells #[.bool m,.slice c us.length cc,.slice d vs.length cd] 24)) w.heap.size 24 #[.bool n,.slice a xs.length ca,.slice b ys.length cb]):=Box.later (Box.made w _ _) (alloc_later _ _) (by simp)
 have HM : Hid (Box ((w.alloc (.cells #[.bool n,.slice a xs.length ca,.slice b ys.length cb] 24)).alloc (.cells #[.bool m,.slice c us.length cc,.slice d vs.length cd] 24)) (w.heap.size + 1) 24 #[.bool m,.slice c us.length cc,.slice d vs.length cd]):=by
  have e:=Box.made (w.alloc (.cells #[.bool n,.slice a xs.length ca,.slice b ys.length cb] 24)) 24 #[.bool m,.slice c us.length cc,.slice d vs.length cd]
  simp at e
  exact e
 have H1:=hid (slEqual_sl _ _ xs us ((w.alloc (.cells #[.bool n,.slice a xs.length ca,.slice b ys.length cb] 24)).alloc (.cells #[.bool m,.slice c us.length cc,.slice d vs.length cd] 24)) (sx.later HB.out) (su.later HB.out) lx lu)
 have H2:=hid (fun ww (hb : Below ((w.alloc (.cells #[.bool n,.slice a xs.length ca,.slice b ys.length cb] 24)).alloc (.cells #[.bool m,.slice c us.length cc,.slice d vs.length cd] 24)).heap.size ((w.alloc (.cells #[.bool n,.slice a xs.length ca,.slice b ys.length cb] 24)).alloc (.cells #[.bool m,.slice c us.length cc,.slice d vs.length cd] 24)) ww) => slEqual_sl _ _ ys vs ww ((sy.later HB.out).later hb) ((sv.later HB.out).later hb) ly lv)
 clear sx sy su sv
 by_cases h0 : n = m
 · subst h0
   have hbb : (n == n) = true:=by simp
   by_cases h1 : xs = us
   · have HR : Hid (decide (n = n /\ xs = us /\ ys = vs) = decide (ys = vs)):=by show _ = _; simp [h1]
     rw [decide_eq_true h1] at H1
     rw [HR.out]
     clear h1
     go_enter Tryz.func75,Tryz.ntmps75
     go_wp2_with fail
     refine Calls.mono H1.out ?_
     generalize ((w.alloc (.cells #[.bool n,.slice a xs.length ca,.slice b ys.length cb] 24)).alloc (.cells #[.bool n,.slice c us.length cc,.slice d vs.length cd] 24)) = X at *
     rintro e w1 ⟨rfl,hb1⟩
     obtain ⟨p0,p1,p2,_⟩:=res_box3 HN.out hb1
     obtain ⟨q0,q1,q2,_⟩:=res_box3 HM.out hb1
     have HC:=hid (H2.out w1 hb1)
     have HB1:=hid (bt HB.out hb1)
     clear hb1 H1 H2
     go_wp2_with fail
     refine Calls.mono HC.out ?_
     rintro e w2 ⟨rfl,hb2⟩
     have HBN:=hid (bt HB1.out hb2)
     clear hb2 HC
     go_wp2_with fail
     go_ret
     exact ⟨rfl,HBN.out⟩
   · have HR : Hid (decide (n = n /\ xs = us /\ ys = vs) = false):=decide_eq_false (fun h => h1 h.2.1)
     rw [decide_eq_false h1] at H1
     rw [HR.out]
     clear h1
     go_enter Tryz.func75,Tryz.ntmps75
     go_wp2_with fail
     refine Calls.mono H1.out ?_
     rintro e w1 ⟨rfl,hb1⟩
     have HBN:=hid (bt HB.out hb1)
     clear hb1 H1 H2
     go_wp2_with fail
     go_ret
     exact ⟨rfl,HBN.out⟩
 · have HR : Hid (decide (n = m /\ xs = us /\ ys = vs) = false):=decide_eq_false (fun h => h0 h.1)
   have hbb : (n == m) = false:=by simp [h0]
   rw [HR.out]
   clear h0
   go_enter Tryz.func75,Tryz.ntmps75
   go_wp2_with fail
   go_ret
   exact ⟨rfl,HB.out⟩
end Go.Proofs.YtnhmaijmmkplkaaGreatDoor
