/- My texts on the way to PortNames, one behind the other: contracts of the program and of the document's answers. -/
import Derived.Test.YtnhmaijmmkplkaaGreatDoorK1
import Derived.Test.YtnhmaijmmkplkaaGreatDoorK2
import Derived.Deep.LoopGhost
import Derived.Shelf.Abstract
import Derived.Deep.RegionHeld3
import Derived.Laws.ResultCell
import Derived.Test.YtnhmaijmmkplkaaGreatDoorChecked
import Derived.Test.YtnhmaijmmkplkaaGreatDoorRows
import Derived.WalkKit
import Derived.ProofKit
import Derived.OpenShut
import Derived.ShutString
import Derived.Below
import Derived.Lib.SmallJoins
import Derived.Deep.Strs
import Derived.Deep.RegionLaw
import Derived.LoopN
import Derived.Deep.QuietTactic
import Derived.BigQuiet
import Derived.Maps.AppendAt
import Derived.Laws.AppendOwnNone
import Derived.Laws.CopyOwn
import Derived.Deep.CutRange
namespace Go.Proofs.YtnhmaijmmkplkaaGreatDoor
set_option maxHeartbeats 6400000
open Go.RowKit
set_option linter.unusedVariables false
def pval : List Int -> Int
 | [] => 0
 | p :: ps => p + pval ps * 1000000000
theorem pval_snoc : ∀ (ps : List Int) (p : Int),pval (ps ++ [p]) = pval ps + p * 1000000000 ^ ps.length
 | [],p => by simp [pval]
 | q :: ps,p => by
  show q + pval (ps ++ [p]) * 1000000000 = q + pval ps * 1000000000 + p * 1000000000 ^ (ps.length + 1)
  rw [pval_snoc ps p,Int.add_mul,Int.pow_succ,<- Int.mul_assoc,Int.add_assoc]
def Pc (ps : List Int) : Prop:=∀ p ∈ ps,0 <= p /\ p < 1000000000
theorem Pc.snoc {ps : List Int} (h : Pc ps) {p : Int} (h0 : 0 <= p /\ p < 1000000000) : Pc (ps ++ [p]):=fun q hq => by
 rcases List.mem_append.1 hq with hq | hq
 · exact h q hq
 · simp at hq; rw [hq]; exact h0
theorem Pc.at {ps : List Int} (h : Pc ps) (j : Nat) : 0 <= ps[j]?.getD 0 /\ ps[j]?.getD 0 < 1000000000:=by
 by_cases hj : j < ps.length
 · rw [List.getElem?_eq_getElem hj]; exact h _ (List.getElem_mem hj)
 · rw [List.getElem?_eq_none (by omega)]; exact ⟨by decide,by decide⟩
theorem pval_nonneg {ps : List Int} (h : Pc ps) : 0 <= pval ps:=by
 induction ps with
 | nil => exact Int.le_refl _
 | cons p ps ih =>
  have h1:=h p List.mem_cons_self
  have h2:=ih (fun q hq => h q (List.mem_cons_of_mem _ hq))
  show 0 <= p + pval ps * 1000000000
  omega
theorem pieces_few (xs ps : List Int) (v : Int) (K : Nat) (hx : Wd xs) (hl : xs.length <= K) (hp : Pc ps) (hv : 1 <= v) (h : val xs = pval ps + v * 1000000000 ^ ps.length) : 29 * ps.length < 32 * K:=by
 have h1:=val_lt hx
 have h2 : (4294967296 : Int) ^ xs.length <= 4294967296 ^ K:=pw_le hl
 have h3:=pval_nonneg hp
 have h4 : (0 : Int) < 1000000000 ^ ps.length:=Int.pow_pos (by decide)
 have h5 : 1 * (1000000000 : Int) ^ ps.length <= v * 1000000000 ^ ps.length:=Int.mul_le_mul_of_nonneg_right hv (Int.le_of_lt h4)
 have h6 : (1000000000 : Int) ^ ps.length < 4294967296 ^ K:=by omega
 have h7 : (1000000000 : Nat) ^ ps.length < 4294967296 ^ K:=by
  refine Int.ofNat_lt.1 ?_
  rw [Int.natCast_pow,Int.natCast_pow]
  exact h6
 have h8 : (2 ^ 29 : Nat) ^ ps.length <= 1000000000 ^ ps.length:=Nat.pow_le_pow_left (by decide) _
 have h9 : (4294967296 : Nat) ^ K = 2 ^ (32 * K):=by rw [show (4294967296 : Nat) = 2 ^ 32 by decide,<- Nat.pow_mul]
 rw [h9] at h7
 rw [<- Nat.pow_mul] at h8
 have h10 : 2 ^ (29 * ps.length) < 2 ^ (32 * K):=Nat.lt_of_le_of_lt h8 h7
 exact (Nat.pow_lt_pow_iff_right (a:=2) (by decide)).1 h10
theorem trimmed_zero {us : List Int} (hw : Wd us) (ht : Trimmed us) : us.length = 0 ↔ val us = 0:=by
 constructor
 · intro h
   rw [List.eq_nil_of_length_eq_zero h]; rfl
 · intro h
   have:=trimmed_eq hw Wd.nil ht Trimmed.nil (by rw [h,val_nil])
   rw [this]; rfl
set_option maxRecDepth 100000 in
theorem split_any (v : Value) (xs : List Int) (w : World) (h : Sl w v xs) (hn : xs.length <= 8192) (hx : Trimmed xs) (hpos : 0 < xs.length) :
 Calls Tryz.prog 190 #[v] w fun e w' => ∃ (vp : Value) (ps : List Int),e = .returned vp /\ w'.ownsRow w.heap.size 69 1 vp ps.length (ps.map (Value.int .u32)) /\ Pc ps /\ pval ps = val xs /\ 0 < ps.length /\ ps.length <= 9040 /\ 0 < ps[ps.length - 1]?.getD 0 /\ Below w.heap.size w w':=by
 obtain ⟨i0,hi,hz0,hz1,hz2⟩:=info_parts Tryz.infoW
 have wx:=h.wd
 have HX:=hid hx
 clear hx
 go_enter Tryz.func190,Tryz.ntmps190
 go_wp2_with fail
 refine (trim_sl v xs w h (by omega)).mono ?_
 rintro e w1 ⟨vt,rfl,ot,hb1⟩
 rw [show sz xs = xs.length from HX.out,trimmed_of HX.out] at ot
 obtain ⟨gl,cl,hvl,hcl1,hcl2⟩:=own_shape' ot hpos
 rw [hvl] at ot ⊢
 have hgl:=ot.lt gl rfl
 have hcl3 : cl <= 9223372036854775807:=by unfold maxLen at hcl2; omega
 clear hcl2 hvl h
 go_wp2_with fail
 go_loopg [3,4] (val xs).toNat (fun k l p wr => ∃ (n : Nat) (us ps : List Int),l = .slice (some ⟨gl,0,none⟩) n cl /\ n <= xs.length /\ OwnC wr w.heap.size gl n cl us /\ Wd us /\ Trimmed us /\ Hid ((k : Int) = val us) /\
  wr.ownsRow (gl + 1) 69 1 p ps.length (ps.map (Value.int .u32)) /\ Pc ps /\ Hid (val xs = pval ps + val us * 1000000000 ^ ps.length) /\ ps.length <= 9040 /\ Hid (n = 0 -> 0 < ps.length /\ 0 < ps[ps.length - 1]?.getD 0) /\ Below w.heap.size w wr)
 case atStart => exact ⟨xs.length,xs,[],rfl,Nat.le_refl _,ot,wx,HX.out,show _ = _ by have:=val_nonneg wx; omega,World.ownsRow_nil _ _ _ _,fun _ h => by simp at h,show _ = _ by simp [pval],by simp,fun e => by omega,hb1⟩
 case round =>
  obtain ⟨n,us,ps,rfl,hnx,ho,hwu,htu,HKK,hop,hpc,HV,hpl,HL,hb⟩:=hrel
  have hlu:=ho.len
  rcases n with _ | n
  · have hu0 : us = []:=List.eq_nil_of_length_eq_zero hlu
    have HV' : Hid (pval ps = val xs):=by show _ = _; rw [HV.out,hu0,val_nil]; simp
    have HL':=hid (HL.out rfl)
    have HO':=hid (owns_base (base':=w.heap.size) hop (by omega))
    clear HV HL hop ho hu0 hlu HKK
    go_wp2_with fail
    go_ret
    exact ⟨_,ps,rfl,HO'.out,hpc,HV'.out,HL'.out.1,hpl,HL'.out.2,hb⟩
  · have hv1 : 1 <= val us:=by
     have h0:=val_nonneg hwu
     have h1:=(trimmed_zero hwu htu)
     have : ¬ val us = 0:=fun e => by have:=h1.2 e; omega
     omega
    have hfew : ps.length <= 9039:=by have:=pieces_few xs ps (val us) 8192 wx hn hpc hv1 HV.out; omega
    have HW1:=hid hv1
    have HLU:=hid hlu
    clear hv1 hlu
    go_wp2_with fail
    refine (divideByWord_any _ _ _ _ us 1000000000 wr ho hwu (by omega) ⟨by omega,by omega⟩).mono ?_
    rintro e w2 ⟨r,qs,rfl,r0,r1,oq,hwq,hvq,hg2⟩
    have hop2:=hop.kept hg2 (by
     cases e : u4.ownBlock with
     | none => exact .inl rfl
     | some g => right; intro e2; have:=hop.lt g e; simp at e2; omega)
    have hgs:=hg2.size
    have hgl2 : gl < w2.heap.size:=(World.ownsRow.lt oq gl rfl).2
    have hbs:=hb.size
    have hb2 : Below w.heap.size w w2:=hb.grown hg2 (by omega) (fun k hk => by simp at hk; omega)
    obtain ⟨R,hR⟩ : ∃ R,R = ps.map (Value.int .u32):=⟨_,rfl⟩
    have HM : Hid ((ps ++ [r]).map (Value.int .u32) = R ++ [.int .u32 r]):=by show _ = _; rw [hR]; simp
    rw [<- hR] at hop2
    have HOQ:=hid oq
    have HVQ:=hid hvq
    clear hR hop ho hg2 hb oq hvq
    go_wp2_with (at_builtin; refine wpList_append_own _ rfl _ _ 22 rfl (gl + 1) 69 i0 (.int .u32 0) 1 4 Tryz.underlying22 hi hz0 hz1 hz2 rfl (by decide) _ _ _ rfl (hop2.alloc _) ⟨w2.heap.size,0,none⟩ 1 1 [.int .u32 r] rfl rfl (cell_one_new _ _ _) (by simp [Value.oneCell']) (by unfold maxLen; omega) (by omega) (by simp; omega) ?_)
    intro v3 w3 op3 hg3 _
    have hb3 : Below w.heap.size w w3:=(hb2.alloc (by omega) _).grown hg3 (by simp; omega) (fun g hg => by have:=hop2.lt g hg; omega)
    have oq3 : OwnC w3 w.heap.size gl (n + 1) cl qs:=by
     have:=World.ownsRow.kept (World.ownsRow.alloc HOQ.out (.cells #[.int .u32 r] 69)) hg3 (by
      right
      intro e
      have:=hop2.lt gl e.symm
      omega)
     exact this
    have sx:=sz_le qs
    rw [oq3.len] at sx
    have hr3 : Reads w3 w3.heap.size (some ⟨gl,0,none⟩) (n + 1) cl qs:=by
     obtain ⟨a,cap,hv,hr⟩:=Reads.own oq3 hwq
     simp only [Value.slice.injEq] at hv
     obtain ⟨rfl,_,rfl⟩:=hv
     exact hr
    have HQ3:=hid (oq3.take (sz qs) sx)
    have HP3:=hid op3
    have HR3:=hid hr3
    have hc3:=oq3.cap
    have hc4 : cl <= 9223372036854775807:=hcl3
    clear hg3 op3 oq3 hr3 hop2 hc3
    go_wp2_with fail
    refine (size_any _ _ _ qs _ _ HR3.out (by omega)).mono ?_
    rintro e w4 ⟨rfl,rfl⟩
    have e1 : val us = val qs * 1000000000 + r:=HVQ.out
    have HKK' : Hid (((val qs).toNat : Int) = val (trimmed qs)):=by show _ = _; rw [val_trimmed]; have:=val_nonneg hwq; omega
    have HV' : Hid (val xs = pval (ps ++ [r]) + val (trimmed qs) * 1000000000 ^ (ps ++ [r]).length):=by
     show _ = _
     rw [val_trimmed,pval_snoc,HV.out,e1,List.length_append,List.length_singleton,Int.pow_succ,Int.add_mul,Int.mul_assoc,Int.mul_comm 1000000000 (1000000000 ^ ps.length),<- Int.mul_assoc]
     omega
    have HL' : Hid (sz qs = 0 -> 0 < (ps ++ [r]).length /\ 0 < (ps ++ [r])[(ps ++ [r]).length - 1]?.getD 0):=fun e0 => by
     refine ⟨by simp,?_⟩
     have e2 : val qs = 0:=by rw [val_sz,e0]; rfl
     have:=HW1.out
     simp
     omega
    have hless : (val qs).toNat < gk:=by have:=HKK.out; have:=HW1.out; have:=val_nonneg hwq; omega
    have HLS:=hid hless
    have HPL : Hid ((ps ++ [r]).length <= 9040):=by show _ <= _; simp; omega
    have HPP : Hid (w3.ownsRow (gl + 1) 69 1 v3 (ps ++ [r]).length ((ps ++ [r]).map (Value.int .u32))):=by
     show World.ownsRow _ _ _ _ _ _ _
     rw [HM.out,List.length_append,List.length_singleton]
     exact HP3.out
    clear e1 hless HP3
    go_wp2_with fail
    go_roundg (val qs).toNat
    case measure => exact HLS.out
    case rel => exact ⟨sz qs,trimmed qs,ps ++ [r],rfl,by omega,HQ3.out,hwq.trimmed,Trimmed.trimmed _,HKK',HPP.out,hpc.snoc ⟨r0,r1⟩,HV',HPL.out,HL',hb3⟩
theorem Box.same {w : World} {b t : Nat} {vs : Array Value} (h : Box w b t vs) {j : Nat} {v : Value} (hv : vs[j]? = some v) : w.setCell ⟨b,j,none⟩ v = w:=by
 have e : (w.setCell ⟨b,j,none⟩ v).heap = w.heap:=by
  have h' : w.heap[b]? = some (.cells vs t (0,0)):=h
  have hs : vs.setIfInBounds j v = vs:=by
   apply Array.ext_getElem?
   intro k
   rw [Array.getElem?_setIfInBounds]
   by_cases c : j = k
   · subst c
     obtain ⟨hk,_⟩:=Array.getElem?_eq_some_iff.1 hv
     rw [if_pos rfl,if_pos hk,hv]
   · rw [if_neg c]
  unfold World.setCell
  apply Array.ext_getElem?
  intro k
  simp only [Array.getElem?_modify]
  by_cases c : b = k
  · subst c
    rw [if_pos rfl,h']
    simp [hs]
  · rw [if_neg c]
 cases w
 simp only [World.setCell] at e ⊢
 rw [e]
theorem own_put1 {w : World} {base e n : Nat} {v : Value} {xs : List Value} (h : w.ownsRow base e 1 v n xs) (b : Nat) (hb : ∀ g,v.ownBlock = some g -> g ≠ b) (j : Nat) (v0 : Value) : (w.setCell ⟨b,j,none⟩ v0).ownsRow base e 1 v n xs:=by
 have hne : v.ownBlock = none \/ v.ownBlock ≠ some b:=by
  cases hv : v.ownBlock with
  | none => exact .inl rfl
  | some g => right; intro e; exact hb g hv (Option.some.inj e)
 exact World.ownsRow.kept h (grown_set w ⟨b,j,none⟩ v0) hne
def Bxs3 (W : World) (l : List (Nat × Array Value)) : Prop:=∀ p ∈ l,Box W p.1 24 p.2
def Rws (W : World) (l : List (Nat × Value × List Int)) : Prop:=∀ p ∈ l,W.ownsRow p.1 69 1 p.2.1 p.2.2.length (p.2.2.map (Value.int .u32))
structure St (w W : World) (l : List (Nat × Array Value)) (r : List (Nat × Value × List Int)) : Prop where
 box : Bxs3 W l
 row : Rws W r
 bel : Below w.heap.size w W
def fstE (E e : Int) : Int:=if E = 0 then e else E
theorem fstE_zero (e : Int) : fstE 0 e = e:=if_pos rfl
theorem fstE_err {E : Int} (e : Int) (h : E ≠ 0) : fstE E e = E:=if_neg h
theorem grow_trans {a b c : World} {row : Option Nat} (h : a.grownBy b row) (g : b.grownBy c row) : a.grownBy c row :=
 ⟨g.os.trans h.os,g.tape.trans h.tape,g.output.trans h.output,Nat.le_trans h.size g.size,fun k hk hne => (g.block k (Nat.lt_of_lt_of_le hk h.size) hne).trans (h.block k hk hne)⟩
theorem grow_below {a b : World} (h : Below a.heap.size a b) (row : Option Nat) : a.grownBy b row:=⟨h.os,h.tape,h.output,h.size,fun k hk _ => h.block k hk⟩
theorem Box.kept' {W W' : World} {row : Option Nat} {b t : Nat} {vs : Array Value} (h : Box W b t vs) (hg : W.grownBy W' row) (hne : some b ≠ row) : Box W' b t vs:=(hg.block b h.lt hne).trans h
def gchk (n : Bool) (xs ys : List Int) (m : Bool) (us vs : List Int) : Int:=fstE (rchk n xs ys) (rchk m us vs)
set_option maxRecDepth 100000 in
theorem gcheck_any (n : Bool) (v : Value) (xs : List Int) (u : Value) (ys : List Int) (m : Bool) (v' : Value) (us : List Int) (u' : Value) (vs : List Int) (w : World) (h1 : Sl w v xs) (h2 : Sl w u ys) (h3 : Sl w v' us) (h4 : Sl w u' vs) :
 Calls Tryz.prog 98 #[.agg #[.bool n,v,u,.bool m,v',u']] w fun e w' => e = .returned (.int .i64 (gchk n xs ys m us vs)) /\ Below w.heap.size w w':=by
 have HX:=hid (Box.made w 35 #[.bool n,v,u,.bool m,v',u'])
 have HB:=hid (alloc_later w (.cells #[.bool n,v,u,.bool m,v',u'] 35))
 have H1 : Hid (∀ V,Below w.heap.size w V -> Calls Tryz.prog 102 #[.agg #[.bool n,v,u]] V fun e w' => e = .returned (.int .i64 (rchk n xs ys)) /\ Below V.heap.size V w'):=fun V hv => rcheck_any n v xs u ys V (h1.later hv) (h2.later hv)
 have H2 : Hid (∀ V,Below w.heap.size w V -> Calls Tryz.prog 102 #[.agg #[.bool m,v',u']] V fun e w' => e = .returned (.int .i64 (rchk m us vs)) /\ Below V.heap.size V w'):=fun V hv => rcheck_any m v' us u' vs V (h3.later hv) (h4.later hv)
 obtain ⟨a,ca,rfl,_⟩:=h1
 obtain ⟨b,cb,rfl,_⟩:=h2
 obtain ⟨c,cc,rfl,_⟩:=h3
 obtain ⟨d,cd,rfl,_⟩:=h4
 have HF : Hid (∀ E,E = rchk n xs ys -> (E = 0 -> gchk n xs ys m us vs = rchk m us vs) /\ (E ≠ 0 -> gchk n xs ys m us vs = E)):=fun E hE => by
  subst hE
  exact ⟨fun h => by unfold gchk; rw [h,fstE_zero],fun h => fstE_err _ h⟩
 have HF:=hid (HF.out _ rfl)
 generalize rchk n xs ys = E at *
 generalize rchk m us vs = F at *
 generalize gchk n xs ys m us vs = G at *
 go_enter Tryz.func98,Tryz.ntmps98
 go_wp2_with fail
 generalize w.alloc (.cells #[.bool n,.slice a xs.length ca,.slice b ys.length cb,.bool m,.slice c us.length cc,.slice d vs.length cd] 35) = X at *
 refine Calls.mono (H1.out _ HB.out) ?_
 rintro e w1 ⟨rfl,hb1⟩
 have HB1:=hid (bt HB.out hb1)
 have HX1:=hid (HX.out.later hb1 HX.out.lt)
 have k3 : w1.cell? ⟨w.heap.size,3,none⟩ = some (.bool m):=HX1.out.cell 3
 have k4 : w1.cell? ⟨w.heap.size,4,none⟩ = some (.slice c us.length cc):=HX1.out.cell 4
 have k5 : w1.cell? ⟨w.heap.size,5,none⟩ = some (.slice d vs.length cd):=HX1.out.cell 5
 clear hb1 HX HX1 HB
 by_cases h : E = 0
 · subst h
   have HR:=hid (HF.out.1 rfl)
   clear HF H1
   go_wp2_with fail
   refine Calls.mono (H2.out _ HB1.out) ?_
   rintro e w2 ⟨rfl,hb2⟩
   have HB2:=hid (bt HB1.out hb2)
   clear hb2
   go_wp2_with fail
   go_ret
   exact ⟨ret_int HR.out.symm,HB2.out⟩
 · have HR:=hid (HF.out.2 h)
   have h' : (E == 0) = false:=by simp [h]
   clear HF H1 H2
   go_wp2_with fail
   go_ret
   exact ⟨ret_int HR.out.symm,HB1.out⟩
theorem boxes3r (w : World) (t : Nat) (u v z : Array Value) : Box (((w.alloc (.cells u t)).alloc (.cells v t)).alloc (.cells z t)) w.heap.size t u /\ Box (((w.alloc (.cells u t)).alloc (.cells v t)).alloc (.cells z t)) (w.heap.size + 1) t v /\ Box (((w.alloc (.cells u t)).alloc (.cells v t)).alloc (.cells z t)) (w.heap.size + 1 + 1) t z /\ Below w.heap.size w (((w.alloc (.cells u t)).alloc (.cells v t)).alloc (.cells z t)):=by
 have e1 : (w.alloc (.cells u t)).heap.size = w.heap.size + 1:=World.size_alloc _ _
 have e2 : ((w.alloc (.cells u t)).alloc (.cells v t)).heap.size = w.heap.size + 1 + 1:=by rw [World.size_alloc,World.size_alloc]
 have a:=Box.made w t u
 have b:=Box.made (w.alloc (.cells u t)) t v
 have c:=Box.made ((w.alloc (.cells u t)).alloc (.cells v t)) t z
 have a2:=a.later (alloc_later (w.alloc (.cells u t)) (.cells v t)) a.lt
 exact ⟨a2.later (alloc_later _ _) a2.lt,e1 ▸ (b.later (alloc_later _ _) b.lt),e2 ▸ c,bt (alloc_later _ _) (bt (alloc_later _ _) (alloc_later _ _))⟩
theorem grow_put {a c : World} {p : Nat} (h : a.grownBy c (some p)) (b j : Nat) (v : Value) (hb : a.heap.size <= b \/ b = p) : a.grownBy (c.setCell ⟨b,j,none⟩ v) (some p) :=
 ⟨h.os,h.tape,h.output,by simpa [World.setCell] using h.size,fun k hk hne => (Below.heap_setCell c ⟨b,j,none⟩ v k (fun e => by
  have e' : k = b:=e
  rcases hb with hb | hb
  · omega
  · exact hne (by rw [e',hb]))).trans (h.block k hk hne)⟩
theorem grow_put3 {a c : World} {p : Nat} (h : a.grownBy c (some p)) (b : Nat) (u0 u1 u2 : Value) (hb : a.heap.size <= b \/ b = p) : a.grownBy (((c.setCell ⟨b,0,none⟩ u0).setCell ⟨b,1,none⟩ u1).setCell ⟨b,2,none⟩ u2) (some p) :=
 grow_put (grow_put (grow_put h b 0 u0 hb) b 1 u1 hb) b 2 u2 hb
theorem own_put3' {w : World} {base e n : Nat} {v : Value} {xs : List Value} (h : w.ownsRow base e 1 v n xs) (b : Nat) (hb : ∀ g,v.ownBlock = some g -> g ≠ b) (u0 u1 u2 : Value) : (((w.setCell ⟨b,0,none⟩ u0).setCell ⟨b,1,none⟩ u1).setCell ⟨b,2,none⟩ u2).ownsRow base e 1 v n xs :=
 own_put1 (own_put1 (own_put1 h b hb 0 u0) b hb 1 u1) b hb 2 u2
theorem box_put3 {U : World} {b t : Nat} {u0 u1 u2 : Value} (h : Box U b t #[u0,u1,u2]) (v0 v1 v2 : Value) : Box (((U.setCell ⟨b,0,none⟩ v0).setCell ⟨b,1,none⟩ v1).setCell ⟨b,2,none⟩ v2) b t #[v0,v1,v2]:=((h.set 0 v0).set 1 v1).set 2 v2
theorem box_far3 {U : World} {b t b' : Nat} {vs : Array Value} (h : Box U b t vs) (hne : b ≠ b') (v0 v1 v2 : Value) : Box (((U.setCell ⟨b',0,none⟩ v0).setCell ⟨b',1,none⟩ v1).setCell ⟨b',2,none⟩ v2) b t vs:=((h.other ⟨b',0,none⟩ v0 hne).other ⟨b',1,none⟩ v1 hne).other ⟨b',2,none⟩ v2 hne
def GTell (w : World) (p : Nat) (e : Int) (q : Rat) (x : Ending) (w' : World) : Prop :=
 ∃ n v xs u ys code,x = .returned (.agg #[.bool n,v,u]) /\ w'.ownsRow w.heap.size 69 1 v xs.length (xs.map (Value.int .u32)) /\ w'.ownsRow w.heap.size 69 1 u ys.length (ys.map (Value.int .u32)) /\ RTells e q n xs ys code /\ Box w' p 175 #[.int .i64 code] /\ w.grownBy w' (some p) /\ Cut w v u w'
set_option maxRecDepth 100000 in
theorem gnext_any (p k : Nat) (E e : Int) (q : Rat) (a0 a1 a2 b0 b1 b2 : Value) (w : World) (hp : Box w p 175 #[.int .i64 E]) (eg : ∀ args W,(callFunc k args).run Tryz.prog W = .ok (.enter k args) W)
 (HF : ∀ V,Below w.heap.size w V -> Calls Tryz.prog k #[.agg #[a0,a1,a2],.agg #[b0,b1,b2]] V (RToldA V e q)) :
 Calls Tryz.prog 236 #[.pointer (some ⟨p,0,none⟩),.func (.func k) #[] #[],.agg #[a0,a1,a2],.agg #[b0,b1,b2]] w (GTell w p (fstE E e) q):=by
 have HFF:=hid HF
 have HX:=hid (boxes3r w 24 #[a0,a1,a2] #[b0,b1,b2] #[.bool false,.slice none 0 0,.slice none 0 0])
 obtain ⟨X,hX⟩ : ∃ X,((w.alloc (.cells #[a0,a1,a2] 24)).alloc (.cells #[b0,b1,b2] 24)).alloc (.cells #[.bool false,.slice none 0 0,.slice none 0 0] 24) = X:=⟨_,rfl⟩
 rw [hX] at HX
 have HP:=hid (hp.later HX.out.2.2.2 hp.lt)
 have kp : X.cell? ⟨p,0,none⟩ = some (.int .i64 E):=HP.out.cell 0
 have fp:=HP.out.free 0
 clear HF
 by_cases hE : E = 0
 · subst hE
   rw [fstE_zero]
   have c0 : X.cell? ⟨w.heap.size,0,none⟩ = some a0:=HX.out.1.cell 0
   have c1 : X.cell? ⟨w.heap.size,1,none⟩ = some a1:=HX.out.1.cell 1
   have c2 : X.cell? ⟨w.heap.size,2,none⟩ = some a2:=HX.out.1.cell 2
   have d0 : X.cell? ⟨w.heap.size + 1,0,none⟩ = some b0:=HX.out.2.1.cell 0
   have d1 : X.cell? ⟨w.heap.size + 1,1,none⟩ = some b1:=HX.out.2.1.cell 1
   have d2 : X.cell? ⟨w.heap.size + 1,2,none⟩ = some b2:=HX.out.2.1.cell 2
   go_enter Tryz.func236,Tryz.ntmps236
   go_wp2_with fail
   refine Calls.mono (HFF.out _ HX.out.2.2.2) ?_
   rintro x w1 ⟨n,v,xs,u,ys,code,rfl,ov,ou,ht,hb1,hcut⟩
   obtain ⟨av,cv,rfl⟩:=own_slice' ov
   obtain ⟨au,cu,rfl⟩:=own_slice' ou
   have HM1:=hid (HX.out.2.2.1.later hb1 HX.out.2.2.1.lt)
   have HP1:=hid (HP.out.later hb1 HP.out.lt)
   have hpw : p < w.heap.size:=hp.lt
   have m0 : w1.cell? ⟨w.heap.size + 1 + 1,0,none⟩ = some (.bool false):=HM1.out.cell 0
   have m1 : w1.cell? ⟨w.heap.size + 1 + 1,1,none⟩ = some (.slice none 0 0):=HM1.out.cell 1
   have m2 : w1.cell? ⟨w.heap.size + 1 + 1,2,none⟩ = some (.slice none 0 0):=HM1.out.cell 2
   have n0:=HM1.out.free 0
   have n1:=HM1.out.free 1
   have n2:=HM1.out.free 2
   have kp1 : w1.cell? ⟨p,0,none⟩ = some (.int .i64 0):=HP1.out.cell 0
   have fp1:=HP1.out.free 0
   have hne : p ≠ w.heap.size + 1 + 1:=by omega
   have HBB:=hid (bt HX.out.2.2.2 hb1)
   have HOV:=hid ov
   have HOU:=hid ou
   have HTT:=hid ht
   have HCC:=hid hcut
   clear ov ou ht hcut hb1 c0 c1 c2 d0 d1 d2 kp fp HFF eg
   go_wp2_with fail
   have hlo : ∀ (x : Value),(∀ b,x.ownBlock = some b -> X.heap.size <= b) -> (∀ b,x.ownBlock = some b -> b ≠ w.heap.size + 1 + 1) /\ (∀ b,x.ownBlock = some b -> b ≠ p):=fun x hx => by
    have h3:=HX.out.2.2.1.lt
    exact ⟨fun b hb => by have:=hx b hb; omega,fun b hb => by have:=hx b hb; omega⟩
   have hv:=hlo _ (fun b hb => (HOV.out.lt b hb).1)
   have hu:=hlo _ (fun b hb => (HOU.out.lt b hb).1)
   have B1:=box_put3 ((box_put3 HM1.out (.bool n) (.slice av xs.length cv) (.slice au ys.length cu)).other ⟨p,0,none⟩ (.int .i64 code) (by simp; omega)) (.bool n) (.slice av xs.length cv) (.slice au ys.length cu)
   have P1 : Box _ p 175 #[.int .i64 code]:=box_far3 ((box_far3 HP1.out hne (.bool n) (.slice av xs.length cv) (.slice au ys.length cu)).set 0 (.int .i64 code)) hne (.bool n) (.slice av xs.length cv) (.slice au ys.length cu)
   have V1:=own_put3' (own_put1 (own_put3' HOV.out _ hv.1 (.bool n) (.slice av xs.length cv) (.slice au ys.length cu)) p hv.2 0 (.int .i64 code)) _ hv.1 (.bool n) (.slice av xs.length cv) (.slice au ys.length cu)
   have U1:=own_put3' (own_put1 (own_put3' HOU.out _ hu.1 (.bool n) (.slice av xs.length cv) (.slice au ys.length cu)) p hu.2 0 (.int .i64 code)) _ hu.1 (.bool n) (.slice av xs.length cv) (.slice au ys.length cu)
   have G1:=grow_put3 (grow_put (grow_put3 (grow_below HBB.out (some p)) (w.heap.size + 1 + 1) (.bool n) (.slice av xs.length cv) (.slice au ys.length cu) (.inl (by omega))) p 0 (.int .i64 code) (.inr rfl)) (w.heap.size + 1 + 1) (.bool n) (.slice av xs.length cv) (.slice au ys.length cu) (.inl (by omega))
   have hXw:=HX.out.2.2.2.size
   refine bodyPost_ret (results_cell_row (by rfl) _ _ (w.heap.size + 1 + 1) 24 _ (0,0) _ (by rfl) B1 Tryz.underlying24 rfl (by kernel_rfl)) rfl ?_
   refine ⟨n,_,xs,_,ys,code,rfl,owns_base V1 hXw,owns_base U1 hXw,HTT.out,P1,G1,?_⟩
   exact HCC.out.up hXw (by simp [World.setCell])
 · have hE' : (E == 0) = false:=by simp [hE]
   rw [fstE_err e hE]
   have m0 : X.cell? ⟨w.heap.size + 1 + 1,0,none⟩ = some (.bool false):=HX.out.2.2.1.cell 0
   have m1 : X.cell? ⟨w.heap.size + 1 + 1,1,none⟩ = some (.slice none 0 0):=HX.out.2.2.1.cell 1
   have m2 : X.cell? ⟨w.heap.size + 1 + 1,2,none⟩ = some (.slice none 0 0):=HX.out.2.2.1.cell 2
   have n0:=HX.out.2.2.1.free 0
   have n1:=HX.out.2.2.1.free 1
   have n2:=HX.out.2.2.1.free 2
   go_enter Tryz.func236,Tryz.ntmps236
   go_wp2_with fail
   have hpw : p < w.heap.size:=hp.lt
   have B1:=box_put3 HX.out.2.2.1 (.bool false) (.slice none 0 0) (.slice none 0 0)
   have P1:=box_far3 HP.out (show p ≠ w.heap.size + 1 + 1 by omega) (.bool false) (.slice none 0 0) (.slice none 0 0)
   have G1:=grow_put3 (grow_below HX.out.2.2.2 (some p)) (w.heap.size + 1 + 1) (.bool false) (.slice none 0 0) (.slice none 0 0) (.inl (by omega))
   refine bodyPost_ret (results_cell_row (by rfl) _ _ (w.heap.size + 1 + 1) 24 _ (0,0) _ (by rfl) B1 Tryz.underlying24 rfl (by kernel_rfl)) rfl ?_
   refine ⟨false,_,[],_,[],E,rfl,World.ownsRow_nil _ _ _ _,World.ownsRow_nil _ _ _ _,RTells.err hE,P1,G1,?_⟩
   exact ⟨w.heap.size,Nat.le_refl _,G1.size,fun g hg => by simp [Value.ownBlock] at hg,fun g hg => by simp [Value.ownBlock] at hg⟩
set_option maxRecDepth 100000 in
theorem gsum_any (p : Nat) (E : Int) (n : Bool) (a : Option Addr) (ca : Nat) (xs : List Int) (b : Option Addr) (cb : Nat) (ys : List Int) (m : Bool) (c : Option Addr) (cc : Nat) (us : List Int) (d : Option Addr) (cd : Nat) (vs : List Int) (w : World) (hp : Box w p 175 #[.int .i64 E]) (sx : Sl w (.slice a xs.length ca) xs) (sy : Sl w (.slice b ys.length cb) ys) (su : Sl w (.slice c us.length cc) us) (sv : Sl w (.slice d vs.length cd) vs) :
 Calls Tryz.prog 208 #[.pointer (some ⟨p,0,none⟩),.agg #[.bool n,.slice a xs.length ca,.slice b ys.length cb],.agg #[.bool m,.slice c us.length cc,.slice d vs.length cd]] w (GTell w p (fstE E (rboth n xs ys m us vs)) (rq n xs ys + rq m us vs)):=by
 have HX:=hid (boxes3r w 24 #[.bool n,.slice a xs.length ca,.slice b ys.length cb] #[.bool m,.slice c us.length cc,.slice d vs.length cd] #[.bool false,.slice none 0 0,.slice none 0 0])
 obtain ⟨X,hX⟩ : ∃ X,((w.alloc (.cells #[.bool n,.slice a xs.length ca,.slice b ys.length cb] 24)).alloc (.cells #[.bool m,.slice c us.length cc,.slice d vs.length cd] 24)).alloc (.cells #[.bool false,.slice none 0 0,.slice none 0 0] 24) = X:=⟨_,rfl⟩
 rw [hX] at HX
 have HP:=hid (hp.later HX.out.2.2.2 hp.lt)
 have hpw : p < w.heap.size:=hp.lt
 have HN:=hid (gnext_any p 239 E (rboth n xs ys m us vs) (rq n xs ys + rq m us vs) (.bool n) (.slice a xs.length ca) (.slice b ys.length cb) (.bool m) (.slice c us.length cc) (.slice d vs.length cd) X HP.out (enters_of Tryz.func239 (by kernel_rfl) rfl) (fun V hv => rAdd_full n a ca xs b cb ys m c cc us d cd vs V (sx.later (bt HX.out.2.2.2 hv)) (sy.later (bt HX.out.2.2.2 hv)) (su.later (bt HX.out.2.2.2 hv)) (sv.later (bt HX.out.2.2.2 hv))))
 generalize fstE E (rboth n xs ys m us vs) = e at *
 generalize rq n xs ys + rq m us vs = q at *
 have c0 : X.cell? ⟨w.heap.size,0,none⟩ = some (.bool n):=HX.out.1.cell 0
 have c1 : X.cell? ⟨w.heap.size,1,none⟩ = some (.slice a xs.length ca):=HX.out.1.cell 1
 have c2 : X.cell? ⟨w.heap.size,2,none⟩ = some (.slice b ys.length cb):=HX.out.1.cell 2
 have d0 : X.cell? ⟨w.heap.size + 1,0,none⟩ = some (.bool m):=HX.out.2.1.cell 0
 have d1 : X.cell? ⟨w.heap.size + 1,1,none⟩ = some (.slice c us.length cc):=HX.out.2.1.cell 1
 have d2 : X.cell? ⟨w.heap.size + 1,2,none⟩ = some (.slice d vs.length cd):=HX.out.2.1.cell 2
 clear sx sy su sv hp
 go_enter Tryz.func208,Tryz.ntmps208
 go_wp2_with fail
 refine Calls.mono HN.out ?_
 rintro x w1 ⟨k,v,zs,u,ts,code,rfl,ov,ou,ht,hpb,hg,hcut⟩
 obtain ⟨av,cv,rfl⟩:=own_slice' ov
 obtain ⟨au,cu,rfl⟩:=own_slice' ou
 have HM1:=hid (HX.out.2.2.1.kept' hg (by intro e; have:=Option.some.inj e; omega))
 have m0 : w1.cell? ⟨w.heap.size + 1 + 1,0,none⟩ = some (.bool false):=HM1.out.cell 0
 have m1 : w1.cell? ⟨w.heap.size + 1 + 1,1,none⟩ = some (.slice none 0 0):=HM1.out.cell 1
 have m2 : w1.cell? ⟨w.heap.size + 1 + 1,2,none⟩ = some (.slice none 0 0):=HM1.out.cell 2
 have n0:=HM1.out.free 0
 have n1:=HM1.out.free 1
 have n2:=HM1.out.free 2
 have HOV:=hid ov
 have HOU:=hid ou
 have HTT:=hid ht
 have HCC:=hid hcut
 have HPB:=hid hpb
 have HG:=hid hg
 clear ov ou ht hcut hpb hg c0 c1 c2 d0 d1 d2 HN
 go_wp2_with fail
 have h3:=HX.out.2.2.1.lt
 have hv : ∀ b',(Value.slice av zs.length cv).ownBlock = some b' -> b' ≠ w.heap.size + 1 + 1:=fun b' hb => by have:=(HOV.out.lt b' hb).1; omega
 have hu : ∀ b',(Value.slice au ts.length cu).ownBlock = some b' -> b' ≠ w.heap.size + 1 + 1:=fun b' hb => by have:=(HOU.out.lt b' hb).1; omega
 have B1:=box_put3 HM1.out (.bool k) (.slice av zs.length cv) (.slice au ts.length cu)
 have P1:=box_far3 HPB.out (show p ≠ w.heap.size + 1 + 1 by omega) (.bool k) (.slice av zs.length cv) (.slice au ts.length cu)
 have V1:=own_put3' HOV.out _ hv (.bool k) (.slice av zs.length cv) (.slice au ts.length cu)
 have U1:=own_put3' HOU.out _ hu (.bool k) (.slice av zs.length cv) (.slice au ts.length cu)
 have G1:=grow_put3 (grow_trans (grow_below HX.out.2.2.2 (some p)) HG.out) (w.heap.size + 1 + 1) (.bool k) (.slice av zs.length cv) (.slice au ts.length cu) (.inl (by omega))
 have hXw:=HX.out.2.2.2.size
 refine bodyPost_ret (results_cell_row (by rfl) _ _ (w.heap.size + 1 + 1) 24 _ (0,0) _ (by rfl) B1 Tryz.underlying24 rfl (by kernel_rfl)) rfl ?_
 exact ⟨k,_,zs,_,ts,code,rfl,owns_base V1 hXw,owns_base U1 hXw,HTT.out,P1,G1,HCC.out.up hXw (by simp [World.setCell])⟩
set_option maxRecDepth 100000 in
theorem gdifference_any (p : Nat) (E : Int) (n : Bool) (a : Option Addr) (ca : Nat) (xs : List Int) (b : Option Addr) (cb : Nat) (ys : List Int) (m : Bool) (c : Option Addr) (cc : Nat) (us : List Int) (d : Option Addr) (cd : Nat) (vs : List Int) (w : World) (hp : Box w p 175 #[.int .i64 E]) (sx : Sl w (.slice a xs.length ca) xs) (sy : Sl w (.slice b ys.length cb) ys) (su : Sl w (.slice c us.length cc) us) (sv : Sl w (.slice d vs.length cd) vs) :
 Calls Tryz.prog 206 #[.pointer (some ⟨p,0,none⟩),.agg #[.bool n,.slice a xs.length ca,.slice b ys.length cb],.agg #[.bool m,.slice c us.length cc,.slice d vs.length cd]] w (GTell w p (fstE E (rboth n xs ys m us vs)) (rq n xs ys - rq m us vs)):=by
 have HX:=hid (boxes3r w 24 #[.bool n,.slice a xs.length ca,.slice b ys.length cb] #[.bool m,.slice c us.length cc,.slice d vs.length cd] #[.bool false,.slice none 0 0,.slice none 0 0])
 obtain ⟨X,hX⟩ : ∃ X,((w.alloc (.cells #[.bool n,.slice a xs.length ca,.slice b ys.length cb] 24)).alloc (.cells #[.bool m,.slice c us.length cc,.slice d vs.length cd] 24)).alloc (.cells #[.bool false,.slice none 0 0,.slice none 0 0] 24) = X:=⟨_,rfl⟩
 rw [hX] at HX
 have HP:=hid (hp.later HX.out.2.2.2 hp.lt)
 have hpw : p < w.heap.size:=hp.lt
 have HN:=hid (gnext_any p 237 E (rboth n xs ys m us vs) (rq n xs ys - rq m us vs) (.bool n) (.slice a xs.length ca) (.slice b ys.length cb) (.bool m) (.slice c us.length cc) (.slice d vs.length cd) X HP.out (enters_of Tryz.func237 (by kernel_rfl) rfl) (fun V hv => rSub_full n a ca xs b cb ys m c cc us d cd vs V (sx.later (bt HX.out.2.2.2 hv)) (sy.later (bt HX.out.2.2.2 hv)) (su.later (bt HX.out.2.2.2 hv)) (sv.later (bt HX.out.2.2.2 hv))))
 generalize fstE E (rboth n xs ys m us vs) = e at *
 generalize rq n xs ys - rq m us vs = q at *
 have c0 : X.cell? ⟨w.heap.size,0,none⟩ = some (.bool n):=HX.out.1.cell 0
 have c1 : X.cell? ⟨w.heap.size,1,none⟩ = some (.slice a xs.length ca):=HX.out.1.cell 1
 have c2 : X.cell? ⟨w.heap.size,2,none⟩ = some (.slice b ys.length cb):=HX.out.1.cell 2
 have d0 : X.cell? ⟨w.heap.size + 1,0,none⟩ = some (.bool m):=HX.out.2.1.cell 0
 have d1 : X.cell? ⟨w.heap.size + 1,1,none⟩ = some (.slice c us.length cc):=HX.out.2.1.cell 1
 have d2 : X.cell? ⟨w.heap.size + 1,2,none⟩ = some (.slice d vs.length cd):=HX.out.2.1.cell 2
 clear sx sy su sv hp
 go_enter Tryz.func206,Tryz.ntmps206
 go_wp2_with fail
 refine Calls.mono HN.out ?_
 rintro x w1 ⟨k,v,zs,u,ts,code,rfl,ov,ou,ht,hpb,hg,hcut⟩
 obtain ⟨av,cv,rfl⟩:=own_slice' ov
 obtain ⟨au,cu,rfl⟩:=own_slice' ou
 have HM1:=hid (HX.out.2.2.1.kept' hg (by intro e; have:=Option.some.inj e; omega))
 have m0 : w1.cell? ⟨w.heap.size + 1 + 1,0,none⟩ = some (.bool false):=HM1.out.cell 0
 have m1 : w1.cell? ⟨w.heap.size + 1 + 1,1,none⟩ = some (.slice none 0 0):=HM1.out.cell 1
 have m2 : w1.cell? ⟨w.heap.size + 1 + 1,2,none⟩ = some (.slice none 0 0):=HM1.out.cell 2
 have n0:=HM1.out.free 0
 have n1:=HM1.out.free 1
 have n2:=HM1.out.free 2
 have HOV:=hid ov
 have HOU:=hid ou
 have HTT:=hid ht
 have HCC:=hid hcut
 have HPB:=hid hpb
 have HG:=hid hg
 clear ov ou ht hcut hpb hg c0 c1 c2 d0 d1 d2 HN
 go_wp2_with fail
 have h3:=HX.out.2.2.1.lt
 have hv : ∀ b',(Value.slice av zs.length cv).ownBlock = some b' -> b' ≠ w.heap.size + 1 + 1:=fun b' hb => by have:=(HOV.out.lt b' hb).1; omega
 have hu : ∀ b',(Value.slice au ts.length cu).ownBlock = some b' -> b' ≠ w.heap.size + 1 + 1:=fun b' hb => by have:=(HOU.out.lt b' hb).1; omega
 have B1:=box_put3 HM1.out (.bool k) (.slice av zs.length cv) (.slice au ts.length cu)
 have P1:=box_far3 HPB.out (show p ≠ w.heap.size + 1 + 1 by omega) (.bool k) (.slice av zs.length cv) (.slice au ts.length cu)
 have V1:=own_put3' HOV.out _ hv (.bool k) (.slice av zs.length cv) (.slice au ts.length cu)
 have U1:=own_put3' HOU.out _ hu (.bool k) (.slice av zs.length cv) (.slice au ts.length cu)
 have G1:=grow_put3 (grow_trans (grow_below HX.out.2.2.2 (some p)) HG.out) (w.heap.size + 1 + 1) (.bool k) (.slice av zs.length cv) (.slice au ts.length cu) (.inl (by omega))
 have hXw:=HX.out.2.2.2.size
 refine bodyPost_ret (results_cell_row (by rfl) _ _ (w.heap.size + 1 + 1) 24 _ (0,0) _ (by rfl) B1 Tryz.underlying24 rfl (by kernel_rfl)) rfl ?_
 exact ⟨k,_,zs,_,ts,code,rfl,owns_base V1 hXw,owns_base U1 hXw,HTT.out,P1,G1,HCC.out.up hXw (by simp [World.setCell])⟩
set_option maxRecDepth 100000 in
theorem gproduct_any (p : Nat) (E : Int) (n : Bool) (a : Option Addr) (ca : Nat) (xs : List Int) (b : Option Addr) (cb : Nat) (ys : List Int) (m : Bool) (c : Option Addr) (cc : Nat) (us : List Int) (d : Option Addr) (cd : Nat) (vs : List Int) (w : World) (hp : Box w p 175 #[.int .i64 E]) (sx : Sl w (.slice a xs.length ca) xs) (sy : Sl w (.slice b ys.length cb) ys) (su : Sl w (.slice c us.length cc) us) (sv : Sl w (.slice d vs.length cd) vs) :
 Calls Tryz.prog 207 #[.pointer (some ⟨p,0,none⟩),.agg #[.bool n,.slice a xs.length ca,.slice b ys.length cb],.agg #[.bool m,.slice c us.length cc,.slice d vs.length cd]] w (GTell w p (fstE E (rboth n xs ys m us vs)) (rq n xs ys * rq m us vs)):=by
 have HX:=hid (boxes3r w 24 #[.bool n,.slice a xs.length ca,.slice b ys.length cb] #[.bool m,.slice c us.length cc,.slice d vs.length cd] #[.bool false,.slice none 0 0,.slice none 0 0])
 obtain ⟨X,hX⟩ : ∃ X,((w.alloc (.cells #[.bool n,.slice a xs.length ca,.slice b ys.length cb] 24)).alloc (.cells #[.bool m,.slice c us.length cc,.slice d vs.length cd] 24)).alloc (.cells #[.bool false,.slice none 0 0,.slice none 0 0] 24) = X:=⟨_,rfl⟩
 rw [hX] at HX
 have HP:=hid (hp.later HX.out.2.2.2 hp.lt)
 have hpw : p < w.heap.size:=hp.lt
 have HN:=hid (gnext_any p 238 E (rboth n xs ys m us vs) (rq n xs ys * rq m us vs) (.bool n) (.slice a xs.length ca) (.slice b ys.length cb) (.bool m) (.slice c us.length cc) (.slice d vs.length cd) X HP.out (enters_of Tryz.func238 (by kernel_rfl) rfl) (fun V hv => rMul_full n a ca xs b cb ys m c cc us d cd vs V (sx.later (bt HX.out.2.2.2 hv)) (sy.later (bt HX.out.2.2.2 hv)) (su.later (bt HX.out.2.2.2 hv)) (sv.later (bt HX.out.2.2.2 hv))))
 generalize fstE E (rboth n xs ys m us vs) = e at *
 generalize rq n xs ys * rq m us vs = q at *
 have c0 : X.cell? ⟨w.heap.size,0,none⟩ = some (.bool n):=HX.out.1.cell 0
 have c1 : X.cell? ⟨w.heap.size,1,none⟩ = some (.slice a xs.length ca):=HX.out.1.cell 1
 have c2 : X.cell? ⟨w.heap.size,2,none⟩ = some (.slice b ys.length cb):=HX.out.1.cell 2
 have d0 : X.cell? ⟨w.heap.size + 1,0,none⟩ = some (.bool m):=HX.out.2.1.cell 0
 have d1 : X.cell? ⟨w.heap.size + 1,1,none⟩ = some (.slice c us.length cc):=HX.out.2.1.cell 1
 have d2 : X.cell? ⟨w.heap.size + 1,2,none⟩ = some (.slice d vs.length cd):=HX.out.2.1.cell 2
 clear sx sy su sv hp
 go_enter Tryz.func207,Tryz.ntmps207
 go_wp2_with fail
 refine Calls.mono HN.out ?_
 rintro x w1 ⟨k,v,zs,u,ts,code,rfl,ov,ou,ht,hpb,hg,hcut⟩
 obtain ⟨av,cv,rfl⟩:=own_slice' ov
 obtain ⟨au,cu,rfl⟩:=own_slice' ou
 have HM1:=hid (HX.out.2.2.1.kept' hg (by intro e; have:=Option.some.inj e; omega))
 have m0 : w1.cell? ⟨w.heap.size + 1 + 1,0,none⟩ = some (.bool false):=HM1.out.cell 0
 have m1 : w1.cell? ⟨w.heap.size + 1 + 1,1,none⟩ = some (.slice none 0 0):=HM1.out.cell 1
 have m2 : w1.cell? ⟨w.heap.size + 1 + 1,2,none⟩ = some (.slice none 0 0):=HM1.out.cell 2
 have n0:=HM1.out.free 0
 have n1:=HM1.out.free 1
 have n2:=HM1.out.free 2
 have HOV:=hid ov
 have HOU:=hid ou
 have HTT:=hid ht
 have HCC:=hid hcut
 have HPB:=hid hpb
 have HG:=hid hg
 clear ov ou ht hcut hpb hg c0 c1 c2 d0 d1 d2 HN
 go_wp2_with fail
 have h3:=HX.out.2.2.1.lt
 have hv : ∀ b',(Value.slice av zs.length cv).ownBlock = some b' -> b' ≠ w.heap.size + 1 + 1:=fun b' hb => by have:=(HOV.out.lt b' hb).1; omega
 have hu : ∀ b',(Value.slice au ts.length cu).ownBlock = some b' -> b' ≠ w.heap.size + 1 + 1:=fun b' hb => by have:=(HOU.out.lt b' hb).1; omega
 have B1:=box_put3 HM1.out (.bool k) (.slice av zs.length cv) (.slice au ts.length cu)
 have P1:=box_far3 HPB.out (show p ≠ w.heap.size + 1 + 1 by omega) (.bool k) (.slice av zs.length cv) (.slice au ts.length cu)
 have V1:=own_put3' HOV.out _ hv (.bool k) (.slice av zs.length cv) (.slice au ts.length cu)
 have U1:=own_put3' HOU.out _ hu (.bool k) (.slice av zs.length cv) (.slice au ts.length cu)
 have G1:=grow_put3 (grow_trans (grow_below HX.out.2.2.2 (some p)) HG.out) (w.heap.size + 1 + 1) (.bool k) (.slice av zs.length cv) (.slice au ts.length cu) (.inl (by omega))
 have hXw:=HX.out.2.2.2.size
 refine bodyPost_ret (results_cell_row (by rfl) _ _ (w.heap.size + 1 + 1) 24 _ (0,0) _ (by rfl) B1 Tryz.underlying24 rfl (by kernel_rfl)) rfl ?_
 exact ⟨k,_,zs,_,ts,code,rfl,owns_base V1 hXw,owns_base U1 hXw,HTT.out,P1,G1,HCC.out.up hXw (by simp [World.setCell])⟩
theorem boxes2r (w : World) (t : Nat) (u v : Array Value) : Box ((w.alloc (.cells u t)).alloc (.cells v t)) w.heap.size t u /\ Box ((w.alloc (.cells u t)).alloc (.cells v t)) (w.heap.size + 1) t v /\ Below w.heap.size w ((w.alloc (.cells u t)).alloc (.cells v t)):=by
 have e1 : (w.alloc (.cells u t)).heap.size = w.heap.size + 1:=World.size_alloc _ _
 have a:=Box.made w t u
 have b:=Box.made (w.alloc (.cells u t)) t v
 exact ⟨a.later (alloc_later _ _) a.lt,e1 ▸ b,bt (alloc_later _ _) (alloc_later _ _)⟩
set_option maxRecDepth 100000 in
theorem gopposite_any (p : Nat) (E : Int) (n : Bool) (a : Option Addr) (ca : Nat) (xs : List Int) (b : Option Addr) (cb : Nat) (ys : List Int) (w : World) (hp : Box w p 175 #[.int .i64 E]) (sx : Sl w (.slice a xs.length ca) xs) (sy : Sl w (.slice b ys.length cb) ys) :
 Calls Tryz.prog 105 #[.pointer (some ⟨p,0,none⟩),.agg #[.bool n,.slice a xs.length ca,.slice b ys.length cb]] w (GTell w p (fstE E (rchk n xs ys)) (-(rq n xs ys))):=by
 have HX:=hid (boxes2r w 24 #[.bool n,.slice a xs.length ca,.slice b ys.length cb] #[.bool false,.slice none 0 0,.slice none 0 0])
 obtain ⟨X,hX⟩ : ∃ X,(w.alloc (.cells #[.bool n,.slice a xs.length ca,.slice b ys.length cb] 24)).alloc (.cells #[.bool false,.slice none 0 0,.slice none 0 0] 24) = X:=⟨_,rfl⟩
 rw [hX] at HX
 have HP:=hid (hp.later HX.out.2.2 hp.lt)
 have kp : X.cell? ⟨p,0,none⟩ = some (.int .i64 E):=HP.out.cell 0
 have fp:=HP.out.free 0
 have hpw : p < w.heap.size:=hp.lt
 have HFF : Hid (∀ V,Below w.heap.size w V -> Calls Tryz.prog 160 #[.agg #[.bool n,.slice a xs.length ca,.slice b ys.length cb]] V (RToldA V (rchk n xs ys) (-(rq n xs ys)))):=fun V hv => rNeg_full n a ca xs b cb ys V (sx.later hv) (sy.later hv)
 generalize rchk n xs ys = e at *
 generalize -(rq n xs ys) = q at *
 clear sx sy
 by_cases hE : E = 0
 · subst hE
   rw [fstE_zero]
   have c0 : X.cell? ⟨w.heap.size,0,none⟩ = some (.bool n):=HX.out.1.cell 0
   have c1 : X.cell? ⟨w.heap.size,1,none⟩ = some (.slice a xs.length ca):=HX.out.1.cell 1
   have c2 : X.cell? ⟨w.heap.size,2,none⟩ = some (.slice b ys.length cb):=HX.out.1.cell 2
   go_enter Tryz.func105,Tryz.ntmps105
   go_wp2_with fail
   refine Calls.mono (HFF.out _ HX.out.2.2) ?_
   rintro x w1 ⟨k,v,zs,u,ts,code,rfl,ov,ou,ht,hb1,hcut⟩
   obtain ⟨av,cv,rfl⟩:=own_slice' ov
   obtain ⟨au,cu,rfl⟩:=own_slice' ou
   have HM1:=hid (HX.out.2.1.later hb1 HX.out.2.1.lt)
   have HP1:=hid (HP.out.later hb1 HP.out.lt)
   have m0 : w1.cell? ⟨w.heap.size + 1,0,none⟩ = some (.bool false):=HM1.out.cell 0
   have m1 : w1.cell? ⟨w.heap.size + 1,1,none⟩ = some (.slice none 0 0):=HM1.out.cell 1
   have m2 : w1.cell? ⟨w.heap.size + 1,2,none⟩ = some (.slice none 0 0):=HM1.out.cell 2
   have n0:=HM1.out.free 0
   have n1:=HM1.out.free 1
   have n2:=HM1.out.free 2
   have kp1 : w1.cell? ⟨p,0,none⟩ = some (.int .i64 0):=HP1.out.cell 0
   have fp1:=HP1.out.free 0
   have hne : p ≠ w.heap.size + 1:=by omega
   have HBB:=hid (bt HX.out.2.2 hb1)
   have HOV:=hid ov
   have HOU:=hid ou
   have HTT:=hid ht
   have HCC:=hid hcut
   clear ov ou ht hcut hb1 c0 c1 c2 kp fp HFF
   go_wp2_with fail
   have h3:=HX.out.2.1.lt
   have hv : (∀ b',(Value.slice av zs.length cv).ownBlock = some b' -> b' ≠ w.heap.size + 1) /\ (∀ b',(Value.slice av zs.length cv).ownBlock = some b' -> b' ≠ p):=⟨fun b' hb => by have:=(HOV.out.lt b' hb).1; omega,fun b' hb => by have:=(HOV.out.lt b' hb).1; omega⟩
   have hu : (∀ b',(Value.slice au ts.length cu).ownBlock = some b' -> b' ≠ w.heap.size + 1) /\ (∀ b',(Value.slice au ts.length cu).ownBlock = some b' -> b' ≠ p):=⟨fun b' hb => by have:=(HOU.out.lt b' hb).1; omega,fun b' hb => by have:=(HOU.out.lt b' hb).1; omega⟩
   have B1:=box_put3 ((box_put3 HM1.out (.bool k) (.slice av zs.length cv) (.slice au ts.length cu)).other ⟨p,0,none⟩ (.int .i64 code) (by simp; omega)) (.bool k) (.slice av zs.length cv) (.slice au ts.length cu)
   have P1 : Box _ p 175 #[.int .i64 code]:=box_far3 ((box_far3 HP1.out hne (.bool k) (.slice av zs.length cv) (.slice au ts.length cu)).set 0 (.int .i64 code)) hne (.bool k) (.slice av zs.length cv) (.slice au ts.length cu)
   have V1:=own_put3' (own_put1 (own_put3' HOV.out _ hv.1 (.bool k) (.slice av zs.length cv) (.slice au ts.length cu)) p hv.2 0 (.int .i64 code)) _ hv.1 (.bool k) (.slice av zs.length cv) (.slice au ts.length cu)
   have U1:=own_put3' (own_put1 (own_put3' HOU.out _ hu.1 (.bool k) (.slice av zs.length cv) (.slice au ts.length cu)) p hu.2 0 (.int .i64 code)) _ hu.1 (.bool k) (.slice av zs.length cv) (.slice au ts.length cu)
   have G1:=grow_put3 (grow_put (grow_put3 (grow_below HBB.out (some p)) (w.heap.size + 1) (.bool k) (.slice av zs.length cv) (.slice au ts.length cu) (.inl (by omega))) p 0 (.int .i64 code) (.inr rfl)) (w.heap.size + 1) (.bool k) (.slice av zs.length cv) (.slice au ts.length cu) (.inl (by omega))
   have hXw:=HX.out.2.2.size
   refine bodyPost_ret (results_cell_row (by rfl) _ _ (w.heap.size + 1) 24 _ (0,0) _ (by rfl) B1 Tryz.underlying24 rfl (by kernel_rfl)) rfl ?_
   refine ⟨k,_,zs,_,ts,code,rfl,owns_base V1 hXw,owns_base U1 hXw,HTT.out,P1,G1,?_⟩
   exact HCC.out.up hXw (by simp [World.setCell])
 · have hE' : (E == 0) = false:=by simp [hE]
   rw [fstE_err e hE]
   have m0 : X.cell? ⟨w.heap.size + 1,0,none⟩ = some (.bool false):=HX.out.2.1.cell 0
   have m1 : X.cell? ⟨w.heap.size + 1,1,none⟩ = some (.slice none 0 0):=HX.out.2.1.cell 1
   have m2 : X.cell? ⟨w.heap.size + 1,2,none⟩ = some (.slice none 0 0):=HX.out.2.1.cell 2
   have n0:=HX.out.2.1.free 0
   have n1:=HX.out.2.1.free 1
   have n2:=HX.out.2.1.free 2
   go_enter Tryz.func105,Tryz.ntmps105
   go_wp2_with fail
   have B1:=box_put3 HX.out.2.1 (.bool false) (.slice none 0 0) (.slice none 0 0)
   have P1:=box_far3 HP.out (show p ≠ w.heap.size + 1 by omega) (.bool false) (.slice none 0 0) (.slice none 0 0)
   have G1:=grow_put3 (grow_below HX.out.2.2 (some p)) (w.heap.size + 1) (.bool false) (.slice none 0 0) (.slice none 0 0) (.inl (by omega))
   refine bodyPost_ret (results_cell_row (by rfl) _ _ (w.heap.size + 1) 24 _ (0,0) _ (by rfl) B1 Tryz.underlying24 rfl (by kernel_rfl)) rfl ?_
   refine ⟨false,_,[],_,[],E,rfl,World.ownsRow_nil _ _ _ _,World.ownsRow_nil _ _ _ _,RTells.err hE,P1,G1,?_⟩
   exact ⟨w.heap.size,Nat.le_refl _,G1.size,fun g hg => by simp [Value.ownBlock] at hg,fun g hg => by simp [Value.ownBlock] at hg⟩
set_option maxRecDepth 100000 in
theorem glook_any (p : Nat) (E : Int) (n : Bool) (a : Option Addr) (ca : Nat) (xs : List Int) (b : Option Addr) (cb : Nat) (ys : List Int) (m : Bool) (c : Option Addr) (cc : Nat) (us : List Int) (d : Option Addr) (cd : Nat) (vs : List Int) (w : World) (hp : Box w p 175 #[.int .i64 E]) (sx : Sl w (.slice a xs.length ca) xs) (sy : Sl w (.slice b ys.length cb) ys) (su : Sl w (.slice c us.length cc) us) (sv : Sl w (.slice d vs.length cd) vs) :
 Calls Tryz.prog 159 #[.pointer (some ⟨p,0,none⟩),.agg #[.bool n,.slice a xs.length ca,.slice b ys.length cb,.bool m,.slice c us.length cc,.slice d vs.length cd]] w fun e w' => e = .returned (.tuple #[]) /\ Box w' p 175 #[.int .i64 (fstE E (gchk n xs ys m us vs))] /\ w.grownBy w' (some p):=by
 have HB:=hid (Box.made w 35 #[.bool n,.slice a xs.length ca,.slice b ys.length cb,.bool m,.slice c us.length cc,.slice d vs.length cd])
 have HW:=hid (alloc_later w (.cells #[.bool n,.slice a xs.length ca,.slice b ys.length cb,.bool m,.slice c us.length cc,.slice d vs.length cd] 35))
 obtain ⟨X,hX⟩ : ∃ X,w.alloc (.cells #[.bool n,.slice a xs.length ca,.slice b ys.length cb,.bool m,.slice c us.length cc,.slice d vs.length cd] 35) = X:=⟨_,rfl⟩
 rw [hX] at HB HW
 have HP:=hid (hp.later HW.out hp.lt)
 have kp : X.cell? ⟨p,0,none⟩ = some (.int .i64 E):=HP.out.cell 0
 have fp:=HP.out.free 0
 have HC:=hid (gcheck_any n _ xs _ ys m _ us _ vs X (sx.later HW.out) (sy.later HW.out) (su.later HW.out) (sv.later HW.out))
 generalize gchk n xs ys m us vs = e at *
 clear sx sy su sv hp
 by_cases hE : E = 0
 · subst hE
   rw [fstE_zero]
   have c0 : X.cell? ⟨w.heap.size,0,none⟩ = some (.bool n):=HB.out.cell 0
   have c1 : X.cell? ⟨w.heap.size,1,none⟩ = some (.slice a xs.length ca):=HB.out.cell 1
   have c2 : X.cell? ⟨w.heap.size,2,none⟩ = some (.slice b ys.length cb):=HB.out.cell 2
   have c3 : X.cell? ⟨w.heap.size,3,none⟩ = some (.bool m):=HB.out.cell 3
   have c4 : X.cell? ⟨w.heap.size,4,none⟩ = some (.slice c us.length cc):=HB.out.cell 4
   have c5 : X.cell? ⟨w.heap.size,5,none⟩ = some (.slice d vs.length cd):=HB.out.cell 5
   go_enter Tryz.func159,Tryz.ntmps159
   go_wp2_with fail
   refine Calls.mono HC.out ?_
   rintro x w1 ⟨rfl,hb1⟩
   have HP1:=hid (HP.out.later hb1 HP.out.lt)
   have kp1 : w1.cell? ⟨p,0,none⟩ = some (.int .i64 0):=HP1.out.cell 0
   have fp1:=HP1.out.free 0
   have HBB:=hid (bt HW.out hb1)
   clear hb1 c0 c1 c2 c3 c4 c5 kp fp HC
   go_wp2_with fail
   go_end0
   exact ⟨rfl,HP1.out.set 0 (.int .i64 e),grow_put (grow_below HBB.out (some p)) p 0 _ (.inr rfl)⟩
 · have hE' : (E == 0) = false:=by simp [hE]
   rw [fstE_err e hE]
   go_enter Tryz.func159,Tryz.ntmps159
   go_wp2_with fail
   go_end0
   exact ⟨rfl,HP.out,grow_below HW.out (some p)⟩
set_option maxRecDepth 100000 in
theorem glookAt1_any (g : Nat) (n : Bool) (a : Option Addr) (ca : Nat) (xs : List Int) (b : Option Addr) (cb : Nat) (ys : List Int) (m : Bool) (c : Option Addr) (cc : Nat) (us : List Int) (d : Option Addr) (cd : Nat) (vs : List Int) (w : World) (hg : Box w g 35 #[.bool n,.slice a xs.length ca,.slice b ys.length cb,.bool m,.slice c us.length cc,.slice d vs.length cd]) (sx : Sl w (.slice a xs.length ca) xs) (sy : Sl w (.slice b ys.length cb) ys) (su : Sl w (.slice c us.length cc) us) (sv : Sl w (.slice d vs.length cd) vs) :
 Calls Tryz.prog 103 #[.slice (some ⟨g,0,none⟩) 1 1] w fun e w' => ∃ p,e = .returned (.pointer (some ⟨p,0,none⟩)) /\ w.heap.size <= p /\ Box w' p 175 #[.int .i64 (gchk n xs ys m us vs)] /\ Below w.heap.size w w':=by
 have HS:=hid (Box.made w 175 #[.int .i64 0])
 have HW:=hid (alloc_later w (.cells #[.int .i64 0] 175))
 have HL : Hid (∀ (V : World) (E : Int),Below w.heap.size w V -> Box V w.heap.size 175 #[.int .i64 E] -> Calls Tryz.prog 159 #[.pointer (some ⟨w.heap.size,0,none⟩),.agg #[.bool n,.slice a xs.length ca,.slice b ys.length cb,.bool m,.slice c us.length cc,.slice d vs.length cd]] V fun e w' => e = .returned (.tuple #[]) /\ Box w' w.heap.size 175 #[.int .i64 (fstE E (gchk n xs ys m us vs))] /\ V.grownBy w' (some w.heap.size)):=fun V E hv hb => glook_any w.heap.size E n a ca xs b cb ys m c cc us d cd vs V hb (sx.later hv) (sy.later hv) (su.later hv) (sv.later hv)
 generalize gchk n xs ys m us vs = E1 at *
 have HG:=hid hg
 have hgl : g < w.heap.size:=hg.lt
 clear hg sx sy su sv
 go_enter Tryz.func103,Tryz.ntmps103
 go_wp2_with fail
 generalize w.alloc (.cells #[.int .i64 0] 175) = X at *
 refine wp_loop_rounds 2 ?_
 rw [rounds_succ]
 have k0 : X.cell? ⟨g,0,none⟩ = some (.bool n):=(HG.out.later (HW.out) hgl).cell 0
 have k1 : X.cell? ⟨g,1,none⟩ = some (.slice a xs.length ca):=(HG.out.later (HW.out) hgl).cell 1
 have k2 : X.cell? ⟨g,2,none⟩ = some (.slice b ys.length cb):=(HG.out.later (HW.out) hgl).cell 2
 have k3 : X.cell? ⟨g,3,none⟩ = some (.bool m):=(HG.out.later (HW.out) hgl).cell 3
 have k4 : X.cell? ⟨g,4,none⟩ = some (.slice c us.length cc):=(HG.out.later (HW.out) hgl).cell 4
 have k5 : X.cell? ⟨g,5,none⟩ = some (.slice d vs.length cd):=(HG.out.later (HW.out) hgl).cell 5
 have HA0:=hid (alloc_later X (.cells #[.bool n,.slice a xs.length ca,.slice b ys.length cb,.bool m,.slice c us.length cc,.slice d vs.length cd] 35))
 go_wp2_with fail
 generalize X.alloc (.cells #[.bool n,.slice a xs.length ca,.slice b ys.length cb,.bool m,.slice c us.length cc,.slice d vs.length cd] 35) = Y0 at *
 refine Calls.mono (HL.out Y0 0 (bt (HW.out) HA0.out) ((HS.out).later HA0.out (HS.out).lt)) ?_
 rintro e z0 ⟨rfl,hz0,hgz0⟩
 have HZ0:=hid hz0
 have HB0 : Hid (Below w.heap.size w z0):=(bt (HW.out) HA0.out).grown hgz0 (bt (HW.out) HA0.out).size (fun q hq => by have e:=Option.some.inj hq; omega)
 clear hz0 hgz0 k0 k1 k2 k3 k4 k5
 go_wp2_with fail
 rw [rounds_succ]
 go_wp2_with fail
 go_ret
 refine ⟨_,rfl,Nat.le_refl _,?_,HB0.out⟩
 have e:=HZ0.out
 rw [fstE_zero] at e
 exact e
set_option maxRecDepth 100000 in
theorem glookAt2_any (g : Nat) (n : Bool) (a : Option Addr) (ca : Nat) (xs : List Int) (b : Option Addr) (cb : Nat) (ys : List Int) (m : Bool) (c : Option Addr) (cc : Nat) (us : List Int) (d : Option Addr) (cd : Nat) (vs : List Int) (n2 : Bool) (a2 : Option Addr) (ca2 : Nat) (xs2 : List Int) (b2' : Option Addr) (cb2 : Nat) (ys2 : List Int) (m2 : Bool) (c2 : Option Addr) (cc2 : Nat) (us2 : List Int) (d2 : Option Addr) (cd2 : Nat) (vs2 : List Int) (w : World) (hg : Box w g 35 #[.bool n,.slice a xs.length ca,.slice b ys.length cb,.bool m,.slice c us.length cc,.slice d vs.length cd,.bool n2,.slice a2 xs2.length ca2,.slice b2' ys2.length cb2,.bool m2,.slice c2 us2.length cc2,.slice d2 vs2.length cd2]) (sx : Sl w (.slice a xs.length ca) xs) (sy : Sl w (.slice b ys.length cb) ys) (su : Sl w (.slice c us.length cc) us) (sv : Sl w (.slice d vs.length cd) vs) (sx2 : Sl w (.slice a2 xs2.length ca2) xs2) (sy2 : Sl w (.slice b2' ys2.length cb2) ys2) (su2 : Sl w (.slice c2 us2.length cc2) us2) (sv2 : Sl w (.slice d2 vs2.length cd2) vs2) :
 Calls Tryz.prog 103 #[.slice (some ⟨g,0,none⟩) 2 2] w fun e w' => ∃ p,e = .returned (.pointer (some ⟨p,0,none⟩)) /\ w.heap.size <= p /\ Box w' p 175 #[.int .i64 (fstE (gchk n xs ys m us vs) (gchk n2 xs2 ys2 m2 us2 vs2))] /\ Below w.heap.size w w':=by
 have HS:=hid (Box.made w 175 #[.int .i64 0])
 have HW:=hid (alloc_later w (.cells #[.int .i64 0] 175))
 have HL : Hid (∀ (V : World) (E : Int),Below w.heap.size w V -> Box V w.heap.size 175 #[.int .i64 E] -> Calls Tryz.prog 159 #[.pointer (some ⟨w.heap.size,0,none⟩),.agg #[.bool n,.slice a xs.length ca,.slice b ys.length cb,.bool m,.slice c us.length cc,.slice d vs.length cd]] V fun e w' => e = .returned (.tuple #[]) /\ Box w' w.heap.size 175 #[.int .i64 (fstE E (gchk n xs ys m us vs))] /\ V.grownBy w' (some w.heap.size)):=fun V E hv hb => glook_any w.heap.size E n a ca xs b cb ys m c cc us d cd vs V hb (sx.later hv) (sy.later hv) (su.later hv) (sv.later hv)
 have HL2 : Hid (∀ (V : World) (E : Int),Below w.heap.size w V -> Box V w.heap.size 175 #[.int .i64 E] -> Calls Tryz.prog 159 #[.pointer (some ⟨w.heap.size,0,none⟩),.agg #[.bool n2,.slice a2 xs2.length ca2,.slice b2' ys2.length cb2,.bool m2,.slice c2 us2.length cc2,.slice d2 vs2.length cd2]] V fun e w' => e = .returned (.tuple #[]) /\ Box w' w.heap.size 175 #[.int .i64 (fstE E (gchk n2 xs2 ys2 m2 us2 vs2))] /\ V.grownBy w' (some w.heap.size)):=fun V E hv hb => glook_any w.heap.size E n2 a2 ca2 xs2 b2' cb2 ys2 m2 c2 cc2 us2 d2 cd2 vs2 V hb (sx2.later hv) (sy2.later hv) (su2.later hv) (sv2.later hv)
 generalize gchk n xs ys m us vs = E1 at *
 generalize gchk n2 xs2 ys2 m2 us2 vs2 = E2 at *
 have HG:=hid hg
 have hgl : g < w.heap.size:=hg.lt
 clear hg sx sy su sv sx2 sy2 su2 sv2
 go_enter Tryz.func103,Tryz.ntmps103
 go_wp2_with fail
 generalize w.alloc (.cells #[.int .i64 0] 175) = X at *
 refine wp_loop_rounds 3 ?_
 rw [rounds_succ]
 have k0 : X.cell? ⟨g,0,none⟩ = some (.bool n):=(HG.out.later (HW.out) hgl).cell 0
 have k1 : X.cell? ⟨g,1,none⟩ = some (.slice a xs.length ca):=(HG.out.later (HW.out) hgl).cell 1
 have k2 : X.cell? ⟨g,2,none⟩ = some (.slice b ys.length cb):=(HG.out.later (HW.out) hgl).cell 2
 have k3 : X.cell? ⟨g,3,none⟩ = some (.bool m):=(HG.out.later (HW.out) hgl).cell 3
 have k4 : X.cell? ⟨g,4,none⟩ = some (.slice c us.length cc):=(HG.out.later (HW.out) hgl).cell 4
 have k5 : X.cell? ⟨g,5,none⟩ = some (.slice d vs.length cd):=(HG.out.later (HW.out) hgl).cell 5
 have HA0:=hid (alloc_later X (.cells #[.bool n,.slice a xs.length ca,.slice b ys.length cb,.bool m,.slice c us.length cc,.slice d vs.length cd] 35))
 go_wp2_with fail
 generalize X.alloc (.cells #[.bool n,.slice a xs.length ca,.slice b ys.length cb,.bool m,.slice c us.length cc,.slice d vs.length cd] 35) = Y0 at *
 refine Calls.mono (HL.out Y0 0 (bt (HW.out) HA0.out) ((HS.out).later HA0.out (HS.out).lt)) ?_
 rintro e z0 ⟨rfl,hz0,hgz0⟩
 have HZ0:=hid hz0
 have HB0 : Hid (Below w.heap.size w z0):=(bt (HW.out) HA0.out).grown hgz0 (bt (HW.out) HA0.out).size (fun q hq => by have e:=Option.some.inj hq; omega)
 clear hz0 hgz0 k0 k1 k2 k3 k4 k5
 go_wp2_with fail
 rw [rounds_succ]
 have k0 : z0.cell? ⟨g,6,none⟩ = some (.bool n2):=(HG.out.later (HB0.out) hgl).cell 6
 have k1 : z0.cell? ⟨g,7,none⟩ = some (.slice a2 xs2.length ca2):=(HG.out.later (HB0.out) hgl).cell 7
 have k2 : z0.cell? ⟨g,8,none⟩ = some (.slice b2' ys2.length cb2):=(HG.out.later (HB0.out) hgl).cell 8
 have k3 : z0.cell? ⟨g,9,none⟩ = some (.bool m2):=(HG.out.later (HB0.out) hgl).cell 9
 have k4 : z0.cell? ⟨g,10,none⟩ = some (.slice c2 us2.length cc2):=(HG.out.later (HB0.out) hgl).cell 10
 have k5 : z0.cell? ⟨g,11,none⟩ = some (.slice d2 vs2.length cd2):=(HG.out.later (HB0.out) hgl).cell 11
 have HA1:=hid (alloc_later z0 (.cells #[.bool n2,.slice a2 xs2.length ca2,.slice b2' ys2.length cb2,.bool m2,.slice c2 us2.length cc2,.slice d2 vs2.length cd2] 35))
 go_wp2_with fail
 generalize z0.alloc (.cells #[.bool n2,.slice a2 xs2.length ca2,.slice b2' ys2.length cb2,.bool m2,.slice c2 us2.length cc2,.slice d2 vs2.length cd2] 35) = Y1 at *
 refine Calls.mono (HL2.out Y1 (fstE 0 E1) (bt (HB0.out) HA1.out) ((HZ0.out).later HA1.out (HZ0.out).lt)) ?_
 rintro e z1 ⟨rfl,hz1,hgz1⟩
 have HZ1:=hid hz1
 have HB1 : Hid (Below w.heap.size w z1):=(bt (HB0.out) HA1.out).grown hgz1 (bt (HB0.out) HA1.out).size (fun q hq => by have e:=Option.some.inj hq; omega)
 clear hz1 hgz1 k0 k1 k2 k3 k4 k5
 go_wp2_with fail
 rw [rounds_succ]
 go_wp2_with fail
 go_ret
 refine ⟨_,rfl,Nat.le_refl _,?_,HB1.out⟩
 have e:=HZ1.out
 rw [fstE_zero] at e
 exact e
theorem box_put6 {U : World} {b t : Nat} {u0 u1 u2 u3 u4 u5 : Value} (h : Box U b t #[u0,u1,u2,u3,u4,u5]) (v0 v1 v2 v3 v4 v5 : Value) : Box ((((((U.setCell ⟨b,0,none⟩ v0).setCell ⟨b,1,none⟩ v1).setCell ⟨b,2,none⟩ v2).setCell ⟨b,3,none⟩ v3).setCell ⟨b,4,none⟩ v4).setCell ⟨b,5,none⟩ v5) b t #[v0,v1,v2,v3,v4,v5]:=(((((h.set 0 v0).set 1 v1).set 2 v2).set 3 v3).set 4 v4).set 5 v5
theorem below_put6 {B : Nat} {x U : World} (h : Below B x U) (b : Nat) (hb : B <= b) (v0 v1 v2 v3 v4 v5 : Value) : Below B x ((((((U.setCell ⟨b,0,none⟩ v0).setCell ⟨b,1,none⟩ v1).setCell ⟨b,2,none⟩ v2).setCell ⟨b,3,none⟩ v3).setCell ⟨b,4,none⟩ v4).setCell ⟨b,5,none⟩ v5) :=
 (((((h.setCell (p:=⟨b,0,none⟩) hb _).setCell (p:=⟨b,1,none⟩) hb _).setCell (p:=⟨b,2,none⟩) hb _).setCell (p:=⟨b,3,none⟩) hb _).setCell (p:=⟨b,4,none⟩) hb _).setCell (p:=⟨b,5,none⟩) hb _
theorem told_run {W : World} {b : Nat} {cs : Array Value} (hb : Box W b 35 cs) (tmps : Array Value) (h4 : tmps.getD 4 undef = .pointer (some ⟨b,0,none⟩)) (hi : (Tryz.prog.info? 35).map (·.size) = some cs.size:=by kernel_rfl) : (results Tryz.f106 tmps).run Tryz.prog W = .ok (.tuple #[.agg cs,tmps.getD 5 undef]) W:=by
 have h:=run_loadVar_row (P:=Tryz.prog) W b 35 35 cs (0,0) _ hb Tryz.underlying35 rfl hi
 rw [results_cell_tmp (by rfl),h4]
 simp [asAddr,h]
set_option maxRecDepth 100000 in
theorem gtold_any (p : Nat) (E : Int) (n : Bool) (a : Option Addr) (ka ca : Nat) (b : Option Addr) (kb cb : Nat) (m : Bool) (c : Option Addr) (kc cc : Nat) (d : Option Addr) (kd cd : Nat) (w : World) (hp : Box w p 175 #[.int .i64 E]) :
 Calls Tryz.prog 106 #[.pointer (some ⟨p,0,none⟩),.agg #[.bool n,.slice a ka ca,.slice b kb cb,.bool m,.slice c kc cc,.slice d kd cd]] w fun e w' => e = .returned (.tuple #[.agg (if E = 0 then #[.bool n,.slice a ka ca,.slice b kb cb,.bool m,.slice c kc cc,.slice d kd cd] else #[.bool false,.slice none 0 0,.slice none 0 0,.bool false,.slice none 0 0,.slice none 0 0]),.int .i64 E]) /\ Below w.heap.size w w':=by
 have HX:=hid (boxes2r w 35 #[.bool n,.slice a ka ca,.slice b kb cb,.bool m,.slice c kc cc,.slice d kd cd] #[.bool false,.slice none 0 0,.slice none 0 0,.bool false,.slice none 0 0,.slice none 0 0])
 obtain ⟨X,hX⟩ : ∃ X,(w.alloc (.cells #[.bool n,.slice a ka ca,.slice b kb cb,.bool m,.slice c kc cc,.slice d kd cd] 35)).alloc (.cells #[.bool false,.slice none 0 0,.slice none 0 0,.bool false,.slice none 0 0,.slice none 0 0] 35) = X:=⟨_,rfl⟩
 rw [hX] at HX
 have HP:=hid (hp.later HX.out.2.2 hp.lt)
 have kp : X.cell? ⟨p,0,none⟩ = some (.int .i64 E):=HP.out.cell 0
 have m0 : X.cell? ⟨w.heap.size + 1,0,none⟩ = some (.bool false):=HX.out.2.1.cell 0
 have m1 : X.cell? ⟨w.heap.size + 1,1,none⟩ = some (.slice none 0 0):=HX.out.2.1.cell 1
 have m2 : X.cell? ⟨w.heap.size + 1,2,none⟩ = some (.slice none 0 0):=HX.out.2.1.cell 2
 have m3 : X.cell? ⟨w.heap.size + 1,3,none⟩ = some (.bool false):=HX.out.2.1.cell 3
 have m4 : X.cell? ⟨w.heap.size + 1,4,none⟩ = some (.slice none 0 0):=HX.out.2.1.cell 4
 have m5 : X.cell? ⟨w.heap.size + 1,5,none⟩ = some (.slice none 0 0):=HX.out.2.1.cell 5
 have n0:=HX.out.2.1.free 0
 have n1:=HX.out.2.1.free 1
 have n2:=HX.out.2.1.free 2
 have n3:=HX.out.2.1.free 3
 have n4:=HX.out.2.1.free 4
 have n5:=HX.out.2.1.free 5
 have hpw : p < w.heap.size:=hp.lt
 clear hp
 by_cases hE : E = 0
 · subst hE
   rw [if_pos rfl]
   have c0 : X.cell? ⟨w.heap.size,0,none⟩ = some (.bool n):=HX.out.1.cell 0
   have c1 : X.cell? ⟨w.heap.size,1,none⟩ = some (.slice a ka ca):=HX.out.1.cell 1
   have c2 : X.cell? ⟨w.heap.size,2,none⟩ = some (.slice b kb cb):=HX.out.1.cell 2
   have c3 : X.cell? ⟨w.heap.size,3,none⟩ = some (.bool m):=HX.out.1.cell 3
   have c4 : X.cell? ⟨w.heap.size,4,none⟩ = some (.slice c kc cc):=HX.out.1.cell 4
   have c5 : X.cell? ⟨w.heap.size,5,none⟩ = some (.slice d kd cd):=HX.out.1.cell 5
   go_enter Tryz.func106,Tryz.ntmps106
   go_wp2_with fail
   have B1:=box_put6 HX.out.2.1 (.bool n) (.slice a ka ca) (.slice b kb cb) (.bool m) (.slice c kc cc) (.slice d kd cd)
   have G1:=below_put6 HX.out.2.2 (w.heap.size + 1) (by omega) (.bool n) (.slice a ka ca) (.slice b kb cb) (.bool m) (.slice c kc cc) (.slice d kd cd)
   clear m0 m1 m2 m3 m4 m5 n0 n1 n2 n3 n4 n5 c0 c1 c2 c3 c4 c5 kp
   generalize (((((X.setCell ⟨w.heap.size + 1,0,none⟩ (.bool n)).setCell ⟨w.heap.size + 1,1,none⟩ (.slice a ka ca)).setCell ⟨w.heap.size + 1,2,none⟩ (.slice b kb cb)).setCell ⟨w.heap.size + 1,3,none⟩ (.bool m)).setCell ⟨w.heap.size + 1,4,none⟩ (.slice c kc cc)).setCell ⟨w.heap.size + 1,5,none⟩ (.slice d kd cd) = W at *
   exact bodyPost_ret (told_run B1 _ rfl) rfl ⟨rfl,G1⟩
 · have hE' : (E == 0) = false:=by simp [hE]
   rw [if_neg hE]
   have hne : p ≠ w.heap.size + 1:=by omega
   go_enter Tryz.func106,Tryz.ntmps106
   go_wp2_with fail
   go_region
   all_goals
    go_wp2_with fail
    have B1:=box_put6 HX.out.2.1 (.bool false) (.slice none 0 0) (.slice none 0 0) (.bool false) (.slice none 0 0) (.slice none 0 0)
    have G1:=below_put6 HX.out.2.2 (w.heap.size + 1) (by omega) (.bool false) (.slice none 0 0) (.slice none 0 0) (.bool false) (.slice none 0 0) (.slice none 0 0)
    clear m0 m1 m2 m3 m4 m5 n0 n1 n2 n3 n4 n5 kp
    generalize (((((X.setCell ⟨w.heap.size + 1,0,none⟩ (.bool false)).setCell ⟨w.heap.size + 1,1,none⟩ (.slice none 0 0)).setCell ⟨w.heap.size + 1,2,none⟩ (.slice none 0 0)).setCell ⟨w.heap.size + 1,3,none⟩ (.bool false)).setCell ⟨w.heap.size + 1,4,none⟩ (.slice none 0 0)).setCell ⟨w.heap.size + 1,5,none⟩ (.slice none 0 0) = W at *
    have B2 : Box W.drew (w.heap.size + 1) 35 #[.bool false,.slice none 0 0,.slice none 0 0,.bool false,.slice none 0 0,.slice none 0 0]:=B1
    exact bodyPost_ret (told_run B2 _ rfl) rfl ⟨rfl,G1.drew⟩
structure GTells (E : Int) (L : Prop) (q1 q2 : Rat) (n : Bool) (xs ys : List Int) (m : Bool) (us vs : List Int) (code : Int) : Prop where
 wd : Wd xs /\ Wd ys /\ Wd us /\ Wd vs
 bad : E ≠ 0 -> (n = false /\ xs = [] /\ ys = [] /\ m = false /\ us = [] /\ vs = []) /\ code = E
 long : E = 0 -> L -> (n = false /\ xs = [] /\ ys = [] /\ m = false /\ us = [] /\ vs = []) /\ code = 3
 good : E = 0 -> ¬ L -> code = 0 /\ (rchk n xs ys = 0 /\ rq n xs ys = q1) /\ rchk m us vs = 0 /\ rq m us vs = q2
def GTold (w : World) (E : Int) (L : Prop) (q1 q2 : Rat) (x : Ending) (w' : World) : Prop :=
 ∃ n a ca xs b cb ys m c cc us d cd vs code,x = .returned (.tuple #[.agg #[.bool n,.slice a (List.length xs) ca,.slice b (List.length ys) cb,.bool m,.slice c (List.length us) cc,.slice d (List.length vs) cd],.int .i64 code]) /\ (w'.ownsRow w.heap.size 69 1 (.slice a xs.length ca) xs.length (xs.map (Value.int .u32)) /\ w'.ownsRow w.heap.size 69 1 (.slice b ys.length cb) ys.length (ys.map (Value.int .u32)) /\ w'.ownsRow w.heap.size 69 1 (.slice c us.length cc) us.length (us.map (Value.int .u32)) /\ w'.ownsRow w.heap.size 69 1 (.slice d vs.length cd) vs.length (vs.map (Value.int .u32))) /\ GTells E L q1 q2 n xs ys m us vs code /\ Below w.heap.size w w'
theorem gchk_ok {n m : Bool} {xs ys us vs : List Int} (h : gchk n xs ys m us vs = 0) : rchk n xs ys = 0 /\ rchk m us vs = 0:=by
 unfold gchk fstE at h
 by_cases e : rchk n xs ys = 0
 · rw [if_pos e] at h; exact ⟨e,h⟩
 · rw [if_neg e] at h; exact absurd h e
theorem fstE_ok {E e : Int} (h : fstE E e = 0) : E = 0 /\ e = 0:=by
 unfold fstE at h
 by_cases c : E = 0
 · rw [if_pos c] at h; exact ⟨c,h⟩
 · rw [if_neg c] at h; exact absurd h c
theorem own_put6 {w : World} {base e n : Nat} {v : Value} {xs : List Value} (h : w.ownsRow base e 1 v n xs) (b : Nat) (hb : ∀ g,v.ownBlock = some g -> g ≠ b) (u0 u1 u2 u3 u4 u5 : Value) : ((((((w.setCell ⟨b,0,none⟩ u0).setCell ⟨b,1,none⟩ u1).setCell ⟨b,2,none⟩ u2).setCell ⟨b,3,none⟩ u3).setCell ⟨b,4,none⟩ u4).setCell ⟨b,5,none⟩ u5).ownsRow base e 1 v n xs :=
 own_put1 (own_put1 (own_put1 (own_put3' h b hb u0 u1 u2) b hb 3 u3) b hb 4 u4) b hb 5 u5
theorem gres_run {fn : Func} {W : World} {b q u : Nat} {cs : Array Value} (hr : fn.results = #[.cell q 35,.tmp u]) (hb : Box W b 35 cs) (tmps : Array Value) (h4 : tmps.getD q undef = .pointer (some ⟨b,0,none⟩)) (hi : (Tryz.prog.info? 35).map (·.size) = some cs.size:=by kernel_rfl) : (results fn tmps).run Tryz.prog W = .ok (.tuple #[.agg cs,tmps.getD u undef]) W:=by
 have h:=run_loadVar_row (P:=Tryz.prog) W b 35 35 cs (0,0) _ hb Tryz.underlying35 rfl hi
 rw [results_cell_tmp hr,h4]
 simp [asAddr,h]
theorem gtwo {E e1 e2 : Int} {q1 q2 : Rat} {n m : Bool} {xs ys us vs : List Int} {c1 c2 : Int} (h1 : RTells (fstE E e1) q1 n xs ys c1) (h2 : RTells (fstE c1 e2) q2 m us vs c2) (z1 : E = 0 -> e1 = 0) (z2 : E = 0 -> e2 = 0) :
 (c2 = 0 -> GTells E (rlong q1 \/ rlong q2) q1 q2 n xs ys m us vs c2) /\ (c2 ≠ 0 -> GTells E (rlong q1 \/ rlong q2) q1 q2 false [] [] false [] [] c2):=by
 have w4 : Wd []:=Wd.nil
 by_cases hE : E = 0
 · subst hE
   rw [fstE_zero,z1 rfl] at h1
   rw [z2 rfl] at h2
   by_cases l1 : rlong q1
   · obtain ⟨_,_,_,hc⟩:=h1.long rfl l1
     subst hc
     rw [fstE_err 0 (by decide)] at h2
     obtain ⟨_,_,_,hc2⟩:=h2.bad (by decide)
     subst hc2
     exact ⟨fun h => absurd h (by decide),fun _ => ⟨⟨w4,w4,w4,w4⟩,fun h => absurd rfl h,fun _ _ => ⟨⟨rfl,rfl,rfl,rfl,rfl,rfl⟩,rfl⟩,fun _ h => absurd (.inl l1) h⟩⟩
   · obtain ⟨hc,hk1,hv1⟩:=h1.good rfl l1
     subst hc
     rw [fstE_zero] at h2
     by_cases l2 : rlong q2
     · obtain ⟨_,_,_,hc2⟩:=h2.long rfl l2
       subst hc2
       exact ⟨fun h => absurd h (by decide),fun _ => ⟨⟨w4,w4,w4,w4⟩,fun h => absurd rfl h,fun _ _ => ⟨⟨rfl,rfl,rfl,rfl,rfl,rfl⟩,rfl⟩,fun _ h => absurd (.inr l2) h⟩⟩
     · obtain ⟨hc2,hk2,hv2⟩:=h2.good rfl l2
       subst hc2
       exact ⟨fun _ => ⟨⟨h1.wx,h1.wy,h2.wx,h2.wy⟩,fun h => absurd rfl h,fun _ h => absurd h (by rintro (h | h); exact l1 h; exact l2 h),fun _ _ => ⟨rfl,⟨hk1,hv1⟩,hk2,hv2⟩⟩,fun h => absurd rfl h⟩
 · rw [fstE_err _ hE] at h1
   obtain ⟨_,_,_,hc⟩:=h1.bad hE
   subst hc
   rw [fstE_err _ hE] at h2
   obtain ⟨_,_,_,hc2⟩:=h2.bad hE
   subst hc2
   exact ⟨fun h => absurd h hE,fun _ => ⟨⟨w4,w4,w4,w4⟩,fun _ => ⟨⟨rfl,rfl,rfl,rfl,rfl,rfl⟩,rfl⟩,fun h => absurd h hE,fun h => absurd h hE⟩⟩
theorem rboth0 {n m : Bool} {xs ys us vs : List Int} (h : rchk n xs ys = 0) (g : rchk m us vs = 0) : rboth n xs ys m us vs = 0:=rboth_good h g
structure GInv (w : World) (p : Nat) (E : Int) (l : List (Nat × Nat × Array Value)) (V : World) : Prop where
 err : Box V p 175 #[.int .i64 E]
 grown : w.grownBy V (some p)
 box : ∀ x ∈ l,Box V x.1 x.2.1 x.2.2 /\ x.1 ≠ p
theorem GInv.drew {w V : World} {p : Nat} {E : Int} {l : List (Nat × Nat × Array Value)} (h : GInv w p E l V) : GInv w p E l V.drew:=⟨h.err,⟨h.grown.os,h.grown.tape,h.grown.output,h.grown.size,h.grown.block⟩,h.box⟩
theorem GInv.step {w V V' : World} {p : Nat} {E code : Int} {l : List (Nat × Nat × Array Value)} (h : GInv w p E l V) (hp : Box V' p 175 #[.int .i64 code]) (hg : V.grownBy V' (some p)) : GInv w p code l V' :=
 ⟨hp,grow_trans h.grown hg,fun x hx => ⟨(h.box x hx).1.kept' hg (fun e => (h.box x hx).2 (Option.some.inj e)),(h.box x hx).2⟩⟩
theorem GInv.alloc {w V : World} {p : Nat} {E : Int} {l : List (Nat × Nat × Array Value)} (h : GInv w p E l V) (ob : Obj) : GInv w p E l (V.alloc ob) :=
 ⟨h.err.later (alloc_later V ob) h.err.lt,grow_trans h.grown (World.grownBy_alloc V ob (some p)),fun x hx => ⟨(h.box x hx).1.later (alloc_later V ob) (h.box x hx).1.lt,(h.box x hx).2⟩⟩
structure GRow (V : World) (base : Nat) (n : Bool) (v : Value) (xs : List Int) (u : Value) (ys : List Int) : Prop where
 ov : V.ownsRow base 69 1 v xs.length (xs.map (Value.int .u32))
 ou : V.ownsRow base 69 1 u ys.length (ys.map (Value.int .u32))
theorem GRow.step {V V' : World} {base p : Nat} {n : Bool} {v u : Value} {xs ys : List Int} (h : GRow V base n v xs u ys) (hp : p < base) (hg : V.grownBy V' (some p)) : GRow V' base n v xs u ys:=by
 have hk : ∀ (x : Value),(∀ g,x.ownBlock = some g -> base <= g) -> x.ownBlock = none \/ x.ownBlock ≠ some p:=fun x h1 => by
  cases e : x.ownBlock with
  | none => exact .inl rfl
  | some g => right; intro h; have e2:=Option.some.inj h; have:=h1 g e; omega
 exact ⟨World.ownsRow.kept h.ov hg (hk _ (fun g hg => (h.ov.lt g hg).1)),World.ownsRow.kept h.ou hg (hk _ (fun g hg => (h.ou.lt g hg).1))⟩
theorem GRow.sl {V : World} {base : Nat} {n : Bool} {v u : Value} {xs ys : List Int} (h : GRow V base n v xs u ys) (wx : Wd xs) (wy : Wd ys) : Sl V v xs /\ Sl V u ys:=⟨Sl.own h.ov wx,Sl.own h.ou wy⟩
theorem cells6 {W : World} {b t : Nat} {u0 u1 u2 u3 u4 u5 : Value} (h : Box W b t #[u0,u1,u2,u3,u4,u5]) : W.cell? ⟨b,0,none⟩ = some u0 /\ W.cell? ⟨b,1,none⟩ = some u1 /\ W.cell? ⟨b,2,none⟩ = some u2 /\ W.cell? ⟨b,3,none⟩ = some u3 /\ W.cell? ⟨b,4,none⟩ = some u4 /\ W.cell? ⟨b,5,none⟩ = some u5 :=
 ⟨h.cell 0,h.cell 1,h.cell 2,h.cell 3,h.cell 4,h.cell 5⟩
def Kp (v u : Value) : Prop:=v.ownBlock = none \/ v.ownBlock ≠ u.ownBlock
theorem Kp.far {v u : Value} {a b c d : Nat} (h : Within v a b) (g : Within u c d) (hd : b <= c \/ d <= a) : Kp v u:=by
 cases e : v.ownBlock with
 | none => exact .inl e
 | some k =>
  refine .inr ?_
  intro f
  rw [e] at f
  have h1:=h k e
  have h2:=g k f.symm
  omega
theorem kg_within {w : World} {base n : Nat} {v : Value} {xs : List Value} (h : w.ownsRow base 69 1 v n xs) : Within v base w.heap.size:=fun g hg => h.lt g hg
def Kp4 (u v p q : Value) : Prop:=Kp u v /\ Kp p q /\ Kp u p /\ Kp u q /\ Kp v p /\ Kp v q
theorem kown_put1 {w : World} {base e n b : Nat} {v : Value} {xs : List Value} (h : w.ownsRow base e 1 v n xs) (hb : ∀ g,v.ownBlock = some g -> g ≠ b) (j : Nat) (u : Value) : (w.setCell ⟨b,j,none⟩ u).ownsRow base e 1 v n xs:=by
 refine ⟨h.1,h.2.imp id ?_⟩
 rintro ⟨g,cap,cur,rfl,hbg,hg,h1,h2,h3,h4⟩
 refine ⟨g,cap,cur,rfl,hbg,?_,h1,h2,h3,h4⟩
 rw [Below.heap_setCell w ⟨b,j,none⟩ u g (hb g rfl)]
 exact hg
set_option maxRecDepth 100000 in
theorem rmake_e1 (n : Bool) (a : Option Addr) (ca : Nat) (xs : List Int) (m : Bool) (b : Option Addr) (cb : Nat) (ys : List Int) (w : World) (h : Sl w (.slice a xs.length ca) xs) (g : Sl w (.slice b ys.length cb) ys) (lx : xs.length <= 281474976710656) (ly : ys.length <= 281474976710656) (hx : wchk n xs ≠ 0) (q : Rat) :
 Calls Tryz.prog 289 #[.agg #[.bool n,.slice a xs.length ca],.agg #[.bool m,.slice b ys.length cb]] w (RToldA w (wchk n xs) q):=by
 have HB : Hid (Below w.heap.size w (((w.alloc (.cells #[.bool n,.slice a xs.length ca] 152)).alloc (.cells #[.bool m,.slice b ys.length cb] 152)).alloc (.cells #[.bool false,.slice none 0 0,.slice none 0 0] 24))):=bt (bt (alloc_later _ _) (alloc_later _ _)) (alloc_later _ _)
 have HZ : Hid (Box (((w.alloc (.cells #[.bool n,.slice a xs.length ca] 152)).alloc (.cells #[.bool m,.slice b ys.length cb] 152)).alloc (.cells #[.bool false,.slice none 0 0,.slice none 0 0] 24)) (w.heap.size + 1 + 1) 24 #[.bool false,.slice none 0 0,.slice none 0 0]):=by
  have e:=Box.made ((w.alloc (.cells #[.bool n,.slice a xs.length ca] 152)).alloc (.cells #[.bool m,.slice b ys.length cb] 152)) 24 #[.bool false,.slice none 0 0,.slice none 0 0]
  simp at e
  exact e
 have HN : Hid (Box (((w.alloc (.cells #[.bool n,.slice a xs.length ca] 152)).alloc (.cells #[.bool m,.slice b ys.length cb] 152)).alloc (.cells #[.bool false,.slice none 0 0,.slice none 0 0] 24)) w.heap.size 152 #[.bool n,.slice a xs.length ca]):=Box.later (Box.later (Box.made w _ _) (alloc_later _ _) (by simp)) (alloc_later _ _) (by simp; omega)
 have HM : Hid (Box (((w.alloc (.cells #[.bool n,.slice a xs.length ca] 152)).alloc (.cells #[.bool m,.slice b ys.length cb] 152)).alloc (.cells #[.bool false,.slice none 0 0,.slice none 0 0] 24)) (w.heap.size + 1) 152 #[.bool m,.slice b ys.length cb]):=by
  have e:=Box.later (Box.made (w.alloc (.cells #[.bool n,.slice a xs.length ca] 152)) 152 #[.bool m,.slice b ys.length cb]) (alloc_later ((w.alloc (.cells #[.bool n,.slice a xs.length ca] 152)).alloc (.cells #[.bool m,.slice b ys.length cb] 152)) (.cells #[.bool false,.slice none 0 0,.slice none 0 0] 24)) (by simp)
  simp at e
  exact e
 have HS:=hid (And.intro (h.later HB.out) (g.later HB.out))
 have HXS : Hid (w.heap.size + 1 + 1 < (((w.alloc (.cells #[.bool n,.slice a xs.length ca] 152)).alloc (.cells #[.bool m,.slice b ys.length cb] 152)).alloc (.cells #[.bool false,.slice none 0 0,.slice none 0 0] 24)).heap.size):=HZ.out.lt
 have HC1:=hid (wcheck_any n _ xs _ HS.out.1 lx)
 obtain ⟨e1,he1⟩ : ∃ e1,wchk n xs = e1:=⟨_,rfl⟩
 rw [he1] at HC1 hx ⊢
 have hx' : (e1 == 0) = false:=beq_eq_false_iff_ne.2 hx
 have HE:=hid hx
 clear he1 hx
 clear h g
 go_enter Tryz.func289,Tryz.ntmps289
 go_wp2_with fail
 refine Calls.mono HC1.out ?_
 generalize (((w.alloc (.cells #[.bool n,.slice a xs.length ca] 152)).alloc (.cells #[.bool m,.slice b ys.length cb] 152)).alloc (.cells #[.bool false,.slice none 0 0,.slice none 0 0] 24)) = X at *
 rintro e w1 ⟨rfl,hb1⟩
 have HB1:=hid hb1
 clear hb1 HC1
 obtain ⟨y0,y1,y2,f0,f1,f2⟩:=res_box3 HZ.out HB1.out
 have HBN:=hid (below_put3 (bt HB.out HB1.out) (w.heap.size + 1 + 1) (by omega) (.bool false) (.slice none 0 0) (.slice none 0 0))
 clear HN HM HZ HS
 go_wp2_with fail
 refine bodyPost_ret (v:=.tuple #[.agg #[.bool false,.slice none 0 0,.slice none 0 0],.int .i64 e1]) (by simp [results,Tryz.results289,go_sem,y0,y1,y2]) rfl ?_
 exact ⟨false,_,[],_,[],_,rfl,World.ownsRow_nil _ _ _ _,World.ownsRow_nil _ _ _ _,RTells.err HE.out,HBN.out,⟨w.heap.size,Nat.le_refl _,HBN.out.size,fun g hg => by simp [Value.ownBlock] at hg,fun g hg => by simp [Value.ownBlock] at hg⟩⟩
set_option maxRecDepth 100000 in
theorem rmake_e2 (n : Bool) (a : Option Addr) (ca : Nat) (xs : List Int) (m : Bool) (b : Option Addr) (cb : Nat) (ys : List Int) (w : World) (h : Sl w (.slice a xs.length ca) xs) (g : Sl w (.slice b ys.length cb) ys) (lx : xs.length <= 281474976710656) (ly : ys.length <= 281474976710656) (hx : wchk n xs = 0) (hy : wchk m ys ≠ 0) (q : Rat) :
 Calls Tryz.prog 289 #[.agg #[.bool n,.slice a xs.length ca],.agg #[.bool m,.slice b ys.length cb]] w (RToldA w (wchk m ys) q):=by
 have HB : Hid (Below w.heap.size w (((w.alloc (.cells #[.bool n,.slice a xs.length ca] 152)).alloc (.cells #[.bool m,.slice b ys.length cb] 152)).alloc (.cells #[.bool false,.slice none 0 0,.slice none 0 0] 24))):=bt (bt (alloc_later _ _) (alloc_later _ _)) (alloc_later _ _)
 have HZ : Hid (Box (((w.alloc (.cells #[.bool n,.slice a xs.length ca] 152)).alloc (.cells #[.bool m,.slice b ys.length cb] 152)).alloc (.cells #[.bool false,.slice none 0 0,.slice none 0 0] 24)) (w.heap.size + 1 + 1) 24 #[.bool false,.slice none 0 0,.slice none 0 0]):=by
  have e:=Box.made ((w.alloc (.cells #[.bool n,.slice a xs.length ca] 152)).alloc (.cells #[.bool m,.slice b ys.length cb] 152)) 24 #[.bool false,.slice none 0 0,.slice none 0 0]
  simp at e
  exact e
 have HN : Hid (Box (((w.alloc (.cells #[.bool n,.slice a xs.length ca] 152)).alloc (.cells #[.bool m,.slice b ys.length cb] 152)).alloc (.cells #[.bool false,.slice none 0 0,.slice none 0 0] 24)) w.heap.size 152 #[.bool n,.slice a xs.length ca]):=Box.later (Box.later (Box.made w _ _) (alloc_later _ _) (by simp)) (alloc_later _ _) (by simp; omega)
 have HM : Hid (Box (((w.alloc (.cells #[.bool n,.slice a xs.length ca] 152)).alloc (.cells #[.bool m,.slice b ys.length cb] 152)).alloc (.cells #[.bool false,.slice none 0 0,.slice none 0 0] 24)) (w.heap.size + 1) 152 #[.bool m,.slice b ys.length cb]):=by
  have e:=Box.later (Box.made (w.alloc (.cells #[.bool n,.slice a xs.length ca] 152)) 152 #[.bool m,.slice b ys.length cb]) (alloc_later ((w.alloc (.cells #[.bool n,.slice a xs.length ca] 152)).alloc (.cells #[.bool m,.slice b ys.length cb] 152)) (.cells #[.bool false,.slice none 0 0,.slice none 0 0] 24)) (by simp)
  simp at e
  exact e
 have HS:=hid (And.intro (h.later HB.out) (g.later HB.out))
 have HXS : Hid (w.heap.size + 1 + 1 < (((w.alloc (.cells #[.bool n,.slice a xs.length ca] 152)).alloc (.cells #[.bool m,.slice b ys.length cb] 152)).alloc (.cells #[.bool false,.slice none 0 0,.slice none 0 0] 24)).heap.size):=HZ.out.lt
 have HC1:=hid (wcheck_any n _ xs _ HS.out.1 lx)
 rw [hx] at HC1
 obtain ⟨e1,he1⟩ : ∃ e1,wchk m ys = e1:=⟨_,rfl⟩
 have HC2:=hid (fun ww (hb : Below _ (((w.alloc (.cells #[.bool n,.slice a xs.length ca] 152)).alloc (.cells #[.bool m,.slice b ys.length cb] 152)).alloc (.cells #[.bool false,.slice none 0 0,.slice none 0 0] 24)) ww) => wcheck_any m _ ys ww (HS.out.2.later hb) ly)
 rw [he1] at HC2 hy ⊢
 have hy' : (e1 == 0) = false:=beq_eq_false_iff_ne.2 hy
 have HE:=hid hy
 clear he1 hy hx
 clear h g
 go_enter Tryz.func289,Tryz.ntmps289
 go_wp2_with fail
 refine Calls.mono HC1.out ?_
 generalize (((w.alloc (.cells #[.bool n,.slice a xs.length ca] 152)).alloc (.cells #[.bool m,.slice b ys.length cb] 152)).alloc (.cells #[.bool false,.slice none 0 0,.slice none 0 0] 24)) = X at *
 rintro e w1 ⟨rfl,hb1⟩
 have HB1:=hid hb1
 clear hb1 HC1
 have HC:=hid (HC2.out w1 HB1.out)
 obtain ⟨q0,q1,_,_⟩:=(HM.out.later HB1.out HM.out.lt).c2
 clear HC2
 go_wp2_with fail
 refine Calls.mono HC.out ?_
 rintro e w2 ⟨rfl,hb2⟩
 have HB2:=hid (bt HB1.out hb2)
 clear hb2 HC q0 q1
 obtain ⟨y0,y1,y2,f0,f1,f2⟩:=res_box3 HZ.out HB2.out
 have HBN:=hid (below_put3 (bt HB.out HB2.out) (w.heap.size + 1 + 1) (by omega) (.bool false) (.slice none 0 0) (.slice none 0 0))
 clear HN HM HZ HS
 go_wp2_with fail
 refine bodyPost_ret (v:=.tuple #[.agg #[.bool false,.slice none 0 0,.slice none 0 0],.int .i64 e1]) (by simp [results,Tryz.results289,go_sem,y0,y1,y2]) rfl ?_
 exact ⟨false,_,[],_,[],_,rfl,World.ownsRow_nil _ _ _ _,World.ownsRow_nil _ _ _ _,RTells.err HE.out,HBN.out,⟨w.heap.size,Nat.le_refl _,HBN.out.size,fun g hg => by simp [Value.ownBlock] at hg,fun g hg => by simp [Value.ownBlock] at hg⟩⟩
set_option maxRecDepth 100000 in
theorem rmake_z (n : Bool) (a : Option Addr) (ca : Nat) (xs : List Int) (m : Bool) (b : Option Addr) (cb : Nat) (ys : List Int) (w : World) (h : Sl w (.slice a xs.length ca) xs) (g : Sl w (.slice b ys.length cb) ys) (lx : xs.length <= 281474976710656) (ly : ys.length <= 281474976710656) (hx : wchk n xs = 0) (hy : wchk m ys = 0) (h0 : ys.length = 0) (q : Rat) :
 Calls Tryz.prog 289 #[.agg #[.bool n,.slice a xs.length ca],.agg #[.bool m,.slice b ys.length cb]] w (RToldA w 7 q):=by
 have HB : Hid (Below w.heap.size w (((w.alloc (.cells #[.bool n,.slice a xs.length ca] 152)).alloc (.cells #[.bool m,.slice b ys.length cb] 152)).alloc (.cells #[.bool false,.slice none 0 0,.slice none 0 0] 24))):=bt (bt (alloc_later _ _) (alloc_later _ _)) (alloc_later _ _)
 have HZ : Hid (Box (((w.alloc (.cells #[.bool n,.slice a xs.length ca] 152)).alloc (.cells #[.bool m,.slice b ys.length cb] 152)).alloc (.cells #[.bool false,.slice none 0 0,.slice none 0 0] 24)) (w.heap.size + 1 + 1) 24 #[.bool false,.slice none 0 0,.slice none 0 0]):=by
  have e:=Box.made ((w.alloc (.cells #[.bool n,.slice a xs.length ca] 152)).alloc (.cells #[.bool m,.slice b ys.length cb] 152)) 24 #[.bool false,.slice none 0 0,.slice none 0 0]
  simp at e
  exact e
 have HN : Hid (Box (((w.alloc (.cells #[.bool n,.slice a xs.length ca] 152)).alloc (.cells #[.bool m,.slice b ys.length cb] 152)).alloc (.cells #[.bool false,.slice none 0 0,.slice none 0 0] 24)) w.heap.size 152 #[.bool n,.slice a xs.length ca]):=Box.later (Box.later (Box.made w _ _) (alloc_later _ _) (by simp)) (alloc_later _ _) (by simp; omega)
 have HM : Hid (Box (((w.alloc (.cells #[.bool n,.slice a xs.length ca] 152)).alloc (.cells #[.bool m,.slice b ys.length cb] 152)).alloc (.cells #[.bool false,.slice none 0 0,.slice none 0 0] 24)) (w.heap.size + 1) 152 #[.bool m,.slice b ys.length cb]):=by
  have e:=Box.later (Box.made (w.alloc (.cells #[.bool n,.slice a xs.length ca] 152)) 152 #[.bool m,.slice b ys.length cb]) (alloc_later ((w.alloc (.cells #[.bool n,.slice a xs.length ca] 152)).alloc (.cells #[.bool m,.slice b ys.length cb] 152)) (.cells #[.bool false,.slice none 0 0,.slice none 0 0] 24)) (by simp)
  simp at e
  exact e
 have HS:=hid (And.intro (h.later HB.out) (g.later HB.out))
 have HXS : Hid (w.heap.size + 1 + 1 < (((w.alloc (.cells #[.bool n,.slice a xs.length ca] 152)).alloc (.cells #[.bool m,.slice b ys.length cb] 152)).alloc (.cells #[.bool false,.slice none 0 0,.slice none 0 0] 24)).heap.size):=HZ.out.lt
 have HC1:=hid (wcheck_any n _ xs _ HS.out.1 lx)
 rw [hx] at HC1
 have HC2:=hid (fun ww (hb : Below _ (((w.alloc (.cells #[.bool n,.slice a xs.length ca] 152)).alloc (.cells #[.bool m,.slice b ys.length cb] 152)).alloc (.cells #[.bool false,.slice none 0 0,.slice none 0 0] 24)) ww) => wcheck_any m _ ys ww (HS.out.2.later hb) ly)
 rw [hy] at HC2
 have h0' : ((ys.length : Int) == 0) = true:=by rw [h0]; rfl
 have HE : Hid ((7 : Int) ≠ 0):=by show _ ≠ _; omega
 clear hx hy h0
 clear h g
 go_enter Tryz.func289,Tryz.ntmps289
 go_wp2_with fail
 refine Calls.mono HC1.out ?_
 generalize (((w.alloc (.cells #[.bool n,.slice a xs.length ca] 152)).alloc (.cells #[.bool m,.slice b ys.length cb] 152)).alloc (.cells #[.bool false,.slice none 0 0,.slice none 0 0] 24)) = X at *
 rintro e w1 ⟨rfl,hb1⟩
 have HB1:=hid hb1
 clear hb1 HC1
 have HC:=hid (HC2.out w1 HB1.out)
 obtain ⟨q0,q1,_,_⟩:=(HM.out.later HB1.out HM.out.lt).c2
 clear HC2
 go_wp2_with fail
 refine Calls.mono HC.out ?_
 rintro e w2 ⟨rfl,hb2⟩
 have HB2:=hid (bt HB1.out hb2)
 clear hb2 HC q0 q1
 obtain ⟨q0,q1,_,_⟩:=(HM.out.later HB2.out HM.out.lt).c2
 obtain ⟨y0,y1,y2,f0,f1,f2⟩:=res_box3 HZ.out HB2.out
 have HBN:=hid (below_put3 (bt HB.out HB2.out) (w.heap.size + 1 + 1) (by omega) (.bool false) (.slice none 0 0) (.slice none 0 0))
 clear HN HM HZ HS
 go_wp2_with fail
 refine bodyPost_ret (v:=.tuple #[.agg #[.bool false,.slice none 0 0,.slice none 0 0],.int .i64 7]) (by simp [results,Tryz.results289,go_sem,y0,y1,y2]) rfl ?_
 exact ⟨false,_,[],_,[],_,rfl,World.ownsRow_nil _ _ _ _,World.ownsRow_nil _ _ _ _,RTells.err HE.out,HBN.out,⟨w.heap.size,Nat.le_refl _,HBN.out.size,fun g hg => by simp [Value.ownBlock] at hg,fun g hg => by simp [Value.ownBlock] at hg⟩⟩
set_option maxRecDepth 100000 in
theorem rmake_ok (n : Bool) (a : Option Addr) (ca : Nat) (xs : List Int) (m : Bool) (b : Option Addr) (cb : Nat) (ys : List Int) (w : World) (h : Sl w (.slice a xs.length ca) xs) (g : Sl w (.slice b ys.length cb) ys) (lx : xs.length <= 281474976710656) (ly : ys.length <= 281474976710656) (hx : wchk n xs = 0) (hy : wchk m ys = 0) (h0 : 0 < ys.length) :
 Calls Tryz.prog 289 #[.agg #[.bool n,.slice a xs.length ca],.agg #[.bool m,.slice b ys.length cb]] w (RToldA w 0 (Rat.divInt (wval n xs) (wval m ys))):=by
 obtain ⟨kx,tx,_⟩:=wchk_ok hx
 obtain ⟨ky,ty,_⟩:=wchk_ok hy
 have wx:=h.wd
 have wy:=g.wd
 have HB : Hid (Below w.heap.size w (((w.alloc (.cells #[.bool n,.slice a xs.length ca] 152)).alloc (.cells #[.bool m,.slice b ys.length cb] 152)).alloc (.cells #[.bool false,.slice none 0 0,.slice none 0 0] 24))):=bt (bt (alloc_later _ _) (alloc_later _ _)) (alloc_later _ _)
 have HZ : Hid (Box (((w.alloc (.cells #[.bool n,.slice a xs.length ca] 152)).alloc (.cells #[.bool m,.slice b ys.length cb] 152)).alloc (.cells #[.bool false,.slice none 0 0,.slice none 0 0] 24)) (w.heap.size + 1 + 1) 24 #[.bool false,.slice none 0 0,.slice none 0 0]):=by
  have e:=Box.made ((w.alloc (.cells #[.bool n,.slice a xs.length ca] 152)).alloc (.cells #[.bool m,.slice b ys.length cb] 152)) 24 #[.bool false,.slice none 0 0,.slice none 0 0]
  simp at e
  exact e
 have HN : Hid (Box (((w.alloc (.cells #[.bool n,.slice a xs.length ca] 152)).alloc (.cells #[.bool m,.slice b ys.length cb] 152)).alloc (.cells #[.bool false,.slice none 0 0,.slice none 0 0] 24)) w.heap.size 152 #[.bool n,.slice a xs.length ca]):=Box.later (Box.later (Box.made w _ _) (alloc_later _ _) (by simp)) (alloc_later _ _) (by simp; omega)
 have HM : Hid (Box (((w.alloc (.cells #[.bool n,.slice a xs.length ca] 152)).alloc (.cells #[.bool m,.slice b ys.length cb] 152)).alloc (.cells #[.bool false,.slice none 0 0,.slice none 0 0] 24)) (w.heap.size + 1) 152 #[.bool m,.slice b ys.length cb]):=by
  have e:=Box.later (Box.made (w.alloc (.cells #[.bool n,.slice a xs.length ca] 152)) 152 #[.bool m,.slice b ys.length cb]) (alloc_later ((w.alloc (.cells #[.bool n,.slice a xs.length ca] 152)).alloc (.cells #[.bool m,.slice b ys.length cb] 152)) (.cells #[.bool false,.slice none 0 0,.slice none 0 0] 24)) (by simp)
  simp at e
  exact e
 have HS:=hid (And.intro (h.later HB.out) (g.later HB.out))
 have HXS : Hid (w.heap.size + 1 + 1 < (((w.alloc (.cells #[.bool n,.slice a xs.length ca] 152)).alloc (.cells #[.bool m,.slice b ys.length cb] 152)).alloc (.cells #[.bool false,.slice none 0 0,.slice none 0 0] 24)).heap.size):=HZ.out.lt
 have HC1:=hid (wcheck_any n _ xs _ HS.out.1 lx)
 rw [hx] at HC1
 have HC2:=hid (fun ww (hb : Below _ (((w.alloc (.cells #[.bool n,.slice a xs.length ca] 152)).alloc (.cells #[.bool m,.slice b ys.length cb] 152)).alloc (.cells #[.bool false,.slice none 0 0,.slice none 0 0] 24)) ww) => wcheck_any m _ ys ww (HS.out.2.later hb) ly)
 rw [hy] at HC2
 have h0' : ((ys.length : Int) == 0) = false:=beq_eq_false_iff_ne.2 (by omega)
 have HPY : Hid (0 < val ys):=by have:=val_pos' wy ty h0; show _ < _; omega
 have HG : Hid (0 < gcdI (val xs) (val ys) /\ gcdI (val xs) (val ys) <= val ys /\ val ys < 4294967296 ^ 2048):=⟨gcd_pos_right HPY.out,gcd_le_right HPY.out,below2048 wy ky⟩
 have HMP:=hid (make_parts (n:=n) (m:=m) (val_nonneg wx) HPY.out)
 have HTT:=hid (And.intro tx ty)
 obtain ⟨s,hs⟩ : ∃ s,(!(n == m)) = s:=⟨_,rfl⟩
 have HSG:=hid (show (n != m) = s from hs)
 clear h g hx hy h0 tx ty
 go_enter Tryz.func289,Tryz.ntmps289
 go_wp2_with fail
 refine Calls.mono HC1.out ?_
 generalize (((w.alloc (.cells #[.bool n,.slice a xs.length ca] 152)).alloc (.cells #[.bool m,.slice b ys.length cb] 152)).alloc (.cells #[.bool false,.slice none 0 0,.slice none 0 0] 24)) = X at *
 rintro e w1 ⟨rfl,hb1⟩
 have HB1:=hid hb1
 clear hb1 HC1
 have HC:=hid (HC2.out w1 HB1.out)
 obtain ⟨q0,q1,_,_⟩:=(HM.out.later HB1.out HM.out.lt).c2
 clear HC2
 go_wp2_with fail
 refine Calls.mono HC.out ?_
 rintro e w2 ⟨rfl,hb2⟩
 have HB2:=hid (bt HB1.out hb2)
 clear hb2 HC q0 q1
 have HK : Hid (∀ V,Below X.heap.size X V -> V.cell? ⟨w.heap.size,0,none⟩ = some (.bool n) /\ V.cell? ⟨w.heap.size,1,none⟩ = some (.slice a xs.length ca) /\ V.cell? ⟨w.heap.size + 1,0,none⟩ = some (.bool m) /\ V.cell? ⟨w.heap.size + 1,1,none⟩ = some (.slice b ys.length cb)):=fun V hb => by
  obtain ⟨p0,p1,_,_⟩:=(HN.out.later hb HN.out.lt).c2
  obtain ⟨q0,q1,_,_⟩:=(HM.out.later hb HM.out.lt).c2
  exact ⟨p0,p1,q0,q1⟩
 have HCM:=hid (told1_at _ HK.out w2 HB2.out (rcommon_any _ _ xs ys w2 (HS.out.1.later HB2.out) (HS.out.2.later HB2.out) (by omega) (by omega) HTT.out.1 HTT.out.2))
 obtain ⟨p0,p1,q0,q1⟩:=HK.out w2 HB2.out
 go_wp2_with fail
 refine Calls.mono HCM.out ?_
 rintro e w3 ⟨a3,z3,c3,rfl,HE3,_,hb3,HS3⟩
 have hb3d:=hb3.drew
 have HO3:=hid (HE3.out.later (Below.drew (Below.refl _ w3)))
 clear HCM HE3 HS3 p0 p1 q0 q1
 have hs0:=HK.out _ hb3d
 have HQX:=hid (fun ww (hv' : Below X.heap.size X ww) (h : One X ww (.slice a3 z3.length c3) z3 (gcdI (val xs) (val ys))) => quot_in _ HK.out hv' (HS.out.1.later hv') (by omega) HTT.out.1 h HG.out.1 (by have:=HG.out; omega))
 have HQY:=hid (fun ww (hv' : Below X.heap.size X ww) (h : One X ww (.slice a3 z3.length c3) z3 (gcdI (val xs) (val ys))) => quot_in _ HK.out hv' (HS.out.2.later hv') (by omega) HTT.out.2 h HG.out.1 (by have:=HG.out; omega))
 have HTL:=hid (fun (ww : World) (hb : Below X.heap.size X ww) (a4 : Option Addr) (z4 : List Int) (c4 : Nat) (a5 : Option Addr) (z5 : List Int) (c5 : Nat) (g1 : One X ww (.slice a4 z4.length c4) z4 (val xs / gcdI (val xs) (val ys))) (g2 : One X ww (.slice a5 z5.length c5) z5 (val ys / gcdI (val xs) (val ys))) (hc : Cut X (.slice a4 z4.length c4) (.slice a5 z5.length c5) ww) => rtold_cut (n:=s) (q:=Rat.divInt (wval n xs) (wval m ys)) _ HK.out hb g1 g2 hc HMP.out.1 HMP.out.2.1 (by rw [<- HSG.out]; exact HMP.out.2.2))
 have hq0 : w.heap.size + 1 + 1 ≠ w.heap.size:=by omega
 have hq1 : w.heap.size + 1 + 1 ≠ w.heap.size + 1:=by omega
 clear HTT HG HPY
 go_wp2_with fail
 go_region_held3 (fun V : World => V.cell? ⟨w.heap.size,0,none⟩ = some (.bool n) /\ V.cell? ⟨w.heap.size,1,none⟩ = some (.slice a xs.length ca) /\ V.cell? ⟨w.heap.size + 1,0,none⟩ = some (.bool m) /\ V.cell? ⟨w.heap.size + 1,1,none⟩ = some (.slice b ys.length cb)) (first | exact hs9 | exact hs5 | exact hs4 | exact hs0 | (simp [hs9,World.cell?_setCell_far,hq0]))
  (first
   | (go_at_call 200; with_reducible refine Calls.mono (HTL.out _ hb5 _ _ _ _ _ _ (HE4.out.1.later HS5.out) HE5.out.1 (cut_two hb3d.size HS4.out.size HS5.out.size HE4.out.2 HE5.out.2)) ?_; rintro e w9 ⟨k9,a8,z8,c8,a9,z9,c9,code,rfl,HE9,hs9,hb9⟩; obtain ⟨y0,y1,y2,f0,f1,f2⟩:=res_box3 HZ.out hb9)
   | (go_at_call 292; with_reducible refine Calls.mono (HQY.out _ hb4 (HO3.out.later HS4.out)) ?_; rintro e w5 ⟨a5,z5,c5,rfl,HE5,hs5,hb5,HS5⟩)
   | (go_at_call 292; with_reducible refine Calls.mono (HQX.out _ hb3d HO3.out) ?_; rintro e w4 ⟨a4,z4,c4,rfl,HE4,hs4,hb4,HS4⟩))
 all_goals
  have HBW:=hid (bt HB.out hb9)
  have HR:=hid HE9.out
  clear HK HQX HQY HTL HE4 HE5 HE9 HS4 HS5 HO3 hs0 hs4 hs5 hs9 hb3 hb3d hb4 hb5 hb9 HMP HSG
  go_wp2_with fail
  refine bodyPost_ret (v:=.tuple #[.agg #[.bool k9,.slice a8 z8.length c8,.slice a9 z9.length c9],.int .i64 code]) (by simp [results,Tryz.results289,go_sem,y0,y1,y2]) rfl ?_
  exact RToldA.put HR.out (w.heap.size + 1 + 1) HXS.out (by omega) HBW.out _ _ _
theorem rmake_any (n : Bool) (a : Option Addr) (ca : Nat) (xs : List Int) (m : Bool) (b : Option Addr) (cb : Nat) (ys : List Int) (w : World) (h : Sl w (.slice a xs.length ca) xs) (g : Sl w (.slice b ys.length cb) ys) (lx : xs.length <= 281474976710656) (ly : ys.length <= 281474976710656) :
 Calls Tryz.prog 289 #[.agg #[.bool n,.slice a xs.length ca],.agg #[.bool m,.slice b ys.length cb]] w (RToldA w (mkErr n xs m ys) (Rat.divInt (wval n xs) (wval m ys))):=by
 unfold mkErr
 by_cases hb : wboth n xs m ys = 0
 · obtain ⟨hx,hy⟩:=wboth_ok hb
   rw [if_pos hb]
   by_cases h0 : ys.length = 0
   · rw [if_pos h0]
     exact rmake_z n a ca xs m b cb ys w h g lx ly hx hy h0 _
   · rw [if_neg h0]
     exact rmake_ok n a ca xs m b cb ys w h g lx ly hx hy (by omega)
 · rw [if_neg hb]
   unfold wboth at hb ⊢
   by_cases hx : wchk n xs = 0
   · rw [if_pos hx] at hb ⊢
     exact rmake_e2 n a ca xs m b cb ys w h g lx ly hx hb _
   · rw [if_neg hx]
     exact rmake_e1 n a ca xs m b cb ys w h g lx ly hx _
theorem small_err {n m : Bool} {zs us : List Int} {y : Int} (l1 : zs.length <= 2) (t1 : Trimmed zs) (s1 : n = false \/ 0 < zs.length) (w2 : Wd us) (l2 : us.length <= 2) (t2 : Trimmed us) (s2 : m = false \/ 0 < us.length) (v2 : wval m us = y) : mkErr n zs m us = if y = 0 then 7 else 0:=by
 unfold mkErr
 rw [wboth_good (wchk_good (by omega) t1 s1) (wchk_good (by omega) t2 s2),if_pos rfl]
 by_cases c : us.length = 0
 · have e0 : val us = 0:=trimmed_zero' c
   have : y = 0:=by rw [<- v2]; cases m <;> simp [wval,e0]
   rw [if_pos c,if_pos this]
 · have e0:=val_pos' w2 t2 (by omega)
   have : ¬ y = 0:=by rw [<- v2]; cases m <;> simp [wval] <;> omega
   rw [if_neg c,if_neg this]
set_option maxRecDepth 100000 in
theorem rsmall_any (x y : Int) (w : World) (x0 : -9223372036854775808 <= x) (x1 : x <= 9223372036854775807) (y0 : -9223372036854775808 <= y) (y1 : y <= 9223372036854775807) :
 Calls Tryz.prog 265 #[.int .i64 x,.int .i64 y] w (RToldA w (if y = 0 then 7 else 0) (Rat.divInt x y)):=by
 have HB : Hid (Below w.heap.size w (w.alloc (.cells #[.bool false,.slice none 0 0,.slice none 0 0] 24))):=alloc_later _ _
 have HZ : Hid (Box (w.alloc (.cells #[.bool false,.slice none 0 0,.slice none 0 0] 24)) w.heap.size 24 #[.bool false,.slice none 0 0,.slice none 0 0]):=Box.made w _ _
 have HO1:=hid (wof_any x (w.alloc (.cells #[.bool false,.slice none 0 0,.slice none 0 0] 24)) x0 x1)
 obtain ⟨E,hE⟩ : ∃ E : Int,(if y = 0 then (7 : Int) else 0) = E:=⟨_,rfl⟩
 rw [hE]
 have HE:=hid hE
 clear hE
 go_enter Tryz.func265,Tryz.ntmps265
 go_wp2_with fail
 refine Calls.mono HO1.out ?_
 generalize (w.alloc (.cells #[.bool false,.slice none 0 0,.slice none 0 0] 24)) = X at *
 rintro e w1 ⟨n1,v1,z1,rfl,o1,wd1,t1,l1,s1,hv1,hb1⟩
 obtain ⟨a1,c1,hs1⟩:=own_slice' o1
 subst hs1
 have HO2:=hid (wof_any y w1 y0 y1)
 have HS1:=hid (Sl.own o1 wd1)
 have HV1:=hid (And.intro t1 (And.intro s1 hv1))
 have HB1:=hid hb1
 clear o1 wd1 t1 s1 hv1 hb1 HO1
 go_wp2_with fail
 refine Calls.mono HO2.out ?_
 rintro e w2 ⟨n2,v2,z2,rfl,o2,wd2,t2,l2,s2,hv2,hb2⟩
 obtain ⟨a2,c2,hs2⟩:=own_slice' o2
 subst hs2
 have HM:=hid (rmake_any n1 a1 c1 z1 n2 a2 c2 z2 w2 (HS1.out.later hb2) (Sl.own o2 wd2) (by omega) (by omega))
 rw [small_err l1 HV1.out.1 HV1.out.2.1 wd2 l2 t2 s2 hv2,HE.out,HV1.out.2.2,hv2] at HM
 have HB2:=hid (bt HB1.out hb2)
 clear o2 wd2 t2 s2 hv2 hb2 HO2 HS1 HV1
 go_wp2_with fail
 refine Calls.mono HM.out ?_
 rintro e w3 ⟨k3,v3,z3,u3,r3,code,rfl,o3,o4,t3,hb3,hc3⟩
 obtain ⟨a3,c3,hs3⟩:=own_slice' o3
 subst hs3
 obtain ⟨a4,c4,hs4⟩:=own_slice' o4
 subst hs4
 have HR:=hid (And.intro o3 (And.intro o4 (And.intro t3 hc3)))
 obtain ⟨y0',y1',y2',f0,f1,f2⟩:=res_box3 HZ.out (bt HB2.out hb3)
 have HBW:=hid (bt HB.out (bt HB2.out hb3))
 have HLT : Hid (w.heap.size < w2.heap.size):=Nat.lt_of_lt_of_le HZ.out.lt HB2.out.size
 clear o3 o4 t3 hb3 hc3 HM
 go_wp2_with fail
 refine bodyPost_ret (v:=.tuple #[.agg #[.bool k3,.slice a3 z3.length c3,.slice a4 r3.length c4],.int .i64 code]) (by simp [results,Tryz.results265,go_sem,y0',y1',y2']) rfl ?_
 exact RToldA.put HR.out w.heap.size HLT.out (Nat.le_refl _) HBW.out _ _ _
set_option maxRecDepth 100000 in
theorem gfractionOf_any (x : Int) (w : World) (x0 : -9223372036854775808 <= x) (x1 : x <= 9223372036854775807) :
 Calls Tryz.prog 234 #[.int .i64 x] w fun e w' => ∃ n v xs u ys code,e = .returned (.agg #[.bool n,v,u]) /\ w'.ownsRow w.heap.size 69 1 v xs.length (xs.map (Value.int .u32)) /\ w'.ownsRow w.heap.size 69 1 u ys.length (ys.map (Value.int .u32)) /\ RTells 0 (Rat.divInt x 1) n xs ys code /\ Below w.heap.size w w' /\ Cut w v u w':=by
 have HX:=hid (Box.made w 24 #[.bool false,.slice none 0 0,.slice none 0 0])
 have HB:=hid (alloc_later w (.cells #[.bool false,.slice none 0 0,.slice none 0 0] 24))
 obtain ⟨X,hX⟩ : ∃ X,w.alloc (.cells #[.bool false,.slice none 0 0,.slice none 0 0] 24) = X:=⟨_,rfl⟩
 rw [hX] at HX HB
 have HS : Hid (∀ V,Calls Tryz.prog 265 #[.int .i64 x,.int .i64 1] V (RToldA V 0 (Rat.divInt x 1))):=hid (fun V => rsmall_any x 1 V x0 x1 (by omega) (by omega))
 go_enter Tryz.func234,Tryz.ntmps234
 go_wp2_with fail
 refine Calls.mono (HS.out _) ?_
 rintro e w1 ⟨k,v,zs,u,ts,code,rfl,ov,ou,ht,hb1,hcut⟩
 obtain ⟨av,cv,rfl⟩:=own_slice' ov
 obtain ⟨au,cu,rfl⟩:=own_slice' ou
 have HM1:=hid (HX.out.later hb1 HX.out.lt)
 have HBB:=hid (bt HB.out hb1)
 have HN:=hid (Box.made w1 24 #[.bool k,.slice av zs.length cv,.slice au ts.length cu])
 have HNB:=hid (alloc_later w1 (.cells #[.bool k,.slice av zs.length cv,.slice au ts.length cu] 24))
 obtain ⟨Z,hZ⟩ : ∃ Z,w1.alloc (.cells #[.bool k,.slice av zs.length cv,.slice au ts.length cu] 24) = Z:=⟨_,rfl⟩
 rw [hZ] at HN HNB
 have HMZ:=hid (HM1.out.later HNB.out HM1.out.lt)
 have HOV:=hid ov
 have HOU:=hid ou
 have HTT:=hid ht
 have HCC:=hid hcut
 clear ov ou ht hcut hb1 HS x0 x1
 have k0 : Z.cell? ⟨w1.heap.size,0,none⟩ = some (.bool k):=HN.out.cell 0
 have k1 : Z.cell? ⟨w1.heap.size,1,none⟩ = some (.slice av zs.length cv):=HN.out.cell 1
 have k2 : Z.cell? ⟨w1.heap.size,2,none⟩ = some (.slice au ts.length cu):=HN.out.cell 2
 have m0 : Z.cell? ⟨w.heap.size,0,none⟩ = some (.bool false):=HMZ.out.cell 0
 have m1 : Z.cell? ⟨w.heap.size,1,none⟩ = some (.slice none 0 0):=HMZ.out.cell 1
 have m2 : Z.cell? ⟨w.heap.size,2,none⟩ = some (.slice none 0 0):=HMZ.out.cell 2
 have f0:=HMZ.out.free 0
 have f1:=HMZ.out.free 1
 have f2:=HMZ.out.free 2
 go_wp2_with fail
 have h3:=HX.out.lt
 have hZs : w1.heap.size <= Z.heap.size:=HNB.out.size
 have hv : ∀ b',(Value.slice av zs.length cv).ownBlock = some b' -> b' ≠ w.heap.size:=fun b' hb => by have:=(HOV.out.lt b' hb).1; omega
 have hu : ∀ b',(Value.slice au ts.length cu).ownBlock = some b' -> b' ≠ w.heap.size:=fun b' hb => by have:=(HOU.out.lt b' hb).1; omega
 have B1:=box_put3 HMZ.out (.bool k) (.slice av zs.length cv) (.slice au ts.length cu)
 have V1:=own_put3' (owns_later HOV.out HNB.out) _ hv (.bool k) (.slice av zs.length cv) (.slice au ts.length cu)
 have U1:=own_put3' (owns_later HOU.out HNB.out) _ hu (.bool k) (.slice av zs.length cv) (.slice au ts.length cu)
 have G1:=below_put3 (bt HBB.out HNB.out) w.heap.size (Nat.le_refl _) (.bool k) (.slice av zs.length cv) (.slice au ts.length cu)
 have hXw : w.heap.size <= X.heap.size:=by omega
 refine bodyPost_ret (results_cell_row (by rfl) _ _ w.heap.size 24 _ (0,0) _ (by rfl) B1 Tryz.underlying24 rfl (by kernel_rfl)) rfl ?_
 exact ⟨k,_,zs,_,ts,code,rfl,owns_base V1 hXw,owns_base U1 hXw,HTT.out,G1,HCC.out.up hXw (by simp [World.setCell]; exact hZs)⟩
set_option maxRecDepth 100000 in
theorem gInt_any (x y : Int) (w : World) (x0 : -9223372036854775808 <= x) (x1 : x <= 9223372036854775807) (y0 : -9223372036854775808 <= y) (y1 : y <= 9223372036854775807) :
 Calls Tryz.prog 202 #[.int .i64 x,.int .i64 y] w fun e w' => ∃ n v xs u ys c1 m v' us u' vs c2,e = .returned (.agg #[.bool n,v,u,.bool m,v',u']) /\ (w'.ownsRow w.heap.size 69 1 v xs.length (xs.map (Value.int .u32)) /\ w'.ownsRow w.heap.size 69 1 u ys.length (ys.map (Value.int .u32)) /\ w'.ownsRow w.heap.size 69 1 v' us.length (us.map (Value.int .u32)) /\ w'.ownsRow w.heap.size 69 1 u' vs.length (vs.map (Value.int .u32))) /\ RTells 0 (Rat.divInt x 1) n xs ys c1 /\ RTells 0 (Rat.divInt y 1) m us vs c2 /\ Below w.heap.size w w':=by
 have HX:=hid (Box.made w 35 #[.bool false,.slice none 0 0,.slice none 0 0,.bool false,.slice none 0 0,.slice none 0 0])
 have HB:=hid (alloc_later w (.cells #[.bool false,.slice none 0 0,.slice none 0 0,.bool false,.slice none 0 0,.slice none 0 0] 35))
 obtain ⟨X,hX⟩ : ∃ X,w.alloc (.cells #[.bool false,.slice none 0 0,.slice none 0 0,.bool false,.slice none 0 0,.slice none 0 0] 35) = X:=⟨_,rfl⟩
 rw [hX] at HX HB
 have H1:=hid (gfractionOf_any x X x0 x1)
 have H2:=hid (fun V => gfractionOf_any y V y0 y1)
 clear x0 x1 y0 y1
 go_enter Tryz.func202,Tryz.ntmps202
 go_wp2_with fail
 refine Calls.mono H1.out ?_
 rintro e w1 ⟨k1,v1,zs1,u1,ts1,code1,rfl,ov1,ou1,ht1,hb1,hcut1⟩
 obtain ⟨av1,cv1,rfl⟩:=own_slice' ov1
 obtain ⟨au1,cu1,rfl⟩:=own_slice' ou1
 have HM1:=hid (HX.out.later hb1 HX.out.lt)
 have HB1:=hid (bt HB.out hb1)
 have HXB:=hid hb1.size
 have HV1:=hid ov1
 have HU1:=hid ou1
 have HT1:=hid ht1
 clear ov1 ou1 ht1 hb1 hcut1 H1
 go_wp2_with fail
 refine Calls.mono (H2.out _) ?_
 rintro e w2 ⟨k2,v2,zs2,u2,ts2,code2,rfl,ov2,ou2,ht2,hb2,hcut2⟩
 obtain ⟨av2,cv2,rfl⟩:=own_slice' ov2
 obtain ⟨au2,cu2,rfl⟩:=own_slice' ou2
 have HM2:=hid (HM1.out.later hb2 HM1.out.lt)
 have HB2:=hid (bt HB1.out hb2)
 have HV1':=hid (owns_later HV1.out hb2)
 have HU1':=hid (owns_later HU1.out hb2)
 have HV2:=hid ov2
 have HU2:=hid ou2
 have HT2:=hid ht2
 clear ov2 ou2 ht2 hb2 hcut2 H2
 have m0 : w2.cell? ⟨w.heap.size,0,none⟩ = some (.bool false):=HM2.out.cell 0
 have f0:=HM2.out.free 0
 have m1 : w2.cell? ⟨w.heap.size,1,none⟩ = some (.slice none 0 0):=HM2.out.cell 1
 have f1:=HM2.out.free 1
 have m2 : w2.cell? ⟨w.heap.size,2,none⟩ = some (.slice none 0 0):=HM2.out.cell 2
 have f2:=HM2.out.free 2
 have m3 : w2.cell? ⟨w.heap.size,3,none⟩ = some (.bool false):=HM2.out.cell 3
 have f3:=HM2.out.free 3
 have m4 : w2.cell? ⟨w.heap.size,4,none⟩ = some (.slice none 0 0):=HM2.out.cell 4
 have f4:=HM2.out.free 4
 have m5 : w2.cell? ⟨w.heap.size,5,none⟩ = some (.slice none 0 0):=HM2.out.cell 5
 have f5:=HM2.out.free 5
 go_wp2_with fail
 have h3:=HX.out.lt
 have h4:=HXB.out
 have B1:=box_put6 HM2.out (.bool k1) (.slice av1 zs1.length cv1) (.slice au1 ts1.length cu1) (.bool k2) (.slice av2 zs2.length cv2) (.slice au2 ts2.length cu2)
 have G1:=below_put6 HB2.out w.heap.size (Nat.le_refl _) (.bool k1) (.slice av1 zs1.length cv1) (.slice au1 ts1.length cu1) (.bool k2) (.slice av2 zs2.length cv2) (.slice au2 ts2.length cu2)
 have P1:=own_put6 HV1'.out w.heap.size (fun g hg => by have:=(HV1'.out.lt g hg).1; omega) (.bool k1) (.slice av1 zs1.length cv1) (.slice au1 ts1.length cu1) (.bool k2) (.slice av2 zs2.length cv2) (.slice au2 ts2.length cu2)
 have P2:=own_put6 HU1'.out w.heap.size (fun g hg => by have:=(HU1'.out.lt g hg).1; omega) (.bool k1) (.slice av1 zs1.length cv1) (.slice au1 ts1.length cu1) (.bool k2) (.slice av2 zs2.length cv2) (.slice au2 ts2.length cu2)
 have P3:=own_put6 HV2.out w.heap.size (fun g hg => by have:=(HV2.out.lt g hg).1; omega) (.bool k1) (.slice av1 zs1.length cv1) (.slice au1 ts1.length cu1) (.bool k2) (.slice av2 zs2.length cv2) (.slice au2 ts2.length cu2)
 have P4:=own_put6 HU2.out w.heap.size (fun g hg => by have:=(HU2.out.lt g hg).1; omega) (.bool k1) (.slice av1 zs1.length cv1) (.slice au1 ts1.length cu1) (.bool k2) (.slice av2 zs2.length cv2) (.slice au2 ts2.length cu2)
 have hX1 : w.heap.size <= X.heap.size:=by omega
 have hX2 : w.heap.size <= w1.heap.size:=by omega
 clear m0 m1 m2 m3 m4 m5 f0 f1 f2 f3 f4 f5
 refine bodyPost_ret (results_cell_row (by rfl) _ _ w.heap.size 35 _ (0,0) _ (by rfl) B1 Tryz.underlying35 rfl (by kernel_rfl)) rfl ?_
 exact ⟨k1,_,zs1,_,ts1,code1,k2,_,zs2,_,ts2,code2,rfl,⟨owns_base P1 hX1,owns_base P2 hX1,owns_base P3 hX2,owns_base P4 hX2⟩,HT1.out,HT2.out,G1⟩
set_option linter.unusedSimpArgs false
theorem rchain2 {W : World} {b t : Nat} {u0 u1 : Value} (h : Box W b t #[u0,u1]) (ht : 69 ≠ t) (v0 v1 : Value) : ∃ A0 A1,W.setCell ⟨b,0,none⟩ v0 = A0 /\ A0.setCell ⟨b,1,none⟩ v1 = A1 /\ (W.cell? ⟨b,0,none⟩ = some u0 /\ A0.cell? ⟨b,1,none⟩ = some u1) /\ (W.frozen? ⟨b,0,none⟩ = false /\ A0.frozen? ⟨b,1,none⟩ = false) /\
 Hid (Box A1 b t #[v0,v1] /\ (∀ p t' vs,p ≠ b -> Box W p t' vs -> Box A1 p t' vs) /\ (∀ base v n xs,W.ownsRow base 69 1 v n xs -> A1.ownsRow base 69 1 v n xs) /\ (∀ B x,B <= b -> Below B x W -> Below B x A1) /\ A1.heap.size = W.heap.size):=by
 have h0 : Box _ b t #[v0,u1]:=h.set 0 v0
 have h1 : Box _ b t #[v0,v1]:=h0.set 1 v1
 exact ⟨_,_,rfl,rfl,⟨h.cell 0,h0.cell 1⟩,⟨h.free 0,h0.free 1⟩,h1,fun p t' vs hne g => ((g.other ⟨b,0,none⟩ v0 hne).other ⟨b,1,none⟩ v1 hne),fun base v n xs g => (by have kk:=own_ne_box g h ht; exact (kown_put1 (kown_put1 g kk 0 v0) kk 1 v1)),fun B x hB g => ((g.setCell (p:=⟨b,0,none⟩) hB v0).setCell (p:=⟨b,1,none⟩) hB v1),by simp [World.setCell]⟩
theorem rchain6 {W : World} {b t : Nat} {u0 u1 u2 u3 u4 u5 : Value} (h : Box W b t #[u0,u1,u2,u3,u4,u5]) (ht : 69 ≠ t) (v0 v1 v2 v3 v4 v5 : Value) : ∃ A0 A1 A2 A3 A4 A5,W.setCell ⟨b,0,none⟩ v0 = A0 /\ A0.setCell ⟨b,1,none⟩ v1 = A1 /\ A1.setCell ⟨b,2,none⟩ v2 = A2 /\ A2.setCell ⟨b,3,none⟩ v3 = A3 /\ A3.setCell ⟨b,4,none⟩ v4 = A4 /\ A4.setCell ⟨b,5,none⟩ v5 = A5 /\ (W.cell? ⟨b,0,none⟩ = some u0 /\ A0.cell? ⟨b,1,none⟩ = some u1 /\ A1.cell? ⟨b,2,none⟩ = some u2 /\ A2.cell? ⟨b,3,none⟩ = some u3 /\ A3.cell? ⟨b,4,none⟩ = some u4 /\ A4.cell? ⟨b,5,none⟩ = some u5) /\ (W.frozen? ⟨b,0,none⟩ = false /\ A0.frozen? ⟨b,1,none⟩ = false /\ A1.frozen? ⟨b,2,none⟩ = false /\ A2.frozen? ⟨b,3,none⟩ = false /\ A3.frozen? ⟨b,4,none⟩ = false /\ A4.frozen? ⟨b,5,none⟩ = false) /\
 Hid (Box A5 b t #[v0,v1,v2,v3,v4,v5] /\ (∀ p t' vs,p ≠ b -> Box W p t' vs -> Box A5 p t' vs) /\ (∀ base v n xs,W.ownsRow base 69 1 v n xs -> A5.ownsRow base 69 1 v n xs) /\ (∀ B x,B <= b -> Below B x W -> Below B x A5) /\ A5.heap.size = W.heap.size):=by
 have h0 : Box _ b t #[v0,u1,u2,u3,u4,u5]:=h.set 0 v0
 have h1 : Box _ b t #[v0,v1,u2,u3,u4,u5]:=h0.set 1 v1
 have h2 : Box _ b t #[v0,v1,v2,u3,u4,u5]:=h1.set 2 v2
 have h3 : Box _ b t #[v0,v1,v2,v3,u4,u5]:=h2.set 3 v3
 have h4 : Box _ b t #[v0,v1,v2,v3,v4,u5]:=h3.set 4 v4
 have h5 : Box _ b t #[v0,v1,v2,v3,v4,v5]:=h4.set 5 v5
 exact ⟨_,_,_,_,_,_,rfl,rfl,rfl,rfl,rfl,rfl,⟨h.cell 0,h0.cell 1,h1.cell 2,h2.cell 3,h3.cell 4,h4.cell 5⟩,⟨h.free 0,h0.free 1,h1.free 2,h2.free 3,h3.free 4,h4.free 5⟩,h5,fun p t' vs hne g => ((((((g.other ⟨b,0,none⟩ v0 hne).other ⟨b,1,none⟩ v1 hne).other ⟨b,2,none⟩ v2 hne).other ⟨b,3,none⟩ v3 hne).other ⟨b,4,none⟩ v4 hne).other ⟨b,5,none⟩ v5 hne),fun base v n xs g => (by have kk:=own_ne_box g h ht; exact (kown_put1 (kown_put1 (kown_put1 (kown_put1 (kown_put1 (kown_put1 g kk 0 v0) kk 1 v1) kk 2 v2) kk 3 v3) kk 4 v4) kk 5 v5)),fun B x hB g => ((((((g.setCell (p:=⟨b,0,none⟩) hB v0).setCell (p:=⟨b,1,none⟩) hB v1).setCell (p:=⟨b,2,none⟩) hB v2).setCell (p:=⟨b,3,none⟩) hB v3).setCell (p:=⟨b,4,none⟩) hB v4).setCell (p:=⟨b,5,none⟩) hB v5),by simp [World.setCell]⟩
theorem rchain12 {W : World} {b t : Nat} {u0 u1 u2 u3 u4 u5 u6 u7 u8 u9 u10 u11 : Value} (h : Box W b t #[u0,u1,u2,u3,u4,u5,u6,u7,u8,u9,u10,u11]) (ht : 69 ≠ t) (v0 v1 v2 v3 v4 v5 v6 v7 v8 v9 v10 v11 : Value) : ∃ A0 A1 A2 A3 A4 A5 A6 A7 A8 A9 A10 A11,W.setCell ⟨b,0,none⟩ v0 = A0 /\ A0.setCell ⟨b,1,none⟩ v1 = A1 /\ A1.setCell ⟨b,2,none⟩ v2 = A2 /\ A2.setCell ⟨b,3,none⟩ v3 = A3 /\ A3.setCell ⟨b,4,none⟩ v4 = A4 /\ A4.setCell ⟨b,5,none⟩ v5 = A5 /\ A5.setCell ⟨b,6,none⟩ v6 = A6 /\ A6.setCell ⟨b,7,none⟩ v7 = A7 /\ A7.setCell ⟨b,8,none⟩ v8 = A8 /\ A8.setCell ⟨b,9,none⟩ v9 = A9 /\ A9.setCell ⟨b,10,none⟩ v10 = A10 /\ A10.setCell ⟨b,11,none⟩ v11 = A11 /\ (W.cell? ⟨b,0,none⟩ = some u0 /\ A0.cell? ⟨b,1,none⟩ = some u1 /\ A1.cell? ⟨b,2,none⟩ = some u2 /\ A2.cell? ⟨b,3,none⟩ = some u3 /\ A3.cell? ⟨b,4,none⟩ = some u4 /\ A4.cell? ⟨b,5,none⟩ = some u5 /\ A5.cell? ⟨b,6,none⟩ = some u6 /\ A6.cell? ⟨b,7,none⟩ = some u7 /\ A7.cell? ⟨b,8,none⟩ = some u8 /\ A8.cell? ⟨b,9,none⟩ = some u9 /\ A9.cell? ⟨b,10,none⟩ = some u10 /\ A10.cell? ⟨b,11,none⟩ = some u11) /\ (W.frozen? ⟨b,0,none⟩ = false /\ A0.frozen? ⟨b,1,none⟩ = false /\ A1.frozen? ⟨b,2,none⟩ = false /\ A2.frozen? ⟨b,3,none⟩ = false /\ A3.frozen? ⟨b,4,none⟩ = false /\ A4.frozen? ⟨b,5,none⟩ = false /\ A5.frozen? ⟨b,6,none⟩ = false /\ A6.frozen? ⟨b,7,none⟩ = false /\ A7.frozen? ⟨b,8,none⟩ = false /\ A8.frozen? ⟨b,9,none⟩ = false /\ A9.frozen? ⟨b,10,none⟩ = false /\ A10.frozen? ⟨b,11,none⟩ = false) /\
 Hid (Box A11 b t #[v0,v1,v2,v3,v4,v5,v6,v7,v8,v9,v10,v11] /\ (∀ p t' vs,p ≠ b -> Box W p t' vs -> Box A11 p t' vs) /\ (∀ base v n xs,W.ownsRow base 69 1 v n xs -> A11.ownsRow base 69 1 v n xs) /\ (∀ B x,B <= b -> Below B x W -> Below B x A11) /\ A11.heap.size = W.heap.size):=by
 have h0 : Box _ b t #[v0,u1,u2,u3,u4,u5,u6,u7,u8,u9,u10,u11]:=h.set 0 v0
 have h1 : Box _ b t #[v0,v1,u2,u3,u4,u5,u6,u7,u8,u9,u10,u11]:=h0.set 1 v1
 have h2 : Box _ b t #[v0,v1,v2,u3,u4,u5,u6,u7,u8,u9,u10,u11]:=h1.set 2 v2
 have h3 : Box _ b t #[v0,v1,v2,v3,u4,u5,u6,u7,u8,u9,u10,u11]:=h2.set 3 v3
 have h4 : Box _ b t #[v0,v1,v2,v3,v4,u5,u6,u7,u8,u9,u10,u11]:=h3.set 4 v4
 have h5 : Box _ b t #[v0,v1,v2,v3,v4,v5,u6,u7,u8,u9,u10,u11]:=h4.set 5 v5
 have h6 : Box _ b t #[v0,v1,v2,v3,v4,v5,v6,u7,u8,u9,u10,u11]:=h5.set 6 v6
 have h7 : Box _ b t #[v0,v1,v2,v3,v4,v5,v6,v7,u8,u9,u10,u11]:=h6.set 7 v7
 have h8 : Box _ b t #[v0,v1,v2,v3,v4,v5,v6,v7,v8,u9,u10,u11]:=h7.set 8 v8
 have h9 : Box _ b t #[v0,v1,v2,v3,v4,v5,v6,v7,v8,v9,u10,u11]:=h8.set 9 v9
 have h10 : Box _ b t #[v0,v1,v2,v3,v4,v5,v6,v7,v8,v9,v10,u11]:=h9.set 10 v10
 have h11 : Box _ b t #[v0,v1,v2,v3,v4,v5,v6,v7,v8,v9,v10,v11]:=h10.set 11 v11
 exact ⟨_,_,_,_,_,_,_,_,_,_,_,_,rfl,rfl,rfl,rfl,rfl,rfl,rfl,rfl,rfl,rfl,rfl,rfl,⟨h.cell 0,h0.cell 1,h1.cell 2,h2.cell 3,h3.cell 4,h4.cell 5,h5.cell 6,h6.cell 7,h7.cell 8,h8.cell 9,h9.cell 10,h10.cell 11⟩,⟨h.free 0,h0.free 1,h1.free 2,h2.free 3,h3.free 4,h4.free 5,h5.free 6,h6.free 7,h7.free 8,h8.free 9,h9.free 10,h10.free 11⟩,h11,fun p t' vs hne g => ((((((((((((g.other ⟨b,0,none⟩ v0 hne).other ⟨b,1,none⟩ v1 hne).other ⟨b,2,none⟩ v2 hne).other ⟨b,3,none⟩ v3 hne).other ⟨b,4,none⟩ v4 hne).other ⟨b,5,none⟩ v5 hne).other ⟨b,6,none⟩ v6 hne).other ⟨b,7,none⟩ v7 hne).other ⟨b,8,none⟩ v8 hne).other ⟨b,9,none⟩ v9 hne).other ⟨b,10,none⟩ v10 hne).other ⟨b,11,none⟩ v11 hne),fun base v n xs g => (by have kk:=own_ne_box g h ht; exact (kown_put1 (kown_put1 (kown_put1 (kown_put1 (kown_put1 (kown_put1 (kown_put1 (kown_put1 (kown_put1 (kown_put1 (kown_put1 (kown_put1 g kk 0 v0) kk 1 v1) kk 2 v2) kk 3 v3) kk 4 v4) kk 5 v5) kk 6 v6) kk 7 v7) kk 8 v8) kk 9 v9) kk 10 v10) kk 11 v11)),fun B x hB g => ((((((((((((g.setCell (p:=⟨b,0,none⟩) hB v0).setCell (p:=⟨b,1,none⟩) hB v1).setCell (p:=⟨b,2,none⟩) hB v2).setCell (p:=⟨b,3,none⟩) hB v3).setCell (p:=⟨b,4,none⟩) hB v4).setCell (p:=⟨b,5,none⟩) hB v5).setCell (p:=⟨b,6,none⟩) hB v6).setCell (p:=⟨b,7,none⟩) hB v7).setCell (p:=⟨b,8,none⟩) hB v8).setCell (p:=⟨b,9,none⟩) hB v9).setCell (p:=⟨b,10,none⟩) hB v10).setCell (p:=⟨b,11,none⟩) hB v11),by simp [World.setCell]⟩
structure G6 where
 n : Bool
 a : Option Addr
 ca : Nat
 xs : List Int
 b : Option Addr
 cb : Nat
 ys : List Int
 m : Bool
 c : Option Addr
 cc : Nat
 us : List Int
 d : Option Addr
 cd : Nat
 vs : List Int
def G6.Ow (g : G6) (V : World) (base : Nat) : Prop:=V.ownsRow base 69 1 (.slice g.a g.xs.length g.ca) g.xs.length (g.xs.map (Value.int .u32)) /\ V.ownsRow base 69 1 (.slice g.b g.ys.length g.cb) g.ys.length (g.ys.map (Value.int .u32)) /\ V.ownsRow base 69 1 (.slice g.c g.us.length g.cc) g.us.length (g.us.map (Value.int .u32)) /\ V.ownsRow base 69 1 (.slice g.d g.vs.length g.cd) g.vs.length (g.vs.map (Value.int .u32))
def G6.Sl4 (g : G6) (V : World) : Prop:=Sl V (.slice g.a g.xs.length g.ca) g.xs /\ Sl V (.slice g.b g.ys.length g.cb) g.ys /\ Sl V (.slice g.c g.us.length g.cc) g.us /\ Sl V (.slice g.d g.vs.length g.cd) g.vs
def G6.Is (g : G6) (q1 q2 : Rat) : Prop:=(rchk g.n g.xs g.ys = 0 /\ rq g.n g.xs g.ys = q1) /\ (rchk g.m g.us g.vs = 0 /\ rq g.m g.us g.vs = q2) /\ Wd g.xs /\ Wd g.ys /\ Wd g.us /\ Wd g.vs
theorem G6.Ow.later {g : G6} {V V' : World} {base : Nat} (h : g.Ow V base) (hb : Below V.heap.size V V') : g.Ow V' base:=⟨owns_later h.1 hb,owns_later h.2.1 hb,owns_later h.2.2.1 hb,owns_later h.2.2.2 hb⟩
theorem G6.Ow.base {g : G6} {V : World} {base base' : Nat} (h : g.Ow V base) (hb : base' <= base) : g.Ow V base':=⟨owns_base h.1 hb,owns_base h.2.1 hb,owns_base h.2.2.1 hb,owns_base h.2.2.2 hb⟩
theorem G6.Sl4.later {g : G6} {V V' : World} (h : g.Sl4 V) (hb : Below V.heap.size V V') : g.Sl4 V':=⟨h.1.later hb,h.2.1.later hb,h.2.2.1.later hb,h.2.2.2.later hb⟩
theorem G6.Ow.sl {g : G6} {V : World} {base : Nat} {q1 q2 : Rat} (h : g.Ow V base) (i : g.Is q1 q2) : g.Sl4 V:=⟨Sl.own h.1 i.2.2.1,Sl.own h.2.1 i.2.2.2.1,Sl.own h.2.2.1 i.2.2.2.2.1,Sl.own h.2.2.2 i.2.2.2.2.2⟩
theorem G6.Is.len {g : G6} {q1 q2 : Rat} (i : g.Is q1 q2) : g.xs.length <= 2048 /\ g.ys.length <= 2048 /\ g.us.length <= 2048 /\ g.vs.length <= 2048:=⟨(rchk_ok i.1.1).1,(rchk_ok i.1.1).2.1,(rchk_ok i.2.1.1).1,(rchk_ok i.2.1.1).2.1⟩
theorem G6.Is.chk {g : G6} {q1 q2 : Rat} (i : g.Is q1 q2) : gchk g.n g.xs g.ys g.m g.us g.vs = 0:=by
 unfold gchk fstE
 rw [if_pos i.1.1,i.2.1.1]
theorem oInt_not (x : Int) (x0 : -9223372036854775808 <= x) (x1 : x <= 9223372036854775807) : ¬ rlong (Rat.divInt x 1):=by
 have h:=fr_num (x:=x) (d:=1) (by decide) (by unfold gcdI; rw [Int.gcd_one_right]; rfl)
 have hl : (9223372036854775808 : Int) < wlim:=by unfold wlim; decide +kernel
 rintro (hh | hh)
 · rw [h.1] at hh; omega
 · rw [h.2] at hh; omega
theorem oInt_any (x y : Int) (w : World) (x0 : -9223372036854775808 <= x) (x1 : x <= 9223372036854775807) (y0 : -9223372036854775808 <= y) (y1 : y <= 9223372036854775807) :
 Calls Tryz.prog 202 #[.int .i64 x,.int .i64 y] w fun e w' => ∃ g : G6,e = .returned (.agg #[.bool g.n,.slice g.a g.xs.length g.ca,.slice g.b g.ys.length g.cb,.bool g.m,.slice g.c g.us.length g.cc,.slice g.d g.vs.length g.cd]) /\ Hid (g.Ow w' w.heap.size) /\ Hid (g.Is (Rat.divInt x 1) (Rat.divInt y 1)) /\ Hid (Below w.heap.size w w'):=by
 refine Calls.mono (gInt_any x y w x0 x1 y0 y1) ?_
 rintro e w' ⟨n,v,xs,u,ys,c1,m,v',us,u',vs,c2,rfl,ho,t1,t2,hb⟩
 obtain ⟨a,ca,rfl⟩:=own_slice' ho.1
 obtain ⟨b,cb,rfl⟩:=own_slice' ho.2.1
 obtain ⟨c,cc,rfl⟩:=own_slice' ho.2.2.1
 obtain ⟨d,cd,rfl⟩:=own_slice' ho.2.2.2
 exact ⟨⟨n,a,ca,xs,b,cb,ys,m,c,cc,us,d,cd,vs⟩,rfl,ho,⟨(t1.good rfl (oInt_not x x0 x1)).2,(t2.good rfl (oInt_not y y0 y1)).2,t1.wx,t1.wy,t2.wx,t2.wy⟩,hb⟩
end Go.Proofs.YtnhmaijmmkplkaaGreatDoor
namespace Go.Proofs.YtnhmaijmmkplkaaGreatDoor
set_option maxHeartbeats 6400000
open Go.ChangeShapes Go.WideShapes Go.ChangeAt Go.RowKit Go.Joins Go.Deep
set_option linter.unusedVariables false
end Go.Proofs.YtnhmaijmmkplkaaGreatDoor
namespace Go.Proofs.YtnhmaijmmkplkaaGreatDoor
set_option maxHeartbeats 6400000
open Go.RowKit
set_option linter.unusedVariables false
set_option linter.unusedSimpArgs false
def G6.ra (g : G6) (j : Nat) : Option Addr:=if j = 0 then g.a else if j = 1 then g.b else if j = 2 then g.c else g.d
def G6.rl (g : G6) (j : Nat) : List Int:=if j = 0 then g.xs else if j = 1 then g.ys else if j = 2 then g.us else g.vs
def G6.rc (g : G6) (j : Nat) : Nat:=if j = 0 then g.ca else if j = 1 then g.cb else if j = 2 then g.cc else g.cd
def G6.row (g : G6) (j : Nat) : Value:=.slice (g.ra j) (g.rl j).length (g.rc j)
def G6.In (g : G6) (lo hi : Nat) : Prop:=Kp4 (.slice g.a g.xs.length g.ca) (.slice g.b g.ys.length g.cb) (.slice g.c g.us.length g.cc) (.slice g.d g.vs.length g.cd) /\ ∀ j,j < 4 -> Within (g.row j) lo hi
theorem G6.four {P : Nat -> Prop} (h0 : P 0) (h1 : P 1) (h2 : P 2) (h3 : P 3) : ∀ j,j < 4 -> P j
 | 0,_ => h0
 | 1,_ => h1
 | 2,_ => h2
 | 3,_ => h3
 | n + 4,h => absurd h (by omega)
theorem G6.in_of {g : G6} {V W W1 : World} (ho : g.Ow V W.heap.size) (h1 : Cut W (.slice g.a g.xs.length g.ca) (.slice g.b g.ys.length g.cb) W1) (h2 : Cut W1 (.slice g.c g.us.length g.cc) (.slice g.d g.vs.length g.cd) V) : g.In W.heap.size V.heap.size:=by
 refine ⟨?_,G6.four (kg_within ho.1) (kg_within ho.2.1) (kg_within ho.2.2.1) (kg_within ho.2.2.2)⟩
 obtain ⟨c,c0,c1,l0,l1⟩:=h1
 obtain ⟨d,d0,d1,m0,m1⟩:=h2
 exact ⟨Kp.far l0 l1 (.inl (Nat.le_refl _)),Kp.far m0 m1 (.inl (Nat.le_refl _)),Kp.far l0 m0 (.inl c1),Kp.far l0 m1 (.inl (by omega)),Kp.far l1 m0 (.inl (Nat.le_refl _)),Kp.far l1 m1 (.inl d0)⟩
theorem gchain6 {W : World} {b t : Nat} {u0 u1 u2 u3 u4 u5 : Value} (h : Box W b t #[u0,u1,u2,u3,u4,u5]) (v0 v1 v2 v3 v4 v5 : Value) : ∃ A0 A1 A2 A3 A4 A5,W.setCell ⟨b,0,none⟩ v0 = A0 /\ A0.setCell ⟨b,1,none⟩ v1 = A1 /\ A1.setCell ⟨b,2,none⟩ v2 = A2 /\ A2.setCell ⟨b,3,none⟩ v3 = A3 /\ A3.setCell ⟨b,4,none⟩ v4 = A4 /\ A4.setCell ⟨b,5,none⟩ v5 = A5 /\ (W.cell? ⟨b,0,none⟩ = some u0 /\ A0.cell? ⟨b,1,none⟩ = some u1 /\ A1.cell? ⟨b,2,none⟩ = some u2 /\ A2.cell? ⟨b,3,none⟩ = some u3 /\ A3.cell? ⟨b,4,none⟩ = some u4 /\ A4.cell? ⟨b,5,none⟩ = some u5) /\ (W.frozen? ⟨b,0,none⟩ = false /\ A0.frozen? ⟨b,1,none⟩ = false /\ A1.frozen? ⟨b,2,none⟩ = false /\ A2.frozen? ⟨b,3,none⟩ = false /\ A3.frozen? ⟨b,4,none⟩ = false /\ A4.frozen? ⟨b,5,none⟩ = false):=by
 have h0 : Box _ b t #[v0,u1,u2,u3,u4,u5]:=h.set 0 v0
 have h1 : Box _ b t #[v0,v1,u2,u3,u4,u5]:=h0.set 1 v1
 have h2 : Box _ b t #[v0,v1,v2,u3,u4,u5]:=h1.set 2 v2
 have h3 : Box _ b t #[v0,v1,v2,v3,u4,u5]:=h2.set 3 v3
 have h4 : Box _ b t #[v0,v1,v2,v3,v4,u5]:=h3.set 4 v4
 exact ⟨_,_,_,_,_,_,rfl,rfl,rfl,rfl,rfl,rfl,⟨h.cell 0,h0.cell 1,h1.cell 2,h2.cell 3,h3.cell 4,h4.cell 5⟩,h.free 0,h0.free 1,h1.free 2,h2.free 3,h3.free 4,h4.free 5⟩
theorem step_append_own_at {P : Program} {ops : Array Oper} {o : Oper} {a : Act} {w : World} {K : Act -> World -> Prop} {Q : Exit -> Act -> World -> Prop} {E : Prop}
 (hg : o.guard = none) (s x : Operand) (t : TypeId) (hop : o.op = Op.call { callee:=Callee.builtin Builtin.append,args:=#[s,x],argTypes:=#[t,t] })
 (base : Nat) (e : TypeId) (i : TypeInfo) (z : Value) (size bytes : Nat) (h1 : P.underlying t = some (.slice e)) (h2 : P.info? e = some i) (h3 : i.zero = some z) (h4 : i.size = size) (h5 : i.bytes = bytes) (h6 : z.cells.size = size) (h7 : 0 < size)
 (v : Value) (n : Nat) (xs : List Value) (hs : a.eval s = v) (hown : w.ownsRow base e size v n xs)
 (ad : Addr) (m c : Nat) (news : List Value) (hx : a.eval x = .slice (some ad) m c) (hn : news.length = m * size) (hc : ∀ j u,news[j]? = some u -> w.cell? (ad.add j) = some u) (h1c : ∀ u ∈ news,u.oneCell' = true)
 (b1 : n + m <= maxLen) (b2 : (n + m) * bytes <= 140737488355328) (hbase : base <= w.heap.size)
 (hK : ∀ v' w',w'.ownsRow base e size v' (n + m) (xs ++ news) -> w.grownBy w' v.ownBlock -> (v'.ownBlock = v.ownBlock \/ v'.ownBlock = some w.heap.size) -> K (a.put o.dst v') w') :
 if Region.wanted o (yielded ops a.tmps) = true then Oper.wp P o a w K Q else E:=by
 have hw : Region.wanted o (yielded ops a.tmps) = true:=by simp [Region.wanted,hg]
 rw [if_pos hw]
 obtain ⟨v',w',hrun,r1,r2,_,r3⟩:=run_append_own_at (P:=P) w base t o.type e i z size bytes h1 h2 h3 h4 h5 h6 h7 v n xs hown ad m c news hn hc h1c b1 b2 hbase
 unfold Oper.wp
 simp [execOp,hop,resolve,invoke,builtin,hs,hx,hrun,Result.andThen]
 exact hK v' w' r1 r2 r3
def KToldC (w : World) (E : Int) (L : Prop) (q1 q2 : Rat) (x : Ending) (w' : World) : Prop :=
 ∃ n a ca xs b cb ys m c cc us d cd vs code,x = .returned (.tuple #[.agg #[.bool n,.slice a (List.length xs) ca,.slice b (List.length ys) cb,.bool m,.slice c (List.length us) cc,.slice d (List.length vs) cd],.int .i64 code]) /\ (w'.ownsRow w.heap.size 69 1 (.slice a xs.length ca) xs.length (xs.map (Value.int .u32)) /\ w'.ownsRow w.heap.size 69 1 (.slice b ys.length cb) ys.length (ys.map (Value.int .u32)) /\ w'.ownsRow w.heap.size 69 1 (.slice c us.length cc) us.length (us.map (Value.int .u32)) /\ w'.ownsRow w.heap.size 69 1 (.slice d vs.length cd) vs.length (vs.map (Value.int .u32))) /\ GTells E L q1 q2 n xs ys m us vs code /\ Below w.heap.size w w' /\ ∃ W1,Cut w (.slice a xs.length ca) (.slice b ys.length cb) W1 /\ Cut W1 (.slice c us.length cc) (.slice d vs.length cd) w'
theorem kcut_nil (w w' : World) (h : w.heap.size <= w'.heap.size) : Cut w (.slice none 0 0) (.slice none 0 0) w':=⟨w.heap.size,Nat.le_refl _,h,fun g hg => by simp [Value.ownBlock] at hg,fun g hg => by simp [Value.ownBlock] at hg⟩
structure F3 where
 n : Bool
 a : Option Addr
 ca : Nat
 xs : List Int
 b : Option Addr
 cb : Nat
 ys : List Int
structure Tl (L : Prop) (q : Rat) (n : Bool) (xs ys : List Int) (c : Int) : Prop where
 w : Wd xs /\ Wd ys
 long : L -> n = false /\ xs = [] /\ ys = [] /\ c = 3
 good : ¬ L -> c = 0 /\ rchk n xs ys = 0 /\ rq n xs ys = q
structure GJ (w X : World) (p : Nat) (E : Int) (l : List (Nat × Nat × Array Value)) (V : World) : Prop where
 inv : GInv w p E l V
 gx : X.grownBy V (some p)
structure GB (w X : World) (p : Nat) (l : List (Nat × Nat × Array Value)) : Prop where
 hw : w.heap.size <= X.heap.size
 hp : p < w.heap.size
 hl : ∀ x ∈ l,x.1 < X.heap.size
theorem GJ.first {w X : World} {p : Nat} {E : Int} {l : List (Nat × Nat × Array Value)} (h : GInv w p E l X) : GJ w X p E l X.drew:=⟨h.drew,⟨rfl,rfl,rfl,Nat.le_refl _,fun _ _ _ => rfl⟩⟩
theorem GJ.drew {w X V : World} {p : Nat} {E : Int} {l : List (Nat × Nat × Array Value)} (h : GJ w X p E l V) : GJ w X p E l V.drew:=⟨h.inv.drew,⟨h.gx.os,h.gx.tape,h.gx.output,h.gx.size,h.gx.block⟩⟩
theorem GJ.start {w X : World} {p : Nat} {E : Int} {l : List (Nat × Nat × Array Value)} (h : GInv w p E l X) : GJ w X p E l X:=⟨h,⟨rfl,rfl,rfl,Nat.le_refl _,fun _ _ _ => rfl⟩⟩
theorem GJ.alloc {w X V : World} {p : Nat} {E : Int} {l : List (Nat × Nat × Array Value)} (h : GJ w X p E l V) (ob : Obj) : GJ w X p E l (V.alloc ob):=⟨h.inv.alloc ob,grow_trans h.gx (World.grownBy_alloc V ob (some p))⟩
theorem GJ.step {w X V V' : World} {p : Nat} {E code : Int} {l : List (Nat × Nat × Array Value)} (h : GJ w X p E l V) (hp : Box V' p 175 #[.int .i64 code]) (hg : V.grownBy V' (some p)) : GJ w X p code l V':=⟨h.inv.step hp hg,grow_trans h.gx hg⟩
theorem GInv.put3 {w V : World} {p : Nat} {E : Int} {l : List (Nat × Nat × Array Value)} (h : GInv w p E l V) (b : Nat) (hb : w.heap.size <= b) (hp : p ≠ b) (hl : ∀ x ∈ l,x.1 ≠ b) (u0 u1 u2 : Value) : GInv w p E l (((V.setCell ⟨b,0,none⟩ u0).setCell ⟨b,1,none⟩ u1).setCell ⟨b,2,none⟩ u2) :=
 ⟨box_far3 h.err hp _ _ _,grow_put3 h.grown b _ _ _ (.inl hb),fun x hx => ⟨box_far3 (h.box x hx).1 (hl x hx) _ _ _,(h.box x hx).2⟩⟩
theorem GJ.put3 {w X V : World} {p : Nat} {E : Int} {l : List (Nat × Nat × Array Value)} (h : GJ w X p E l V) (hB : GB w X p l) (b : Nat) (hb : X.heap.size <= b) (u0 u1 u2 : Value) : GJ w X p E l (((V.setCell ⟨b,0,none⟩ u0).setCell ⟨b,1,none⟩ u1).setCell ⟨b,2,none⟩ u2) :=
 ⟨h.inv.put3 b (Nat.le_trans hB.hw hb) (by have:=hB.hp; have:=hB.hw; omega) (fun x hx => by have:=hB.hl x hx; omega) _ _ _,grow_put3 h.gx b _ _ _ (.inl hb)⟩
theorem GInv.more {w V : World} {p : Nat} {E : Int} {l : List (Nat × Nat × Array Value)} (h : GInv w p E l V) {b t : Nat} {vs : Array Value} (hb : Box V b t vs) (hne : b ≠ p) : GInv w p E ((b,t,vs) :: l) V:=⟨h.err,h.grown,fun x hx => by
 cases hx with
 | head => exact ⟨hb,hne⟩
 | tail _ hx => exact h.box x hx⟩
theorem GInv.base {w X : World} {p : Nat} {E : Int} {l : List (Nat × Nat × Array Value)} (h : GInv w p E l X) (hp : p < w.heap.size) : GB w X p l:=⟨h.grown.size,hp,fun x hx => (h.box x hx).1.lt⟩
theorem some_ne {b p : Nat} (h : p < b) : some b ≠ some p:=fun e => by have:=Option.some.inj e; omega
def GStp (w X : World) (p : Nat) (l : List (Nat × Nat × Array Value)) (V : World) (e : Int) (q : Rat) (x : Ending) (w1 : World) : Prop :=
 ∃ n1 a1 k1 x1 b1 l1 y1 code,x = .returned (.agg #[.bool n1,.slice a1 (List.length x1) k1,.slice b1 (List.length y1) l1]) /\ Hid (RTells e q n1 x1 y1 code) /\ Hid (GJ w X p code l w1) /\ Hid (GRow w1 X.heap.size n1 (.slice a1 (List.length x1) k1) x1 (.slice b1 (List.length y1) l1) y1) /\ Hid (GRow w1 V.heap.size n1 (.slice a1 (List.length x1) k1) x1 (.slice b1 (List.length y1) l1) y1) /\ Hid (V.grownBy w1 (some p)) /\ Hid (Cut V (.slice a1 (List.length x1) k1) (.slice b1 (List.length y1) l1) w1) /\ X.heap.size <= w1.heap.size
theorem gstp {w X V : World} {p : Nat} {EE e : Int} {q : Rat} {l : List (Nat × Nat × Array Value)} {k : Nat} {args : Array Value} (hv : GJ w X p EE l V) (H : Calls Tryz.prog k args V (GTell V p e q)) : Calls Tryz.prog k args V (GStp w X p l V e q):=by
 refine Calls.mono H ?_
 rintro x w1 ⟨n1,v,zs,u,ts,code,rfl,ov,ou,ht,hpb,hg,hcut⟩
 obtain ⟨av,cv,rfl⟩:=own_slice' ov
 obtain ⟨au,cu,rfl⟩:=own_slice' ou
 have hi:=hv.step hpb hg
 exact ⟨n1,av,cv,zs,au,cu,ts,code,rfl,hid ht,hid hi,hid ⟨owns_base ov hv.gx.size,owns_base ou hv.gx.size⟩,hid ⟨ov,ou⟩,hid hg,hid hcut,hi.gx.size⟩
def G3 (op : Rat -> Rat -> Rat) (E e1 e2 : Int) (q1 q2 : Rat) (n3 : Bool) (x3 y3 : List Int) (c3 : Int) : Prop:=∃ n1 x1 y1 c1 n2 x2 y2 c2,RTells (fstE E e1) q1 n1 x1 y1 c1 /\ RTells (fstE c1 e2) q2 n2 x2 y2 c2 /\ RTells (fstE c2 (rboth n1 x1 y1 n2 x2 y2)) (op (rq n1 x1 y1) (rq n2 x2 y2)) n3 x3 y3 c3
def GCut (w X : World) (p : Nat) (l : List (Nat × Nat × Array Value)) (op : Rat -> Rat -> Rat) (E e1 e2 : Int) (q1 q2 : Rat) (s : Value) (W : World) : Prop :=
 ∃ b n3 a3 k3 x3 b3 l3 y3 c3,s = .pointer (some ⟨b,0,none⟩) /\ X.heap.size <= b /\ G3 op E e1 e2 q1 q2 n3 x3 y3 c3 /\ GInv w p c3 ((b,24,#[.bool n3,.slice a3 (List.length x3) k3,.slice b3 (List.length y3) l3]) :: l) W /\ GRow W X.heap.size n3 (.slice a3 (List.length x3) k3) x3 (.slice b3 (List.length y3) l3) y3 /\ Cut X (.slice a3 (List.length x3) k3) (.slice b3 (List.length y3) l3) W /\ X.grownBy W (some p)
theorem gcut_put {w X : World} {p : Nat} {l : List (Nat × Nat × Array Value)} {op : Rat -> Rat -> Rat} {E e1 e2 : Int} {q1 q2 : Rat} {n1 n2 n3 : Bool} {x1 y1 x2 y2 x3 y3 : List Int} {c1 c2 c3 : Int} {a3 b3 : Option Addr} {k3 l3 : Nat} {w3 V3 : World} {b : Nat} (hB : GB w X p l) (t1 : RTells (fstE E e1) q1 n1 x1 y1 c1) (t2 : RTells (fstE c1 e2) q2 n2 x2 y2 c2) (t3 : RTells (fstE c2 (rboth n1 x1 y1 n2 x2 y2)) (op (rq n1 x1 y1) (rq n2 x2 y2)) n3 x3 y3 c3) (j3 : GJ w X p c3 l w3) (r3 : GRow w3 V3.heap.size n3 (.slice a3 x3.length k3) x3 (.slice b3 y3.length l3) y3) (cut3 : Cut V3 (.slice a3 x3.length k3) (.slice b3 y3.length l3) w3) (hbx : Box w3 b 24 #[.bool false,.slice none 0 0,.slice none 0 0]) (hb3 : b < V3.heap.size) (hXb : X.heap.size <= b) :
 GCut w X p l op E e1 e2 q1 q2 (.pointer (some ⟨b,0,none⟩)) (((w3.setCell ⟨b,0,none⟩ (.bool n3)).setCell ⟨b,1,none⟩ (.slice a3 x3.length k3)).setCell ⟨b,2,none⟩ (.slice b3 y3.length l3)):=by
 have hj:=j3.put3 hB b hXb (.bool n3) (.slice a3 x3.length k3) (.slice b3 y3.length l3)
 have hXV : X.heap.size <= V3.heap.size:=by omega
 refine ⟨b,n3,a3,k3,x3,b3,l3,y3,c3,rfl,hXb,⟨n1,x1,y1,c1,n2,x2,y2,c2,t1,t2,t3⟩,hj.inv.more (box_put3 hbx _ _ _) (by have:=hB.hp; have:=hB.hw; omega),⟨owns_base (own_put3' r3.ov b (fun g hg => by have:=(r3.ov.lt g hg).1; omega) _ _ _) hXV,owns_base (own_put3' r3.ou b (fun g hg => by have:=(r3.ou.lt g hg).1; omega) _ _ _) hXV⟩,cut3.up hXV (by simp [World.setCell]),hj.gx⟩
theorem gcut_new {w X : World} {p : Nat} {l : List (Nat × Nat × Array Value)} {op : Rat -> Rat -> Rat} {E e1 e2 : Int} {q1 q2 : Rat} {n1 n2 n3 : Bool} {x1 y1 x2 y2 x3 y3 : List Int} {c1 c2 c3 : Int} {a3 b3 : Option Addr} {k3 l3 : Nat} {w3 V3 : World} (hB : GB w X p l) (t1 : RTells (fstE E e1) q1 n1 x1 y1 c1) (t2 : RTells (fstE c1 e2) q2 n2 x2 y2 c2) (t3 : RTells (fstE c2 (rboth n1 x1 y1 n2 x2 y2)) (op (rq n1 x1 y1) (rq n2 x2 y2)) n3 x3 y3 c3) (j3 : GJ w X p c3 l w3) (r3 : GRow w3 V3.heap.size n3 (.slice a3 x3.length k3) x3 (.slice b3 y3.length l3) y3) (cut3 : Cut V3 (.slice a3 x3.length k3) (.slice b3 y3.length l3) w3) (hXV : X.heap.size <= V3.heap.size) :
 GCut w X p l op E e1 e2 q1 q2 (.pointer (some ⟨w3.heap.size,0,none⟩)) (w3.alloc (.cells #[.bool n3,.slice a3 x3.length k3,.slice b3 y3.length l3] 24)):=by
 have hj:=j3.alloc (.cells #[.bool n3,.slice a3 x3.length k3,.slice b3 y3.length l3] 24)
 have hX3:=j3.gx.size
 refine ⟨w3.heap.size,n3,a3,k3,x3,b3,l3,y3,c3,rfl,hX3,⟨n1,x1,y1,c1,n2,x2,y2,c2,t1,t2,t3⟩,hj.inv.more (Box.made w3 _ _) (by have:=hB.hp; have:=hB.hw; omega),⟨owns_base (owns_later r3.ov (alloc_later _ _)) hXV,owns_base (owns_later r3.ou (alloc_later _ _)) hXV⟩,cut3.up hXV (by simp),hj.gx⟩
theorem gbox_far6 {U : World} {b t b' : Nat} {vs : Array Value} (h : Box U b t vs) (hne : b ≠ b') (v0 v1 v2 v3 v4 v5 : Value) : Box ((((((U.setCell ⟨b',0,none⟩ v0).setCell ⟨b',1,none⟩ v1).setCell ⟨b',2,none⟩ v2).setCell ⟨b',3,none⟩ v3).setCell ⟨b',4,none⟩ v4).setCell ⟨b',5,none⟩ v5) b t vs:=(((box_far3 h hne v0 v1 v2).other ⟨b',3,none⟩ v3 hne).other ⟨b',4,none⟩ v4 hne).other ⟨b',5,none⟩ v5 hne
theorem grow_put6 {a c : World} {p : Nat} (h : a.grownBy c (some p)) (b : Nat) (u0 u1 u2 u3 u4 u5 : Value) (hb : a.heap.size <= b \/ b = p) : a.grownBy ((((((c.setCell ⟨b,0,none⟩ u0).setCell ⟨b,1,none⟩ u1).setCell ⟨b,2,none⟩ u2).setCell ⟨b,3,none⟩ u3).setCell ⟨b,4,none⟩ u4).setCell ⟨b,5,none⟩ u5) (some p) :=
 grow_put (grow_put (grow_put (grow_put3 h b u0 u1 u2 hb) b 3 u3 hb) b 4 u4 hb) b 5 u5 hb
theorem box3f {W : World} {b t : Nat} {u0 u1 u2 : Value} (h : Box W b t #[u0,u1,u2]) : W.cell? ⟨b,0,none⟩ = some u0 /\ W.cell? ⟨b,1,none⟩ = some u1 /\ W.cell? ⟨b,2,none⟩ = some u2 /\ W.frozen? ⟨b,0,none⟩ = false /\ W.frozen? ⟨b,1,none⟩ = false /\ W.frozen? ⟨b,2,none⟩ = false:=⟨h.cell 0,h.cell 1,h.cell 2,h.free 0,h.free 1,h.free 2⟩
def GTimes (w : World) (p : Nat) (E e1 e2 e3 e4 : Int) (q1 q2 q3 q4 : Rat) (x : Ending) (w' : World) : Prop :=
 ∃ n3 a3 k3 x3 b3 l3 y3 c3 n6 a6 k6 x6 b6 l6 y6 c6,x = .returned (.agg #[.bool n3,.slice a3 (List.length x3) k3,.slice b3 (List.length y3) l3,.bool n6,.slice a6 (List.length x6) k6,.slice b6 (List.length y6) l6]) /\ (GRow w' w.heap.size n3 (.slice a3 (List.length x3) k3) x3 (.slice b3 (List.length y3) l3) y3 /\ GRow w' w.heap.size n6 (.slice a6 (List.length x6) k6) x6 (.slice b6 (List.length y6) l6) y6) /\ G3 (· - ·) E e1 e2 q1 q2 n3 x3 y3 c3 /\ G3 (· + ·) c3 e3 e4 q3 q4 n6 x6 y6 c6 /\ Box w' p 175 #[.int .i64 c6] /\ w.grownBy w' (some p) /\ ∃ W1,Cut w (.slice a3 (List.length x3) k3) (.slice b3 (List.length y3) l3) W1 /\ Cut W1 (.slice a6 (List.length x6) k6) (.slice b6 (List.length y6) l6) w'
set_option maxRecDepth 100000 in
theorem gtimes_any (p : Nat) (E : Int) (n : Bool) (a : Option Addr) (ca : Nat) (xs : List Int) (b : Option Addr) (cb : Nat) (ys : List Int) (m : Bool) (c : Option Addr) (cc : Nat) (us : List Int) (d : Option Addr) (cd : Nat) (vs : List Int) (n2 : Bool) (a2 : Option Addr) (ca2 : Nat) (xs2 : List Int) (b2 : Option Addr) (cb2 : Nat) (ys2 : List Int) (m2 : Bool) (c2 : Option Addr) (cc2 : Nat) (us2 : List Int) (d2 : Option Addr) (cd2 : Nat) (vs2 : List Int) (w : World) (hp : Box w p 175 #[.int .i64 E]) (HS : ∀ V,w.grownBy V (some p) -> Sl V (.slice a xs.length ca) xs /\ Sl V (.slice b ys.length cb) ys /\ Sl V (.slice c us.length cc) us /\ Sl V (.slice d vs.length cd) vs /\ Sl V (.slice a2 xs2.length ca2) xs2 /\ Sl V (.slice b2 ys2.length cb2) ys2 /\ Sl V (.slice c2 us2.length cc2) us2 /\ Sl V (.slice d2 vs2.length cd2) vs2) :
 Calls Tryz.prog 164 #[.pointer (some ⟨p,0,none⟩),.agg #[.bool n,.slice a xs.length ca,.slice b ys.length cb,.bool m,.slice c us.length cc,.slice d vs.length cd],.agg #[.bool n2,.slice a2 xs2.length ca2,.slice b2 ys2.length cb2,.bool m2,.slice c2 us2.length cc2,.slice d2 vs2.length cd2]] w (GTimes w p E (rboth n xs ys n2 xs2 ys2) (rboth m us vs m2 us2 vs2) (rboth n xs ys m2 us2 vs2) (rboth m us vs n2 xs2 ys2) (rq n xs ys * rq n2 xs2 ys2) (rq m us vs * rq m2 us2 vs2) (rq n xs ys * rq m2 us2 vs2) (rq m us vs * rq n2 xs2 ys2)):=by
 have hpw : p < w.heap.size:=hp.lt
 have HPW:=hid hpw
 have HSS:=hid HS
 have HI : Hid (GInv w p E ((w.heap.size,35,#[.bool n,.slice a xs.length ca,.slice b ys.length cb,.bool m,.slice c us.length cc,.slice d vs.length cd]) :: (w.heap.size + 1,35,#[.bool n2,.slice a2 xs2.length ca2,.slice b2 ys2.length cb2,.bool m2,.slice c2 us2.length cc2,.slice d2 vs2.length cd2]) :: (w.heap.size + 1 + 1,35,#[.bool false,.slice none 0 0,.slice none 0 0,.bool false,.slice none 0 0,.slice none 0 0]) :: []) (((w.alloc (.cells #[.bool n,.slice a xs.length ca,.slice b ys.length cb,.bool m,.slice c us.length cc,.slice d vs.length cd] 35)).alloc (.cells #[.bool n2,.slice a2 xs2.length ca2,.slice b2 ys2.length cb2,.bool m2,.slice c2 us2.length cc2,.slice d2 vs2.length cd2] 35)).alloc (.cells #[.bool false,.slice none 0 0,.slice none 0 0,.bool false,.slice none 0 0,.slice none 0 0] 35))):=by
  have h3:=boxes3r w 35 #[.bool n,.slice a xs.length ca,.slice b ys.length cb,.bool m,.slice c us.length cc,.slice d vs.length cd] #[.bool n2,.slice a2 xs2.length ca2,.slice b2 ys2.length cb2,.bool m2,.slice c2 us2.length cc2,.slice d2 vs2.length cd2] #[.bool false,.slice none 0 0,.slice none 0 0,.bool false,.slice none 0 0,.slice none 0 0]
  refine hid (GInv.more (GInv.more (GInv.more ⟨hp.later h3.2.2.2 hp.lt,grow_below h3.2.2.2 _,fun x hx => by cases hx⟩ h3.2.2.1 (by omega)) h3.2.1 (by omega)) h3.1 (by omega))
 obtain ⟨X,hX⟩ : ∃ X,((w.alloc (.cells #[.bool n,.slice a xs.length ca,.slice b ys.length cb,.bool m,.slice c us.length cc,.slice d vs.length cd] 35)).alloc (.cells #[.bool n2,.slice a2 xs2.length ca2,.slice b2 ys2.length cb2,.bool m2,.slice c2 us2.length cc2,.slice d2 vs2.length cd2] 35)).alloc (.cells #[.bool false,.slice none 0 0,.slice none 0 0,.bool false,.slice none 0 0,.slice none 0 0] 35) = X:=⟨_,rfl⟩
 rw [hX] at HI
 clear HS hp
 go_enter Tryz.func164,Tryz.ntmps164
 have HK : Hid (∀ V EE,GJ w X p EE ((w.heap.size,35,#[.bool n,.slice a xs.length ca,.slice b ys.length cb,.bool m,.slice c us.length cc,.slice d vs.length cd]) :: (w.heap.size + 1,35,#[.bool n2,.slice a2 xs2.length ca2,.slice b2 ys2.length cb2,.bool m2,.slice c2 us2.length cc2,.slice d2 vs2.length cd2]) :: (w.heap.size + 1 + 1,35,#[.bool false,.slice none 0 0,.slice none 0 0,.bool false,.slice none 0 0,.slice none 0 0]) :: []) V -> V.cell? ⟨w.heap.size,0,none⟩ = some (.bool n) /\ V.cell? ⟨w.heap.size,1,none⟩ = some (.slice a xs.length ca) /\ V.cell? ⟨w.heap.size,2,none⟩ = some (.slice b ys.length cb) /\ V.cell? ⟨w.heap.size,3,none⟩ = some (.bool m) /\ V.cell? ⟨w.heap.size,4,none⟩ = some (.slice c us.length cc) /\ V.cell? ⟨w.heap.size,5,none⟩ = some (.slice d vs.length cd) /\ V.cell? ⟨w.heap.size + 1,0,none⟩ = some (.bool n2) /\ V.cell? ⟨w.heap.size + 1,1,none⟩ = some (.slice a2 xs2.length ca2) /\ V.cell? ⟨w.heap.size + 1,2,none⟩ = some (.slice b2 ys2.length cb2) /\ V.cell? ⟨w.heap.size + 1,3,none⟩ = some (.bool m2) /\ V.cell? ⟨w.heap.size + 1,4,none⟩ = some (.slice c2 us2.length cc2) /\ V.cell? ⟨w.heap.size + 1,5,none⟩ = some (.slice d2 vs2.length cd2)):=hid (fun V EE hv => by
  obtain ⟨g0,g1,g2,g3,g4,g5⟩:=cells6 (hv.inv.box _ (List.mem_cons_self ..)).1
  obtain ⟨i0,i1,i2,i3,i4,i5⟩:=cells6 (hv.inv.box _ (List.mem_cons_of_mem _ (List.mem_cons_self ..))).1
  exact ⟨g0,g1,g2,g3,g4,g5,i0,i1,i2,i3,i4,i5⟩)
 have H1 : Hid (∀ V EE,GJ w X p EE ((w.heap.size,35,#[.bool n,.slice a xs.length ca,.slice b ys.length cb,.bool m,.slice c us.length cc,.slice d vs.length cd]) :: (w.heap.size + 1,35,#[.bool n2,.slice a2 xs2.length ca2,.slice b2 ys2.length cb2,.bool m2,.slice c2 us2.length cc2,.slice d2 vs2.length cd2]) :: (w.heap.size + 1 + 1,35,#[.bool false,.slice none 0 0,.slice none 0 0,.bool false,.slice none 0 0,.slice none 0 0]) :: []) V -> Calls Tryz.prog 207 #[.pointer (some ⟨p,0,none⟩),.agg #[.bool n,.slice a xs.length ca,.slice b ys.length cb],.agg #[.bool n2,.slice a2 xs2.length ca2,.slice b2 ys2.length cb2]] V (GStp w X p ((w.heap.size,35,#[.bool n,.slice a xs.length ca,.slice b ys.length cb,.bool m,.slice c us.length cc,.slice d vs.length cd]) :: (w.heap.size + 1,35,#[.bool n2,.slice a2 xs2.length ca2,.slice b2 ys2.length cb2,.bool m2,.slice c2 us2.length cc2,.slice d2 vs2.length cd2]) :: (w.heap.size + 1 + 1,35,#[.bool false,.slice none 0 0,.slice none 0 0,.bool false,.slice none 0 0,.slice none 0 0]) :: []) V (fstE EE (rboth n xs ys n2 xs2 ys2)) (rq n xs ys * rq n2 xs2 ys2))):=hid (fun V EE hv => by
  have h:=HSS.out V hv.inv.grown
  exact gstp hv (gproduct_any p EE n a ca xs b cb ys n2 a2 ca2 xs2 b2 cb2 ys2 V hv.inv.err h.1 h.2.1 h.2.2.2.2.1 h.2.2.2.2.2.1))
 have H2 : Hid (∀ V EE,GJ w X p EE ((w.heap.size,35,#[.bool n,.slice a xs.length ca,.slice b ys.length cb,.bool m,.slice c us.length cc,.slice d vs.length cd]) :: (w.heap.size + 1,35,#[.bool n2,.slice a2 xs2.length ca2,.slice b2 ys2.length cb2,.bool m2,.slice c2 us2.length cc2,.slice d2 vs2.length cd2]) :: (w.heap.size + 1 + 1,35,#[.bool false,.slice none 0 0,.slice none 0 0,.bool false,.slice none 0 0,.slice none 0 0]) :: []) V -> Calls Tryz.prog 207 #[.pointer (some ⟨p,0,none⟩),.agg #[.bool m,.slice c us.length cc,.slice d vs.length cd],.agg #[.bool m2,.slice c2 us2.length cc2,.slice d2 vs2.length cd2]] V (GStp w X p ((w.heap.size,35,#[.bool n,.slice a xs.length ca,.slice b ys.length cb,.bool m,.slice c us.length cc,.slice d vs.length cd]) :: (w.heap.size + 1,35,#[.bool n2,.slice a2 xs2.length ca2,.slice b2 ys2.length cb2,.bool m2,.slice c2 us2.length cc2,.slice d2 vs2.length cd2]) :: (w.heap.size + 1 + 1,35,#[.bool false,.slice none 0 0,.slice none 0 0,.bool false,.slice none 0 0,.slice none 0 0]) :: []) V (fstE EE (rboth m us vs m2 us2 vs2)) (rq m us vs * rq m2 us2 vs2))):=hid (fun V EE hv => by
  have h:=HSS.out V hv.inv.grown
  exact gstp hv (gproduct_any p EE m c cc us d cd vs m2 c2 cc2 us2 d2 cd2 vs2 V hv.inv.err h.2.2.1 h.2.2.2.1 h.2.2.2.2.2.2.1 h.2.2.2.2.2.2.2))
 have H3 : Hid (∀ (V : World) (EE : Int) (n1' : Bool) (a1' : Option Addr) (k1' : Nat) (x1' : List Int) (b1' : Option Addr) (l1' : Nat) (y1' : List Int) (n2' : Bool) (a2' : Option Addr) (k2' : Nat) (x2' : List Int) (b2' : Option Addr) (l2' : Nat) (y2' : List Int),GJ w X p EE ((w.heap.size,35,#[.bool n,.slice a xs.length ca,.slice b ys.length cb,.bool m,.slice c us.length cc,.slice d vs.length cd]) :: (w.heap.size + 1,35,#[.bool n2,.slice a2 xs2.length ca2,.slice b2 ys2.length cb2,.bool m2,.slice c2 us2.length cc2,.slice d2 vs2.length cd2]) :: (w.heap.size + 1 + 1,35,#[.bool false,.slice none 0 0,.slice none 0 0,.bool false,.slice none 0 0,.slice none 0 0]) :: []) V -> Sl V (.slice a1' x1'.length k1') x1' /\ Sl V (.slice b1' y1'.length l1') y1' -> Sl V (.slice a2' x2'.length k2') x2' /\ Sl V (.slice b2' y2'.length l2') y2' -> Calls Tryz.prog 206 #[.pointer (some ⟨p,0,none⟩),.agg #[.bool n1',.slice a1' x1'.length k1',.slice b1' y1'.length l1'],.agg #[.bool n2',.slice a2' x2'.length k2',.slice b2' y2'.length l2']] V (GStp w X p ((w.heap.size,35,#[.bool n,.slice a xs.length ca,.slice b ys.length cb,.bool m,.slice c us.length cc,.slice d vs.length cd]) :: (w.heap.size + 1,35,#[.bool n2,.slice a2 xs2.length ca2,.slice b2 ys2.length cb2,.bool m2,.slice c2 us2.length cc2,.slice d2 vs2.length cd2]) :: (w.heap.size + 1 + 1,35,#[.bool false,.slice none 0 0,.slice none 0 0,.bool false,.slice none 0 0,.slice none 0 0]) :: []) V (fstE EE (rboth n1' x1' y1' n2' x2' y2')) (rq n1' x1' y1' - rq n2' x2' y2'))):=hid (fun V EE n1' a1' k1' x1' b1' l1' y1' n2' a2' k2' x2' b2' l2' y2' hv h1 h2 => gstp hv (gdifference_any p EE n1' a1' k1' x1' b1' l1' y1' n2' a2' k2' x2' b2' l2' y2' V hv.inv.err h1.1 h1.2 h2.1 h2.2))
 have HGB:=hid (GInv.base HI.out HPW.out)
 have HD:=hid (GJ.first HI.out)
 have HD0:=hid (GJ.start HI.out)
 have hs0:=HK.out _ _ HD.out
 have hwX : w.heap.size <= X.heap.size:=HGB.out.hw
 have hpX : p < X.heap.size:=Nat.lt_of_lt_of_le HPW.out hwX
 go_upto_region 1 with fail
 go_cut [7] from 9 (fun s wx => Hid (GCut w X p ((w.heap.size,35,#[.bool n,.slice a xs.length ca,.slice b ys.length cb,.bool m,.slice c us.length cc,.slice d vs.length cd]) :: (w.heap.size + 1,35,#[.bool n2,.slice a2 xs2.length ca2,.slice b2 ys2.length cb2,.bool m2,.slice c2 us2.length cc2,.slice d2 vs2.length cd2]) :: (w.heap.size + 1 + 1,35,#[.bool false,.slice none 0 0,.slice none 0 0,.bool false,.slice none 0 0,.slice none 0 0]) :: []) (· - ·) E (rboth n xs ys n2 xs2 ys2) (rboth m us vs m2 us2 vs2) (rq n xs ys * rq n2 xs2 ys2) (rq m us vs * rq m2 us2 vs2) s wx))
 case first =>
  go_region_held3 (fun V : World => V.cell? ⟨w.heap.size,0,none⟩ = some (.bool n) /\ V.cell? ⟨w.heap.size,1,none⟩ = some (.slice a xs.length ca) /\ V.cell? ⟨w.heap.size,2,none⟩ = some (.slice b ys.length cb) /\ V.cell? ⟨w.heap.size,3,none⟩ = some (.bool m) /\ V.cell? ⟨w.heap.size,4,none⟩ = some (.slice c us.length cc) /\ V.cell? ⟨w.heap.size,5,none⟩ = some (.slice d vs.length cd) /\ V.cell? ⟨w.heap.size + 1,0,none⟩ = some (.bool n2) /\ V.cell? ⟨w.heap.size + 1,1,none⟩ = some (.slice a2 xs2.length ca2) /\ V.cell? ⟨w.heap.size + 1,2,none⟩ = some (.slice b2 ys2.length cb2) /\ V.cell? ⟨w.heap.size + 1,3,none⟩ = some (.bool m2) /\ V.cell? ⟨w.heap.size + 1,4,none⟩ = some (.slice c2 us2.length cc2) /\ V.cell? ⟨w.heap.size + 1,5,none⟩ = some (.slice d2 vs2.length cd2)) (first | exact hs3 | exact hs2 | exact hs1 | exact hs0 | exact HK.out _ _ (j3.out.alloc _) | exact HK.out _ _ (j3.out.put3 HGB.out _ (by omega) _ _ _) | exact HK.out _ _ (j2.out.alloc _) | exact HK.out _ _ (j1.out.alloc _) | exact HK.out _ _ (HD0.out.alloc _) | exact HK.out _ _ (HD0.out.alloc _).drew | exact HK.out _ _ (HD.out.alloc _))
   (first
    | (go_at_call 207; (with_reducible refine Calls.mono (H2.out _ e1 (by first | exact j1.out | exact j1.out.alloc _)) ?_); rintro x w2 ⟨n2',a2',k2',x2',b2',l2',y2',e2,rfl,t2,j2,r2,rv2,g2,cut2,z2⟩; have hs2:=HK.out _ _ j2.out)
    | (go_at_call 207; (with_reducible refine Calls.mono (H1.out _ E (by first | exact HD.out | exact (HD0.out.alloc _).drew | exact HD.out.alloc _)) ?_); rintro x w1 ⟨n1',a1',k1',x1',b1',l1',y1',e1,rfl,t1,j1,r1,rv1,g1,cut1,z1⟩; have hs1:=HK.out _ _ j1.out)
    | (go_at_call 206; (with_reducible refine Calls.mono (H3.out _ e2 n1' a1' k1' x1' b1' l1' y1' n2' a2' k2' x2' b2' l2' y2' (by first | exact j2.out | exact j2.out.alloc _) (by first | exact (r1.out.step hpX g2.out).sl t1.out.wx t1.out.wy | exact (r1.out.step hpX (grow_trans (World.grownBy_alloc _ _ _) g2.out)).sl t1.out.wx t1.out.wy | exact (r1.out.step hpX (grow_trans g2.out (World.grownBy_alloc _ _ _))).sl t1.out.wx t1.out.wy) (by first | exact r2.out.sl t2.out.wx t2.out.wy | exact (r2.out.step hpX (World.grownBy_alloc _ _ _)).sl t2.out.wx t2.out.wy)) ?_); rintro x w3 ⟨n3,a3,k3,x3,b3,l3,y3,e3,rfl,t3,j3,r3,rv3,g3,cut3,z3⟩; have hs3:=HK.out _ _ j3.out; (first | (have HQ2 : Hid (Box w2 X.heap.size 24 #[.bool false,.slice none 0 0,.slice none 0 0]):=hid (((show Box ((X.alloc (.cells #[.bool false,.slice none 0 0,.slice none 0 0] 24)).drew) X.heap.size 24 #[.bool false,.slice none 0 0,.slice none 0 0] from Box.made X 24 #[.bool false,.slice none 0 0,.slice none 0 0]).kept' g1.out (some_ne hpX)).kept' g2.out (some_ne hpX)); have HQ:=hid (HQ2.out.kept' g3.out (some_ne hpX)); obtain ⟨q0,q1,q2,f0,f1,f2⟩:=box3f HQ.out) | (have HQ2 : Hid (Box w2 w1.heap.size 24 #[.bool false,.slice none 0 0,.slice none 0 0]):=hid ((Box.made w1 24 #[.bool false,.slice none 0 0,.slice none 0 0]).kept' g2.out (some_ne (Nat.lt_of_lt_of_le hpX z1))); have HQ:=hid (HQ2.out.kept' g3.out (some_ne (Nat.lt_of_lt_of_le hpX z1))); obtain ⟨q0,q1,q2,f0,f1,f2⟩:=box3f HQ.out) | (have HQ2 : Hid (Box (w2.alloc (.cells #[.bool false,.slice none 0 0,.slice none 0 0] 24)) w2.heap.size 24 #[.bool false,.slice none 0 0,.slice none 0 0]):=hid (Box.made w2 24 #[.bool false,.slice none 0 0,.slice none 0 0]); have HQ:=hid (HQ2.out.kept' g3.out (some_ne (Nat.lt_of_lt_of_le hpX z2))); obtain ⟨q0,q1,q2,f0,f1,f2⟩:=box3f HQ.out) | skip)))
  all_goals
   clear hs0 hs1 hs2 hs3 H1 H2 H3 HK
   go_wp2_with fail
   go_meet
  all_goals first | with_reducible exact hid (gcut_put HGB.out t1.out t2.out t3.out j3.out rv3.out cut3.out HQ.out HQ2.out.lt (by omega)) | with_reducible exact hid (gcut_new HGB.out t1.out t2.out t3.out j3.out rv3.out cut3.out z2)
 case rest =>
  obtain ⟨g7,n3,a3,k3,x3,b3,l3,y3,c3,rfl,hg7,T3,I3,R3,C3,G3'⟩:=hcut.out
  have HT3:=hid T3; have HI3:=hid I3; have HR3:=hid R3; have HC3:=hid C3; have HG3:=hid G3'
  clear T3 I3 R3 C3 G3' hcut HK H1 H2 H3 HGB HD HD0 hs0 hwX hpX
  have HK : Hid (∀ V EE,GJ w wc p EE ((g7,24,#[.bool n3,.slice a3 x3.length k3,.slice b3 y3.length l3]) :: (w.heap.size,35,#[.bool n,.slice a xs.length ca,.slice b ys.length cb,.bool m,.slice c us.length cc,.slice d vs.length cd]) :: (w.heap.size + 1,35,#[.bool n2,.slice a2 xs2.length ca2,.slice b2 ys2.length cb2,.bool m2,.slice c2 us2.length cc2,.slice d2 vs2.length cd2]) :: (w.heap.size + 1 + 1,35,#[.bool false,.slice none 0 0,.slice none 0 0,.bool false,.slice none 0 0,.slice none 0 0]) :: []) V -> V.cell? ⟨w.heap.size,0,none⟩ = some (.bool n) /\ V.cell? ⟨w.heap.size,1,none⟩ = some (.slice a xs.length ca) /\ V.cell? ⟨w.heap.size,2,none⟩ = some (.slice b ys.length cb) /\ V.cell? ⟨w.heap.size,3,none⟩ = some (.bool m) /\ V.cell? ⟨w.heap.size,4,none⟩ = some (.slice c us.length cc) /\ V.cell? ⟨w.heap.size,5,none⟩ = some (.slice d vs.length cd) /\ V.cell? ⟨w.heap.size + 1,0,none⟩ = some (.bool n2) /\ V.cell? ⟨w.heap.size + 1,1,none⟩ = some (.slice a2 xs2.length ca2) /\ V.cell? ⟨w.heap.size + 1,2,none⟩ = some (.slice b2 ys2.length cb2) /\ V.cell? ⟨w.heap.size + 1,3,none⟩ = some (.bool m2) /\ V.cell? ⟨w.heap.size + 1,4,none⟩ = some (.slice c2 us2.length cc2) /\ V.cell? ⟨w.heap.size + 1,5,none⟩ = some (.slice d2 vs2.length cd2)):=hid (fun V EE hv => by
   obtain ⟨g0,g1,g2,g3,g4,g5⟩:=cells6 (hv.inv.box _ (List.mem_cons_of_mem _ (List.mem_cons_self ..))).1
   obtain ⟨i0,i1,i2,i3,i4,i5⟩:=cells6 (hv.inv.box _ (List.mem_cons_of_mem _ (List.mem_cons_of_mem _ (List.mem_cons_self ..)))).1
   exact ⟨g0,g1,g2,g3,g4,g5,i0,i1,i2,i3,i4,i5⟩)
  have H1 : Hid (∀ V EE,GJ w wc p EE ((g7,24,#[.bool n3,.slice a3 x3.length k3,.slice b3 y3.length l3]) :: (w.heap.size,35,#[.bool n,.slice a xs.length ca,.slice b ys.length cb,.bool m,.slice c us.length cc,.slice d vs.length cd]) :: (w.heap.size + 1,35,#[.bool n2,.slice a2 xs2.length ca2,.slice b2 ys2.length cb2,.bool m2,.slice c2 us2.length cc2,.slice d2 vs2.length cd2]) :: (w.heap.size + 1 + 1,35,#[.bool false,.slice none 0 0,.slice none 0 0,.bool false,.slice none 0 0,.slice none 0 0]) :: []) V -> Calls Tryz.prog 207 #[.pointer (some ⟨p,0,none⟩),.agg #[.bool n,.slice a xs.length ca,.slice b ys.length cb],.agg #[.bool m2,.slice c2 us2.length cc2,.slice d2 vs2.length cd2]] V (GStp w wc p ((g7,24,#[.bool n3,.slice a3 x3.length k3,.slice b3 y3.length l3]) :: (w.heap.size,35,#[.bool n,.slice a xs.length ca,.slice b ys.length cb,.bool m,.slice c us.length cc,.slice d vs.length cd]) :: (w.heap.size + 1,35,#[.bool n2,.slice a2 xs2.length ca2,.slice b2 ys2.length cb2,.bool m2,.slice c2 us2.length cc2,.slice d2 vs2.length cd2]) :: (w.heap.size + 1 + 1,35,#[.bool false,.slice none 0 0,.slice none 0 0,.bool false,.slice none 0 0,.slice none 0 0]) :: []) V (fstE EE (rboth n xs ys m2 us2 vs2)) (rq n xs ys * rq m2 us2 vs2))):=hid (fun V EE hv => by
   have h:=HSS.out V hv.inv.grown
   exact gstp hv (gproduct_any p EE n a ca xs b cb ys m2 c2 cc2 us2 d2 cd2 vs2 V hv.inv.err h.1 h.2.1 h.2.2.2.2.2.2.1 h.2.2.2.2.2.2.2))
  have H2 : Hid (∀ V EE,GJ w wc p EE ((g7,24,#[.bool n3,.slice a3 x3.length k3,.slice b3 y3.length l3]) :: (w.heap.size,35,#[.bool n,.slice a xs.length ca,.slice b ys.length cb,.bool m,.slice c us.length cc,.slice d vs.length cd]) :: (w.heap.size + 1,35,#[.bool n2,.slice a2 xs2.length ca2,.slice b2 ys2.length cb2,.bool m2,.slice c2 us2.length cc2,.slice d2 vs2.length cd2]) :: (w.heap.size + 1 + 1,35,#[.bool false,.slice none 0 0,.slice none 0 0,.bool false,.slice none 0 0,.slice none 0 0]) :: []) V -> Calls Tryz.prog 207 #[.pointer (some ⟨p,0,none⟩),.agg #[.bool m,.slice c us.length cc,.slice d vs.length cd],.agg #[.bool n2,.slice a2 xs2.length ca2,.slice b2 ys2.length cb2]] V (GStp w wc p ((g7,24,#[.bool n3,.slice a3 x3.length k3,.slice b3 y3.length l3]) :: (w.heap.size,35,#[.bool n,.slice a xs.length ca,.slice b ys.length cb,.bool m,.slice c us.length cc,.slice d vs.length cd]) :: (w.heap.size + 1,35,#[.bool n2,.slice a2 xs2.length ca2,.slice b2 ys2.length cb2,.bool m2,.slice c2 us2.length cc2,.slice d2 vs2.length cd2]) :: (w.heap.size + 1 + 1,35,#[.bool false,.slice none 0 0,.slice none 0 0,.bool false,.slice none 0 0,.slice none 0 0]) :: []) V (fstE EE (rboth m us vs n2 xs2 ys2)) (rq m us vs * rq n2 xs2 ys2))):=hid (fun V EE hv => by
   have h:=HSS.out V hv.inv.grown
   exact gstp hv (gproduct_any p EE m c cc us d cd vs n2 a2 ca2 xs2 b2 cb2 ys2 V hv.inv.err h.2.2.1 h.2.2.2.1 h.2.2.2.2.1 h.2.2.2.2.2.1))
  have H3 : Hid (∀ (V : World) (EE : Int) (n1' : Bool) (a1' : Option Addr) (k1' : Nat) (x1' : List Int) (b1' : Option Addr) (l1' : Nat) (y1' : List Int) (n2' : Bool) (a2' : Option Addr) (k2' : Nat) (x2' : List Int) (b2' : Option Addr) (l2' : Nat) (y2' : List Int),GJ w wc p EE ((g7,24,#[.bool n3,.slice a3 x3.length k3,.slice b3 y3.length l3]) :: (w.heap.size,35,#[.bool n,.slice a xs.length ca,.slice b ys.length cb,.bool m,.slice c us.length cc,.slice d vs.length cd]) :: (w.heap.size + 1,35,#[.bool n2,.slice a2 xs2.length ca2,.slice b2 ys2.length cb2,.bool m2,.slice c2 us2.length cc2,.slice d2 vs2.length cd2]) :: (w.heap.size + 1 + 1,35,#[.bool false,.slice none 0 0,.slice none 0 0,.bool false,.slice none 0 0,.slice none 0 0]) :: []) V -> Sl V (.slice a1' x1'.length k1') x1' /\ Sl V (.slice b1' y1'.length l1') y1' -> Sl V (.slice a2' x2'.length k2') x2' /\ Sl V (.slice b2' y2'.length l2') y2' -> Calls Tryz.prog 208 #[.pointer (some ⟨p,0,none⟩),.agg #[.bool n1',.slice a1' x1'.length k1',.slice b1' y1'.length l1'],.agg #[.bool n2',.slice a2' x2'.length k2',.slice b2' y2'.length l2']] V (GStp w wc p ((g7,24,#[.bool n3,.slice a3 x3.length k3,.slice b3 y3.length l3]) :: (w.heap.size,35,#[.bool n,.slice a xs.length ca,.slice b ys.length cb,.bool m,.slice c us.length cc,.slice d vs.length cd]) :: (w.heap.size + 1,35,#[.bool n2,.slice a2 xs2.length ca2,.slice b2 ys2.length cb2,.bool m2,.slice c2 us2.length cc2,.slice d2 vs2.length cd2]) :: (w.heap.size + 1 + 1,35,#[.bool false,.slice none 0 0,.slice none 0 0,.bool false,.slice none 0 0,.slice none 0 0]) :: []) V (fstE EE (rboth n1' x1' y1' n2' x2' y2')) (rq n1' x1' y1' + rq n2' x2' y2'))):=hid (fun V EE n1' a1' k1' x1' b1' l1' y1' n2' a2' k2' x2' b2' l2' y2' hv h1 h2 => gstp hv (gsum_any p EE n1' a1' k1' x1' b1' l1' y1' n2' a2' k2' x2' b2' l2' y2' V hv.inv.err h1.1 h1.2 h2.1 h2.2))
  have HGB:=hid (GInv.base HI3.out HPW.out)
  have HD:=hid (GJ.first HI3.out)
  have HD0:=hid (GJ.start HI3.out)
  have hs0:=HK.out _ _ HD.out
  have hwX : w.heap.size <= wc.heap.size:=HGB.out.hw
  have hpX : p < wc.heap.size:=Nat.lt_of_lt_of_le HPW.out hwX
  go_upto_region 2 with fail
  go_cut [8] from 23 (fun s wx => Hid (GCut w wc p ((g7,24,#[.bool n3,.slice a3 x3.length k3,.slice b3 y3.length l3]) :: (w.heap.size,35,#[.bool n,.slice a xs.length ca,.slice b ys.length cb,.bool m,.slice c us.length cc,.slice d vs.length cd]) :: (w.heap.size + 1,35,#[.bool n2,.slice a2 xs2.length ca2,.slice b2 ys2.length cb2,.bool m2,.slice c2 us2.length cc2,.slice d2 vs2.length cd2]) :: (w.heap.size + 1 + 1,35,#[.bool false,.slice none 0 0,.slice none 0 0,.bool false,.slice none 0 0,.slice none 0 0]) :: []) (· + ·) c3 (rboth n xs ys m2 us2 vs2) (rboth m us vs n2 xs2 ys2) (rq n xs ys * rq m2 us2 vs2) (rq m us vs * rq n2 xs2 ys2) s wx))
  case first =>
   go_region_held3 (fun V : World => V.cell? ⟨w.heap.size,0,none⟩ = some (.bool n) /\ V.cell? ⟨w.heap.size,1,none⟩ = some (.slice a xs.length ca) /\ V.cell? ⟨w.heap.size,2,none⟩ = some (.slice b ys.length cb) /\ V.cell? ⟨w.heap.size,3,none⟩ = some (.bool m) /\ V.cell? ⟨w.heap.size,4,none⟩ = some (.slice c us.length cc) /\ V.cell? ⟨w.heap.size,5,none⟩ = some (.slice d vs.length cd) /\ V.cell? ⟨w.heap.size + 1,0,none⟩ = some (.bool n2) /\ V.cell? ⟨w.heap.size + 1,1,none⟩ = some (.slice a2 xs2.length ca2) /\ V.cell? ⟨w.heap.size + 1,2,none⟩ = some (.slice b2 ys2.length cb2) /\ V.cell? ⟨w.heap.size + 1,3,none⟩ = some (.bool m2) /\ V.cell? ⟨w.heap.size + 1,4,none⟩ = some (.slice c2 us2.length cc2) /\ V.cell? ⟨w.heap.size + 1,5,none⟩ = some (.slice d2 vs2.length cd2)) (first | exact hs3 | exact hs2 | exact hs1 | exact hs0 | exact HK.out _ _ (j3.out.alloc _) | exact HK.out _ _ (j3.out.put3 HGB.out _ (by omega) _ _ _) | exact HK.out _ _ (j2.out.alloc _) | exact HK.out _ _ (j1.out.alloc _) | exact HK.out _ _ (HD0.out.alloc _) | exact HK.out _ _ (HD0.out.alloc _).drew | exact HK.out _ _ (HD.out.alloc _))
    (first
     | (go_at_call 207; (with_reducible refine Calls.mono (H2.out _ e1 (by first | exact j1.out | exact j1.out.alloc _)) ?_); rintro x w2 ⟨n2',a2',k2',x2',b2',l2',y2',e2,rfl,t2,j2,r2,rv2,g2,cut2,z2⟩; have hs2:=HK.out _ _ j2.out)
     | (go_at_call 207; (with_reducible refine Calls.mono (H1.out _ c3 (by first | exact HD.out | exact (HD0.out.alloc _).drew | exact HD.out.alloc _)) ?_); rintro x w1 ⟨n1',a1',k1',x1',b1',l1',y1',e1,rfl,t1,j1,r1,rv1,g1,cut1,z1⟩; have hs1:=HK.out _ _ j1.out)
     | (go_at_call 208; (with_reducible refine Calls.mono (H3.out _ e2 n1' a1' k1' x1' b1' l1' y1' n2' a2' k2' x2' b2' l2' y2' (by first | exact j2.out | exact j2.out.alloc _) (by first | exact (r1.out.step hpX g2.out).sl t1.out.wx t1.out.wy | exact (r1.out.step hpX (grow_trans (World.grownBy_alloc _ _ _) g2.out)).sl t1.out.wx t1.out.wy | exact (r1.out.step hpX (grow_trans g2.out (World.grownBy_alloc _ _ _))).sl t1.out.wx t1.out.wy) (by first | exact r2.out.sl t2.out.wx t2.out.wy | exact (r2.out.step hpX (World.grownBy_alloc _ _ _)).sl t2.out.wx t2.out.wy)) ?_); rintro x w3 ⟨n3,a3,k3,x3,b3,l3,y3,e3,rfl,t3,j3,r3,rv3,g3,cut3,z3⟩; have hs3:=HK.out _ _ j3.out; (first | (have HQ2 : Hid (Box w2 wc.heap.size 24 #[.bool false,.slice none 0 0,.slice none 0 0]):=hid (((show Box ((wc.alloc (.cells #[.bool false,.slice none 0 0,.slice none 0 0] 24)).drew) wc.heap.size 24 #[.bool false,.slice none 0 0,.slice none 0 0] from Box.made wc 24 #[.bool false,.slice none 0 0,.slice none 0 0]).kept' g1.out (some_ne hpX)).kept' g2.out (some_ne hpX)); have HQ:=hid (HQ2.out.kept' g3.out (some_ne hpX)); obtain ⟨q0,q1,q2,f0,f1,f2⟩:=box3f HQ.out) | (have HQ2 : Hid (Box w2 w1.heap.size 24 #[.bool false,.slice none 0 0,.slice none 0 0]):=hid ((Box.made w1 24 #[.bool false,.slice none 0 0,.slice none 0 0]).kept' g2.out (some_ne (Nat.lt_of_lt_of_le hpX z1))); have HQ:=hid (HQ2.out.kept' g3.out (some_ne (Nat.lt_of_lt_of_le hpX z1))); obtain ⟨q0,q1,q2,f0,f1,f2⟩:=box3f HQ.out) | (have HQ2 : Hid (Box (w2.alloc (.cells #[.bool false,.slice none 0 0,.slice none 0 0] 24)) w2.heap.size 24 #[.bool false,.slice none 0 0,.slice none 0 0]):=hid (Box.made w2 24 #[.bool false,.slice none 0 0,.slice none 0 0]); have HQ:=hid (HQ2.out.kept' g3.out (some_ne (Nat.lt_of_lt_of_le hpX z2))); obtain ⟨q0,q1,q2,f0,f1,f2⟩:=box3f HQ.out) | skip)))
   all_goals
    clear hs0 hs1 hs2 hs3 H1 H2 H3 HK
    go_wp2_with fail
    go_meet
   all_goals first | with_reducible exact hid (gcut_put HGB.out t1.out t2.out t3.out j3.out rv3.out cut3.out HQ.out HQ2.out.lt (by omega)) | with_reducible exact hid (gcut_new HGB.out t1.out t2.out t3.out j3.out rv3.out cut3.out z2)
  case rest =>
   obtain ⟨g8,n6,a6,k6,x6,b6,l6,y6,c6,rfl,hg8,T6,I6,R6,C6,G6⟩:=hcut.out
   have hX3 : w.heap.size + 1 + 1 < X.heap.size:=(HI.out.box _ (List.mem_cons_of_mem _ (List.mem_cons_of_mem _ (List.mem_cons_self ..)))).1.lt
   have hwc:=HG3.out.size
   have HRR:=hid (HR3.out.step (show p < X.heap.size by omega) G6)
   have HR6:=hid R6
   have HI6:=hid I6
   have HT6:=hid T6
   have HC6:=hid C6
   have HBR:=hid (I6.box _ (List.mem_cons_of_mem _ (List.mem_cons_of_mem _ (List.mem_cons_of_mem _ (List.mem_cons_of_mem _ (List.mem_cons_self ..)))))).1
   obtain ⟨s0,s1,s2,_,_,_⟩:=box3f (I6.box _ (List.mem_cons_of_mem _ (List.mem_cons_self ..))).1
   obtain ⟨t0,t1,t2,_,_,_⟩:=box3f (I6.box _ (List.mem_cons_self ..)).1
   obtain ⟨m0,m1,m2',m3,m4,m5⟩:=cells6 HBR.out
   have f0:=HBR.out.free 0
   have f1:=HBR.out.free 1
   have f2:=HBR.out.free 2
   have f3:=HBR.out.free 3
   have f4:=HBR.out.free 4
   have f5:=HBR.out.free 5
   have hg6:=G6.size
   clear T6 I6 R6 C6 G6 hcut HK H1 H2 H3 HGB HD HD0 hs0 hwX hpX hX HSS
   go_wp2_with fail
   have B1:=box_put6 HBR.out (.bool n3) (.slice a3 x3.length k3) (.slice b3 y3.length l3) (.bool n6) (.slice a6 x6.length k6) (.slice b6 y6.length l6)
   have hne : p ≠ w.heap.size + 1 + 1:=by omega
   have P1:=gbox_far6 HI6.out.err hne (.bool n3) (.slice a3 x3.length k3) (.slice b3 y3.length l3) (.bool n6) (.slice a6 x6.length k6) (.slice b6 y6.length l6)
   have V3:=own_put6 HRR.out.ov (w.heap.size + 1 + 1) (fun g hg => by have:=(HRR.out.ov.lt g hg).1; omega) (.bool n3) (.slice a3 x3.length k3) (.slice b3 y3.length l3) (.bool n6) (.slice a6 x6.length k6) (.slice b6 y6.length l6)
   have U3:=own_put6 HRR.out.ou (w.heap.size + 1 + 1) (fun g hg => by have:=(HRR.out.ou.lt g hg).1; omega) (.bool n3) (.slice a3 x3.length k3) (.slice b3 y3.length l3) (.bool n6) (.slice a6 x6.length k6) (.slice b6 y6.length l6)
   have V6:=own_put6 HR6.out.ov (w.heap.size + 1 + 1) (fun g hg => by have:=(HR6.out.ov.lt g hg).1; omega) (.bool n3) (.slice a3 x3.length k3) (.slice b3 y3.length l3) (.bool n6) (.slice a6 x6.length k6) (.slice b6 y6.length l6)
   have U6:=own_put6 HR6.out.ou (w.heap.size + 1 + 1) (fun g hg => by have:=(HR6.out.ou.lt g hg).1; omega) (.bool n3) (.slice a3 x3.length k3) (.slice b3 y3.length l3) (.bool n6) (.slice a6 x6.length k6) (.slice b6 y6.length l6)
   have G1:=grow_put6 HI6.out.grown (w.heap.size + 1 + 1) (.bool n3) (.slice a3 x3.length k3) (.slice b3 y3.length l3) (.bool n6) (.slice a6 x6.length k6) (.slice b6 y6.length l6) (.inl (by omega))
   have hwX : w.heap.size <= X.heap.size:=by omega
   refine bodyPost_ret (results_cell_row (by rfl) _ _ (w.heap.size + 1 + 1) 35 _ (0,0) _ (by rfl) B1 Tryz.underlying35 rfl (by kernel_rfl)) rfl ?_
   exact ⟨n3,a3,k3,x3,b3,l3,y3,c3,n6,a6,k6,x6,b6,l6,y6,c6,rfl,⟨⟨owns_base V3 hwX,owns_base U3 hwX⟩,⟨owns_base V6 (by omega),owns_base U6 (by omega)⟩⟩,HT3.out,HT6.out,P1,G1,_,HC3.out.up hwX (Nat.le_refl _),HC6.out.up (Nat.le_refl _) (by simp [World.setCell])⟩
structure GT3 (E : Int) (L : Prop) (q : Rat) (n : Bool) (xs ys : List Int) (code : Int) : Prop where
 wx : Wd xs
 wy : Wd ys
 bad : E ≠ 0 -> n = false /\ xs = [] /\ ys = [] /\ code = E
 long : E = 0 -> L -> n = false /\ xs = [] /\ ys = [] /\ code = 3
 good : E = 0 -> ¬ L -> code = 0 /\ rchk n xs ys = 0 /\ rq n xs ys = q
theorem GT3.ok {E : Int} {L : Prop} {q : Rat} {n : Bool} {xs ys : List Int} (h : GT3 E L q n xs ys 0) : E = 0 /\ ¬ L:=by
 by_cases hE : E = 0
 · refine ⟨hE,fun hl => ?_⟩
   have e:=(h.long hE hl).2.2.2
   exact absurd e (by decide)
 · exact absurd (h.bad hE).2.2.2.symm hE
theorem GT3.of {E e : Int} {q : Rat} {n : Bool} {xs ys : List Int} {c : Int} (h : RTells (fstE E e) q n xs ys c) (z : E = 0 -> e = 0) : GT3 E (rlong q) q n xs ys c:=by
 by_cases hE : E = 0
 · subst hE
   rw [fstE_zero,z rfl] at h
   exact ⟨h.wx,h.wy,fun h' => absurd rfl h',fun _ => h.long rfl,fun _ => h.good rfl⟩
 · rw [fstE_err _ hE] at h
   exact ⟨h.wx,h.wy,fun _ => h.bad hE,fun h' => absurd h' hE,fun h' => absurd h' hE⟩
theorem GT3.then {E c1 : Int} {L1 L2 : Prop} {q1 q2 : Rat} {n1 n2 : Bool} {x1 y1 x2 y2 : List Int} {c2 : Int} (h1 : GT3 E L1 q1 n1 x1 y1 c1) (h2 : GT3 c1 L2 q2 n2 x2 y2 c2) : GT3 E (L1 \/ L2) q2 n2 x2 y2 c2:=by
 refine ⟨h2.wx,h2.wy,fun hE => ?_,fun hE hl => ?_,fun hE hl => ?_⟩
 · have e:=(h1.bad hE).2.2.2
   subst e
   exact h2.bad hE
 · by_cases l1 : L1
   · have e:=(h1.long hE l1).2.2.2
     subst e
     exact h2.bad (by decide)
   · have e:=(h1.good hE l1).1
     subst e
     exact h2.long rfl (hl.resolve_left l1)
 · have e:=(h1.good hE (fun h => hl (.inl h))).1
   subst e
   exact h2.good rfl (fun h => hl (.inr h))
theorem g3_tells {op : Rat -> Rat -> Rat} {E e1 e2 : Int} {q1 q2 : Rat} {n : Bool} {x y : List Int} {c : Int} (h : G3 op E e1 e2 q1 q2 n x y c) (z1 : E = 0 -> e1 = 0) (z2 : E = 0 -> e2 = 0) : GT3 E ((rlong q1 \/ rlong q2) \/ rlong (op q1 q2)) (op q1 q2) n x y c:=by
 obtain ⟨n1,x1,y1,c1,n2,x2,y2,c2,t1,t2,t3⟩:=h
 have h1:=GT3.of t1 z1
 have h2 : GT3 c1 (rlong q2) q2 n2 x2 y2 c2:=GT3.of t2 (fun h => by subst h; exact z2 h1.ok.1)
 have h12:=h1.then h2
 by_cases hc : c2 = 0
 · subst hc
   obtain ⟨hE,hl⟩:=h12.ok
   have g2:=h12.good hE hl
   have g1:=h1.good hE (fun h => hl (.inl h))
   rw [rboth0 g1.2.1 g2.2.1,fstE_zero,g1.2.2,g2.2.2] at t3
   exact h12.then ⟨t3.wx,t3.wy,fun h' => absurd rfl h',fun _ => t3.long rfl,fun _ => t3.good rfl⟩
 · rw [fstE_err _ hc] at t3
   exact h12.then ⟨t3.wx,t3.wy,fun _ => t3.bad hc,fun h' => absurd h' hc,fun h' => absurd h' hc⟩
theorem gtwo' {E : Int} {L1 L2 : Prop} {q1 q2 : Rat} {n m : Bool} {xs ys us vs : List Int} {c1 c2 : Int} (h1 : GT3 E L1 q1 n xs ys c1) (h2 : GT3 c1 L2 q2 m us vs c2) :
 (c2 = 0 -> GTells E (L1 \/ L2) q1 q2 n xs ys m us vs c2) /\ (c2 ≠ 0 -> GTells E (L1 \/ L2) q1 q2 false [] [] false [] [] c2):=by
 have w4 : Wd []:=Wd.nil
 have h12:=h1.then h2
 refine ⟨fun hc => ?_,fun hc => ?_⟩
 · subst hc
   obtain ⟨hE,hl⟩:=h12.ok
   have g2:=h12.good hE hl
   have g1:=h1.good hE (fun h => hl (.inl h))
   exact ⟨⟨h1.wx,h1.wy,h2.wx,h2.wy⟩,fun h => absurd hE h,fun _ h => absurd h hl,fun _ _ => ⟨rfl,g1.2,g2.2⟩⟩
 · refine ⟨⟨w4,w4,w4,w4⟩,fun hE => ⟨⟨rfl,rfl,rfl,rfl,rfl,rfl⟩,(h12.bad hE).2.2.2⟩,fun hE hl => ⟨⟨rfl,rfl,rfl,rfl,rfl,rfl⟩,(h12.long hE hl).2.2.2⟩,fun hE hl => absurd (h12.good hE hl).1 hc⟩
def mlong (q1 q2 r1 r2 : Rat) : Prop:=((rlong (q1 * r1) \/ rlong (q2 * r2)) \/ rlong (q1 * r1 - q2 * r2)) \/ ((rlong (q1 * r2) \/ rlong (q2 * r1)) \/ rlong (q1 * r2 + q2 * r1))
set_option maxRecDepth 100000 in
theorem gMul_full (n : Bool) (a : Option Addr) (ca : Nat) (xs : List Int) (b : Option Addr) (cb : Nat) (ys : List Int) (m : Bool) (c : Option Addr) (cc : Nat) (us : List Int) (d : Option Addr) (cd : Nat) (vs : List Int) (n2 : Bool) (a2 : Option Addr) (ca2 : Nat) (xs2 : List Int) (b2' : Option Addr) (cb2 : Nat) (ys2 : List Int) (m2 : Bool) (c2 : Option Addr) (cc2 : Nat) (us2 : List Int) (d2 : Option Addr) (cd2 : Nat) (vs2 : List Int) (w : World) (sx : Sl w (.slice a xs.length ca) xs) (sy : Sl w (.slice b ys.length cb) ys) (su : Sl w (.slice c us.length cc) us) (sv : Sl w (.slice d vs.length cd) vs) (sx2 : Sl w (.slice a2 xs2.length ca2) xs2) (sy2 : Sl w (.slice b2' ys2.length cb2) ys2) (su2 : Sl w (.slice c2 us2.length cc2) us2) (sv2 : Sl w (.slice d2 vs2.length cd2) vs2) :
 Calls Tryz.prog 108 #[.agg #[.bool n,.slice a xs.length ca,.slice b ys.length cb,.bool m,.slice c us.length cc,.slice d vs.length cd],.agg #[.bool n2,.slice a2 xs2.length ca2,.slice b2' ys2.length cb2,.bool m2,.slice c2 us2.length cc2,.slice d2 vs2.length cd2]] w (GTold w (fstE (gchk n xs ys m us vs) (gchk n2 xs2 ys2 m2 us2 vs2)) (mlong (rq n xs ys) (rq m us vs) (rq n2 xs2 ys2) (rq m2 us2 vs2)) (rq n xs ys * rq n2 xs2 ys2 - rq m us vs * rq m2 us2 vs2) (rq n xs ys * rq m2 us2 vs2 + rq m us vs * rq n2 xs2 ys2)):=by
 have HX:=hid (boxes3r w 35 #[.bool n,.slice a xs.length ca,.slice b ys.length cb,.bool m,.slice c us.length cc,.slice d vs.length cd] #[.bool n2,.slice a2 xs2.length ca2,.slice b2' ys2.length cb2,.bool m2,.slice c2 us2.length cc2,.slice d2 vs2.length cd2] #[.bool false,.slice none 0 0,.slice none 0 0,.bool false,.slice none 0 0,.slice none 0 0])
 obtain ⟨X,hX⟩ : ∃ X,((w.alloc (.cells #[.bool n,.slice a xs.length ca,.slice b ys.length cb,.bool m,.slice c us.length cc,.slice d vs.length cd] 35)).alloc (.cells #[.bool n2,.slice a2 xs2.length ca2,.slice b2' ys2.length cb2,.bool m2,.slice c2 us2.length cc2,.slice d2 vs2.length cd2] 35)).alloc (.cells #[.bool false,.slice none 0 0,.slice none 0 0,.bool false,.slice none 0 0,.slice none 0 0] 35) = X:=⟨_,rfl⟩
 rw [hX] at HX
 have HY:=hid (Box.made X 35 #[.bool n,.slice a xs.length ca,.slice b ys.length cb,.bool m,.slice c us.length cc,.slice d vs.length cd,.bool n2,.slice a2 xs2.length ca2,.slice b2' ys2.length cb2,.bool m2,.slice c2 us2.length cc2,.slice d2 vs2.length cd2])
 have HYB:=hid (alloc_later X (.cells #[.bool n,.slice a xs.length ca,.slice b ys.length cb,.bool m,.slice c us.length cc,.slice d vs.length cd,.bool n2,.slice a2 xs2.length ca2,.slice b2' ys2.length cb2,.bool m2,.slice c2 us2.length cc2,.slice d2 vs2.length cd2] 35))
 obtain ⟨Y,hY⟩ : ∃ Y,X.alloc (.cells #[.bool n,.slice a xs.length ca,.slice b ys.length cb,.bool m,.slice c us.length cc,.slice d vs.length cd,.bool n2,.slice a2 xs2.length ca2,.slice b2' ys2.length cb2,.bool m2,.slice c2 us2.length cc2,.slice d2 vs2.length cd2] 35) = Y:=⟨_,rfl⟩
 rw [hY] at HY HYB
 have HWY:=hid (bt HX.out.2.2.2 HYB.out)
 have HL:=hid (glookAt2_any X.heap.size n a ca xs b cb ys m c cc us d cd vs n2 a2 ca2 xs2 b2' cb2 ys2 m2 c2 cc2 us2 d2 cd2 vs2 Y HY.out (sx.later HWY.out) (sy.later HWY.out) (su.later HWY.out) (sv.later HWY.out) (sx2.later HWY.out) (sy2.later HWY.out) (su2.later HWY.out) (sv2.later HWY.out))
 have H1 : Hid (∀ V p E,Below w.heap.size w V -> w.heap.size <= p -> Box V p 175 #[.int .i64 E] -> Calls Tryz.prog 164 #[.pointer (some ⟨p,0,none⟩),.agg #[.bool n,.slice a xs.length ca,.slice b ys.length cb,.bool m,.slice c us.length cc,.slice d vs.length cd],.agg #[.bool n2,.slice a2 xs2.length ca2,.slice b2' ys2.length cb2,.bool m2,.slice c2 us2.length cc2,.slice d2 vs2.length cd2]] V _):=hid (fun V p E hv hp hb => gtimes_any p E n a ca xs b cb ys m c cc us d cd vs n2 a2 ca2 xs2 b2' cb2 ys2 m2 c2 cc2 us2 d2 cd2 vs2 V hb (fun U hU => by
  have hw : Below w.heap.size w U:=hv.grown hU hv.size (fun q hq => by have e:=Option.some.inj hq; omega)
  exact ⟨sx.later hw,sy.later hw,su.later hw,sv.later hw,sx2.later hw,sy2.later hw,su2.later hw,sv2.later hw⟩))
 have HZ1 : Hid (fstE (gchk n xs ys m us vs) (gchk n2 xs2 ys2 m2 us2 vs2) = 0 -> (rboth n xs ys n2 xs2 ys2 = 0 /\ rboth m us vs m2 us2 vs2 = 0) /\ rboth n xs ys m2 us2 vs2 = 0 /\ rboth m us vs n2 xs2 ys2 = 0):=fun h => by
  obtain ⟨h1,h2⟩:=fstE_ok h
  exact ⟨⟨rboth0 (gchk_ok h1).1 (gchk_ok h2).1,rboth0 (gchk_ok h1).2 (gchk_ok h2).2⟩,rboth0 (gchk_ok h1).1 (gchk_ok h2).2,rboth0 (gchk_ok h1).2 (gchk_ok h2).1⟩
 generalize fstE (gchk n xs ys m us vs) (gchk n2 xs2 ys2 m2 us2 vs2) = E0 at *
 generalize rboth n xs ys n2 xs2 ys2 = e1 at *
 generalize rboth m us vs m2 us2 vs2 = e2 at *
 generalize rboth n xs ys m2 us2 vs2 = e3 at *
 generalize rboth m us vs n2 xs2 ys2 = e4 at *
 generalize rq n xs ys = r1 at *
 generalize rq m us vs = r2 at *
 generalize rq n2 xs2 ys2 = r3 at *
 generalize rq m2 us2 vs2 = r4 at *
 clear sx sy su sv sx2 sy2 su2 sv2
 have ka0 : X.cell? ⟨w.heap.size,0,none⟩ = some (.bool n):=HX.out.1.cell 0
 have ka1 : X.cell? ⟨w.heap.size,1,none⟩ = some (.slice a xs.length ca):=HX.out.1.cell 1
 have ka2 : X.cell? ⟨w.heap.size,2,none⟩ = some (.slice b ys.length cb):=HX.out.1.cell 2
 have ka3 : X.cell? ⟨w.heap.size,3,none⟩ = some (.bool m):=HX.out.1.cell 3
 have ka4 : X.cell? ⟨w.heap.size,4,none⟩ = some (.slice c us.length cc):=HX.out.1.cell 4
 have ka5 : X.cell? ⟨w.heap.size,5,none⟩ = some (.slice d vs.length cd):=HX.out.1.cell 5
 have kb0 : X.cell? ⟨w.heap.size + 1,0,none⟩ = some (.bool n2):=HX.out.2.1.cell 0
 have kb1 : X.cell? ⟨w.heap.size + 1,1,none⟩ = some (.slice a2 xs2.length ca2):=HX.out.2.1.cell 1
 have kb2 : X.cell? ⟨w.heap.size + 1,2,none⟩ = some (.slice b2' ys2.length cb2):=HX.out.2.1.cell 2
 have kb3 : X.cell? ⟨w.heap.size + 1,3,none⟩ = some (.bool m2):=HX.out.2.1.cell 3
 have kb4 : X.cell? ⟨w.heap.size + 1,4,none⟩ = some (.slice c2 us2.length cc2):=HX.out.2.1.cell 4
 have kb5 : X.cell? ⟨w.heap.size + 1,5,none⟩ = some (.slice d2 vs2.length cd2):=HX.out.2.1.cell 5
 go_enter Tryz.func108,Tryz.ntmps108
 go_wp2_with fail
 refine Calls.mono HL.out ?_
 rintro x w1 ⟨p,rfl,hpl,hpb,hb1⟩
 have HW1:=hid (bt HWY.out hb1)
 have HA1:=hid (HX.out.1.later (bt HYB.out hb1) HX.out.1.lt)
 have HB1:=hid (HX.out.2.1.later (bt HYB.out hb1) HX.out.2.1.lt)
 have HR1:=hid (HX.out.2.2.1.later (bt HYB.out hb1) HX.out.2.2.1.lt)
 have HP1:=hid hpb
 have hpX : X.heap.size < p:=Nat.lt_of_lt_of_le HY.out.lt hpl
 have hrX : w.heap.size + 1 + 1 < X.heap.size:=HX.out.2.2.1.lt
 clear hpb hb1 hpl HL ka0 ka1 ka2 ka3 ka4 ka5 kb0 kb1 kb2 kb3 kb4 kb5
 have ka0 : w1.cell? ⟨w.heap.size,0,none⟩ = some (.bool n):=HA1.out.cell 0
 have ka1 : w1.cell? ⟨w.heap.size,1,none⟩ = some (.slice a xs.length ca):=HA1.out.cell 1
 have ka2 : w1.cell? ⟨w.heap.size,2,none⟩ = some (.slice b ys.length cb):=HA1.out.cell 2
 have ka3 : w1.cell? ⟨w.heap.size,3,none⟩ = some (.bool m):=HA1.out.cell 3
 have ka4 : w1.cell? ⟨w.heap.size,4,none⟩ = some (.slice c us.length cc):=HA1.out.cell 4
 have ka5 : w1.cell? ⟨w.heap.size,5,none⟩ = some (.slice d vs.length cd):=HA1.out.cell 5
 have kb0 : w1.cell? ⟨w.heap.size + 1,0,none⟩ = some (.bool n2):=HB1.out.cell 0
 have kb1 : w1.cell? ⟨w.heap.size + 1,1,none⟩ = some (.slice a2 xs2.length ca2):=HB1.out.cell 1
 have kb2 : w1.cell? ⟨w.heap.size + 1,2,none⟩ = some (.slice b2' ys2.length cb2):=HB1.out.cell 2
 have kb3 : w1.cell? ⟨w.heap.size + 1,3,none⟩ = some (.bool m2):=HB1.out.cell 3
 have kb4 : w1.cell? ⟨w.heap.size + 1,4,none⟩ = some (.slice c2 us2.length cc2):=HB1.out.cell 4
 have kb5 : w1.cell? ⟨w.heap.size + 1,5,none⟩ = some (.slice d2 vs2.length cd2):=HB1.out.cell 5
 go_wp2_with fail
 refine Calls.mono (H1.out _ p E0 HW1.out (by omega) HP1.out) ?_
 rintro x w3 ⟨k1,av1,cv1,zs1,au1,cu1,ts1,c3,k2,av2,cv2,zs2,au2,cu2,ts2,code2,rfl,⟨⟨ov1,ou1⟩,⟨ov2,ou2⟩⟩,t3,t6,hp3,hg3,_⟩
 have hw13 : w1.heap.size <= w3.heap.size:=hg3.size
 have hp1l : p < w1.heap.size:=HP1.out.lt
 have HW3 : Hid (Below w.heap.size w w3):=HW1.out.grown hg3 HW1.out.size (fun q hq => by have e:=Option.some.inj hq; omega)
 have HR3:=hid (HR1.out.kept' hg3 (by intro e; have:=Option.some.inj e; omega))
 have HTO:=hid (gtold_any p code2 k1 av1 zs1.length cv1 au1 ts1.length cu1 k2 av2 zs2.length cv2 au2 ts2.length cu2 w3 hp3)
 have HO3:=hid (And.intro ov1 (And.intro ou1 (And.intro ov2 ou2)))
 have h3:=g3_tells t3 (fun h => (HZ1.out h).1.1) (fun h => (HZ1.out h).1.2)
 have HTW:=hid (gtwo' h3 (g3_tells t6 (fun h => by subst h; exact (HZ1.out h3.ok.1).2.1) (fun h => by subst h; exact (HZ1.out h3.ok.1).2.2)))
 clear h3 t3 t6 hp3 hg3 ov1 ou1 ov2 ou2 H1 ka0 ka1 ka2 ka3 ka4 ka5 kb0 kb1 kb2 kb3 kb4 kb5
 go_wp2_with fail
 refine Calls.mono HTO.out ?_
 rintro x w4 ⟨rfl,hb4⟩
 have HR4:=hid (HR3.out.later hb4 HR3.out.lt)
 have HW4:=hid (bt HW3.out hb4)
 have HOO:=hid (And.intro (owns_later HO3.out.1 hb4) (And.intro (owns_later HO3.out.2.1 hb4) (And.intro (owns_later HO3.out.2.2.1 hb4) (owns_later HO3.out.2.2.2 hb4))))
 have hlo : w.heap.size <= w1.heap.size:=by omega
 clear hb4
 have m0 : w4.cell? ⟨w.heap.size + 1 + 1,0,none⟩ = some (.bool false):=HR4.out.cell 0
 have m1 : w4.cell? ⟨w.heap.size + 1 + 1,1,none⟩ = some (.slice none 0 0):=HR4.out.cell 1
 have m2' : w4.cell? ⟨w.heap.size + 1 + 1,2,none⟩ = some (.slice none 0 0):=HR4.out.cell 2
 have m3 : w4.cell? ⟨w.heap.size + 1 + 1,3,none⟩ = some (.bool false):=HR4.out.cell 3
 have m4 : w4.cell? ⟨w.heap.size + 1 + 1,4,none⟩ = some (.slice none 0 0):=HR4.out.cell 4
 have m5 : w4.cell? ⟨w.heap.size + 1 + 1,5,none⟩ = some (.slice none 0 0):=HR4.out.cell 5
 have f0:=HR4.out.free 0
 have f1:=HR4.out.free 1
 have f2:=HR4.out.free 2
 have f3:=HR4.out.free 3
 have f4:=HR4.out.free 4
 have f5:=HR4.out.free 5
 by_cases hc2 : code2 = 0
 · rw [if_pos hc2]
   have HFIN:=hid (HTW.out.1 hc2)
   clear HTW hc2
   go_wp2_with fail
   have B1:=box_put6 HR4.out (.bool k1) (.slice av1 zs1.length cv1) (.slice au1 ts1.length cu1) (.bool k2) (.slice av2 zs2.length cv2) (.slice au2 ts2.length cu2)
   have G1:=below_put6 HW4.out (w.heap.size + 1 + 1) (by omega) (.bool k1) (.slice av1 zs1.length cv1) (.slice au1 ts1.length cu1) (.bool k2) (.slice av2 zs2.length cv2) (.slice au2 ts2.length cu2)
   have hXX:=HX.out.2.2.2.size
   have hput : ∀ {base k : Nat} {v : Value} {l : List Value},w4.ownsRow base 69 1 v k l -> (∀ g,v.ownBlock = some g -> X.heap.size <= g) -> ((((((w4.setCell ⟨w.heap.size + 1 + 1,0,none⟩ (.bool k1)).setCell ⟨w.heap.size + 1 + 1,1,none⟩ (.slice av1 zs1.length cv1)).setCell ⟨w.heap.size + 1 + 1,2,none⟩ (.slice au1 ts1.length cu1)).setCell ⟨w.heap.size + 1 + 1,3,none⟩ (.bool k2)).setCell ⟨w.heap.size + 1 + 1,4,none⟩ (.slice av2 zs2.length cv2)).setCell ⟨w.heap.size + 1 + 1,5,none⟩ (.slice au2 ts2.length cu2)).ownsRow base 69 1 v k l:=fun h hb => own_put6 h _ (fun g hg => by have:=hb g hg; omega) _ _ _ _ _ _
   clear m0 m1 m2' m3 m4 m5 f0 f1 f2 f3 f4 f5
   refine bodyPost_ret (gres_run (by rfl) B1 _ rfl) rfl ?_
   exact ⟨k1,av1,cv1,zs1,au1,cu1,ts1,k2,av2,cv2,zs2,au2,cu2,ts2,code2,rfl,⟨owns_base (hput HOO.out.1 (fun g hg => by have:=(HOO.out.1.lt g hg).1; omega)) hlo,owns_base (hput HOO.out.2.1 (fun g hg => by have:=(HOO.out.2.1.lt g hg).1; omega)) hlo,owns_base (hput HOO.out.2.2.1 (fun g hg => by have:=(HOO.out.2.2.1.lt g hg).1; omega)) hlo,owns_base (hput HOO.out.2.2.2 (fun g hg => by have:=(HOO.out.2.2.2.lt g hg).1; omega)) hlo⟩,HFIN.out,G1⟩
 · rw [if_neg hc2]
   have HFIN:=hid (HTW.out.2 hc2)
   clear HTW hc2
   go_wp2_with fail
   have B1:=box_put6 HR4.out (.bool false) (.slice none 0 0) (.slice none 0 0) (.bool false) (.slice none 0 0) (.slice none 0 0)
   have G1:=below_put6 HW4.out (w.heap.size + 1 + 1) (by omega) (.bool false) (.slice none 0 0) (.slice none 0 0) (.bool false) (.slice none 0 0) (.slice none 0 0)
   clear m0 m1 m2' m3 m4 m5 f0 f1 f2 f3 f4 f5
   refine bodyPost_ret (gres_run (by rfl) B1 _ rfl) rfl ?_
   exact ⟨false,none,0,[],none,0,[],false,none,0,[],none,0,[],code2,rfl,⟨World.ownsRow_nil _ _ _ _,World.ownsRow_nil _ _ _ _,World.ownsRow_nil _ _ _ _,World.ownsRow_nil _ _ _ _⟩,HFIN.out,G1⟩
set_option maxRecDepth 100000 in
theorem gMul_cut (n : Bool) (a : Option Addr) (ca : Nat) (xs : List Int) (b : Option Addr) (cb : Nat) (ys : List Int) (m : Bool) (c : Option Addr) (cc : Nat) (us : List Int) (d : Option Addr) (cd : Nat) (vs : List Int) (n2 : Bool) (a2 : Option Addr) (ca2 : Nat) (xs2 : List Int) (b2' : Option Addr) (cb2 : Nat) (ys2 : List Int) (m2 : Bool) (c2 : Option Addr) (cc2 : Nat) (us2 : List Int) (d2 : Option Addr) (cd2 : Nat) (vs2 : List Int) (w : World) (sx : Sl w (.slice a xs.length ca) xs) (sy : Sl w (.slice b ys.length cb) ys) (su : Sl w (.slice c us.length cc) us) (sv : Sl w (.slice d vs.length cd) vs) (sx2 : Sl w (.slice a2 xs2.length ca2) xs2) (sy2 : Sl w (.slice b2' ys2.length cb2) ys2) (su2 : Sl w (.slice c2 us2.length cc2) us2) (sv2 : Sl w (.slice d2 vs2.length cd2) vs2) :
 Calls Tryz.prog 108 #[.agg #[.bool n,.slice a xs.length ca,.slice b ys.length cb,.bool m,.slice c us.length cc,.slice d vs.length cd],.agg #[.bool n2,.slice a2 xs2.length ca2,.slice b2' ys2.length cb2,.bool m2,.slice c2 us2.length cc2,.slice d2 vs2.length cd2]] w (KToldC w (fstE (gchk n xs ys m us vs) (gchk n2 xs2 ys2 m2 us2 vs2)) (mlong (rq n xs ys) (rq m us vs) (rq n2 xs2 ys2) (rq m2 us2 vs2)) (rq n xs ys * rq n2 xs2 ys2 - rq m us vs * rq m2 us2 vs2) (rq n xs ys * rq m2 us2 vs2 + rq m us vs * rq n2 xs2 ys2)):=by
 have HX:=hid (boxes3r w 35 #[.bool n,.slice a xs.length ca,.slice b ys.length cb,.bool m,.slice c us.length cc,.slice d vs.length cd] #[.bool n2,.slice a2 xs2.length ca2,.slice b2' ys2.length cb2,.bool m2,.slice c2 us2.length cc2,.slice d2 vs2.length cd2] #[.bool false,.slice none 0 0,.slice none 0 0,.bool false,.slice none 0 0,.slice none 0 0])
 obtain ⟨X,hX⟩ : ∃ X,((w.alloc (.cells #[.bool n,.slice a xs.length ca,.slice b ys.length cb,.bool m,.slice c us.length cc,.slice d vs.length cd] 35)).alloc (.cells #[.bool n2,.slice a2 xs2.length ca2,.slice b2' ys2.length cb2,.bool m2,.slice c2 us2.length cc2,.slice d2 vs2.length cd2] 35)).alloc (.cells #[.bool false,.slice none 0 0,.slice none 0 0,.bool false,.slice none 0 0,.slice none 0 0] 35) = X:=⟨_,rfl⟩
 rw [hX] at HX
 have HY:=hid (Box.made X 35 #[.bool n,.slice a xs.length ca,.slice b ys.length cb,.bool m,.slice c us.length cc,.slice d vs.length cd,.bool n2,.slice a2 xs2.length ca2,.slice b2' ys2.length cb2,.bool m2,.slice c2 us2.length cc2,.slice d2 vs2.length cd2])
 have HYB:=hid (alloc_later X (.cells #[.bool n,.slice a xs.length ca,.slice b ys.length cb,.bool m,.slice c us.length cc,.slice d vs.length cd,.bool n2,.slice a2 xs2.length ca2,.slice b2' ys2.length cb2,.bool m2,.slice c2 us2.length cc2,.slice d2 vs2.length cd2] 35))
 obtain ⟨Y,hY⟩ : ∃ Y,X.alloc (.cells #[.bool n,.slice a xs.length ca,.slice b ys.length cb,.bool m,.slice c us.length cc,.slice d vs.length cd,.bool n2,.slice a2 xs2.length ca2,.slice b2' ys2.length cb2,.bool m2,.slice c2 us2.length cc2,.slice d2 vs2.length cd2] 35) = Y:=⟨_,rfl⟩
 rw [hY] at HY HYB
 have HWY:=hid (bt HX.out.2.2.2 HYB.out)
 have HL:=hid (glookAt2_any X.heap.size n a ca xs b cb ys m c cc us d cd vs n2 a2 ca2 xs2 b2' cb2 ys2 m2 c2 cc2 us2 d2 cd2 vs2 Y HY.out (sx.later HWY.out) (sy.later HWY.out) (su.later HWY.out) (sv.later HWY.out) (sx2.later HWY.out) (sy2.later HWY.out) (su2.later HWY.out) (sv2.later HWY.out))
 have H1 : Hid (∀ V p E,Below w.heap.size w V -> w.heap.size <= p -> Box V p 175 #[.int .i64 E] -> Calls Tryz.prog 164 #[.pointer (some ⟨p,0,none⟩),.agg #[.bool n,.slice a xs.length ca,.slice b ys.length cb,.bool m,.slice c us.length cc,.slice d vs.length cd],.agg #[.bool n2,.slice a2 xs2.length ca2,.slice b2' ys2.length cb2,.bool m2,.slice c2 us2.length cc2,.slice d2 vs2.length cd2]] V _):=hid (fun V p E hv hp hb => gtimes_any p E n a ca xs b cb ys m c cc us d cd vs n2 a2 ca2 xs2 b2' cb2 ys2 m2 c2 cc2 us2 d2 cd2 vs2 V hb (fun U hU => by
  have hw : Below w.heap.size w U:=hv.grown hU hv.size (fun q hq => by have e:=Option.some.inj hq; omega)
  exact ⟨sx.later hw,sy.later hw,su.later hw,sv.later hw,sx2.later hw,sy2.later hw,su2.later hw,sv2.later hw⟩))
 have HZ1 : Hid (fstE (gchk n xs ys m us vs) (gchk n2 xs2 ys2 m2 us2 vs2) = 0 -> (rboth n xs ys n2 xs2 ys2 = 0 /\ rboth m us vs m2 us2 vs2 = 0) /\ rboth n xs ys m2 us2 vs2 = 0 /\ rboth m us vs n2 xs2 ys2 = 0):=fun h => by
  obtain ⟨h1,h2⟩:=fstE_ok h
  exact ⟨⟨rboth0 (gchk_ok h1).1 (gchk_ok h2).1,rboth0 (gchk_ok h1).2 (gchk_ok h2).2⟩,rboth0 (gchk_ok h1).1 (gchk_ok h2).2,rboth0 (gchk_ok h1).2 (gchk_ok h2).1⟩
 generalize fstE (gchk n xs ys m us vs) (gchk n2 xs2 ys2 m2 us2 vs2) = E0 at *
 generalize rboth n xs ys n2 xs2 ys2 = e1 at *
 generalize rboth m us vs m2 us2 vs2 = e2 at *
 generalize rboth n xs ys m2 us2 vs2 = e3 at *
 generalize rboth m us vs n2 xs2 ys2 = e4 at *
 generalize rq n xs ys = r1 at *
 generalize rq m us vs = r2 at *
 generalize rq n2 xs2 ys2 = r3 at *
 generalize rq m2 us2 vs2 = r4 at *
 clear sx sy su sv sx2 sy2 su2 sv2
 have ka0 : X.cell? ⟨w.heap.size,0,none⟩ = some (.bool n):=HX.out.1.cell 0
 have ka1 : X.cell? ⟨w.heap.size,1,none⟩ = some (.slice a xs.length ca):=HX.out.1.cell 1
 have ka2 : X.cell? ⟨w.heap.size,2,none⟩ = some (.slice b ys.length cb):=HX.out.1.cell 2
 have ka3 : X.cell? ⟨w.heap.size,3,none⟩ = some (.bool m):=HX.out.1.cell 3
 have ka4 : X.cell? ⟨w.heap.size,4,none⟩ = some (.slice c us.length cc):=HX.out.1.cell 4
 have ka5 : X.cell? ⟨w.heap.size,5,none⟩ = some (.slice d vs.length cd):=HX.out.1.cell 5
 have kb0 : X.cell? ⟨w.heap.size + 1,0,none⟩ = some (.bool n2):=HX.out.2.1.cell 0
 have kb1 : X.cell? ⟨w.heap.size + 1,1,none⟩ = some (.slice a2 xs2.length ca2):=HX.out.2.1.cell 1
 have kb2 : X.cell? ⟨w.heap.size + 1,2,none⟩ = some (.slice b2' ys2.length cb2):=HX.out.2.1.cell 2
 have kb3 : X.cell? ⟨w.heap.size + 1,3,none⟩ = some (.bool m2):=HX.out.2.1.cell 3
 have kb4 : X.cell? ⟨w.heap.size + 1,4,none⟩ = some (.slice c2 us2.length cc2):=HX.out.2.1.cell 4
 have kb5 : X.cell? ⟨w.heap.size + 1,5,none⟩ = some (.slice d2 vs2.length cd2):=HX.out.2.1.cell 5
 go_enter Tryz.func108,Tryz.ntmps108
 go_wp2_with fail
 refine Calls.mono HL.out ?_
 rintro x w1 ⟨p,rfl,hpl,hpb,hb1⟩
 have HW1:=hid (bt HWY.out hb1)
 have HA1:=hid (HX.out.1.later (bt HYB.out hb1) HX.out.1.lt)
 have HB1:=hid (HX.out.2.1.later (bt HYB.out hb1) HX.out.2.1.lt)
 have HR1:=hid (HX.out.2.2.1.later (bt HYB.out hb1) HX.out.2.2.1.lt)
 have HP1:=hid hpb
 have hpX : X.heap.size < p:=Nat.lt_of_lt_of_le HY.out.lt hpl
 have hrX : w.heap.size + 1 + 1 < X.heap.size:=HX.out.2.2.1.lt
 clear hpb hb1 hpl HL ka0 ka1 ka2 ka3 ka4 ka5 kb0 kb1 kb2 kb3 kb4 kb5
 have ka0 : w1.cell? ⟨w.heap.size,0,none⟩ = some (.bool n):=HA1.out.cell 0
 have ka1 : w1.cell? ⟨w.heap.size,1,none⟩ = some (.slice a xs.length ca):=HA1.out.cell 1
 have ka2 : w1.cell? ⟨w.heap.size,2,none⟩ = some (.slice b ys.length cb):=HA1.out.cell 2
 have ka3 : w1.cell? ⟨w.heap.size,3,none⟩ = some (.bool m):=HA1.out.cell 3
 have ka4 : w1.cell? ⟨w.heap.size,4,none⟩ = some (.slice c us.length cc):=HA1.out.cell 4
 have ka5 : w1.cell? ⟨w.heap.size,5,none⟩ = some (.slice d vs.length cd):=HA1.out.cell 5
 have kb0 : w1.cell? ⟨w.heap.size + 1,0,none⟩ = some (.bool n2):=HB1.out.cell 0
 have kb1 : w1.cell? ⟨w.heap.size + 1,1,none⟩ = some (.slice a2 xs2.length ca2):=HB1.out.cell 1
 have kb2 : w1.cell? ⟨w.heap.size + 1,2,none⟩ = some (.slice b2' ys2.length cb2):=HB1.out.cell 2
 have kb3 : w1.cell? ⟨w.heap.size + 1,3,none⟩ = some (.bool m2):=HB1.out.cell 3
 have kb4 : w1.cell? ⟨w.heap.size + 1,4,none⟩ = some (.slice c2 us2.length cc2):=HB1.out.cell 4
 have kb5 : w1.cell? ⟨w.heap.size + 1,5,none⟩ = some (.slice d2 vs2.length cd2):=HB1.out.cell 5
 go_wp2_with fail
 refine Calls.mono (H1.out _ p E0 HW1.out (by omega) HP1.out) ?_
 rintro x w3 ⟨k1,av1,cv1,zs1,au1,cu1,ts1,c3,k2,av2,cv2,zs2,au2,cu2,ts2,code2,rfl,⟨⟨ov1,ou1⟩,⟨ov2,ou2⟩⟩,t3,t6,hp3,hg3,Wc,hca,hcb⟩
 have HCA:=hid (And.intro hca hcb)
 clear hca hcb
 have hw13 : w1.heap.size <= w3.heap.size:=hg3.size
 have hp1l : p < w1.heap.size:=HP1.out.lt
 have HW3 : Hid (Below w.heap.size w w3):=HW1.out.grown hg3 HW1.out.size (fun q hq => by have e:=Option.some.inj hq; omega)
 have HR3:=hid (HR1.out.kept' hg3 (by intro e; have:=Option.some.inj e; omega))
 have HTO:=hid (gtold_any p code2 k1 av1 zs1.length cv1 au1 ts1.length cu1 k2 av2 zs2.length cv2 au2 ts2.length cu2 w3 hp3)
 have HO3:=hid (And.intro ov1 (And.intro ou1 (And.intro ov2 ou2)))
 have h3:=g3_tells t3 (fun h => (HZ1.out h).1.1) (fun h => (HZ1.out h).1.2)
 have HTW:=hid (gtwo' h3 (g3_tells t6 (fun h => by subst h; exact (HZ1.out h3.ok.1).2.1) (fun h => by subst h; exact (HZ1.out h3.ok.1).2.2)))
 clear h3 t3 t6 hp3 hg3 ov1 ou1 ov2 ou2 H1 ka0 ka1 ka2 ka3 ka4 ka5 kb0 kb1 kb2 kb3 kb4 kb5
 go_wp2_with fail
 refine Calls.mono HTO.out ?_
 rintro x w4 ⟨rfl,hb4⟩
 have HW4x:=hid hb4.size
 have HR4:=hid (HR3.out.later hb4 HR3.out.lt)
 have HW4:=hid (bt HW3.out hb4)
 have HOO:=hid (And.intro (owns_later HO3.out.1 hb4) (And.intro (owns_later HO3.out.2.1 hb4) (And.intro (owns_later HO3.out.2.2.1 hb4) (owns_later HO3.out.2.2.2 hb4))))
 have hlo : w.heap.size <= w1.heap.size:=by omega
 clear hb4
 have m0 : w4.cell? ⟨w.heap.size + 1 + 1,0,none⟩ = some (.bool false):=HR4.out.cell 0
 have m1 : w4.cell? ⟨w.heap.size + 1 + 1,1,none⟩ = some (.slice none 0 0):=HR4.out.cell 1
 have m2' : w4.cell? ⟨w.heap.size + 1 + 1,2,none⟩ = some (.slice none 0 0):=HR4.out.cell 2
 have m3 : w4.cell? ⟨w.heap.size + 1 + 1,3,none⟩ = some (.bool false):=HR4.out.cell 3
 have m4 : w4.cell? ⟨w.heap.size + 1 + 1,4,none⟩ = some (.slice none 0 0):=HR4.out.cell 4
 have m5 : w4.cell? ⟨w.heap.size + 1 + 1,5,none⟩ = some (.slice none 0 0):=HR4.out.cell 5
 have f0:=HR4.out.free 0
 have f1:=HR4.out.free 1
 have f2:=HR4.out.free 2
 have f3:=HR4.out.free 3
 have f4:=HR4.out.free 4
 have f5:=HR4.out.free 5
 by_cases hc2 : code2 = 0
 · rw [if_pos hc2]
   have HFIN:=hid (HTW.out.1 hc2)
   clear HTW hc2
   go_wp2_with fail
   have B1:=box_put6 HR4.out (.bool k1) (.slice av1 zs1.length cv1) (.slice au1 ts1.length cu1) (.bool k2) (.slice av2 zs2.length cv2) (.slice au2 ts2.length cu2)
   have G1:=below_put6 HW4.out (w.heap.size + 1 + 1) (by omega) (.bool k1) (.slice av1 zs1.length cv1) (.slice au1 ts1.length cu1) (.bool k2) (.slice av2 zs2.length cv2) (.slice au2 ts2.length cu2)
   have hXX:=HX.out.2.2.2.size
   have hput : ∀ {base k : Nat} {v : Value} {l : List Value},w4.ownsRow base 69 1 v k l -> (∀ g,v.ownBlock = some g -> X.heap.size <= g) -> ((((((w4.setCell ⟨w.heap.size + 1 + 1,0,none⟩ (.bool k1)).setCell ⟨w.heap.size + 1 + 1,1,none⟩ (.slice av1 zs1.length cv1)).setCell ⟨w.heap.size + 1 + 1,2,none⟩ (.slice au1 ts1.length cu1)).setCell ⟨w.heap.size + 1 + 1,3,none⟩ (.bool k2)).setCell ⟨w.heap.size + 1 + 1,4,none⟩ (.slice av2 zs2.length cv2)).setCell ⟨w.heap.size + 1 + 1,5,none⟩ (.slice au2 ts2.length cu2)).ownsRow base 69 1 v k l:=fun h hb => own_put6 h _ (fun g hg => by have:=hb g hg; omega) _ _ _ _ _ _
   clear m0 m1 m2' m3 m4 m5 f0 f1 f2 f3 f4 f5
   refine bodyPost_ret (gres_run (by rfl) B1 _ rfl) rfl ?_
   exact ⟨k1,av1,cv1,zs1,au1,cu1,ts1,k2,av2,cv2,zs2,au2,cu2,ts2,code2,rfl,⟨owns_base (hput HOO.out.1 (fun g hg => by have:=(HOO.out.1.lt g hg).1; omega)) hlo,owns_base (hput HOO.out.2.1 (fun g hg => by have:=(HOO.out.2.1.lt g hg).1; omega)) hlo,owns_base (hput HOO.out.2.2.1 (fun g hg => by have:=(HOO.out.2.2.1.lt g hg).1; omega)) hlo,owns_base (hput HOO.out.2.2.2 (fun g hg => by have:=(HOO.out.2.2.2.lt g hg).1; omega)) hlo⟩,HFIN.out,G1,Wc,HCA.out.1.up hlo (Nat.le_refl _),HCA.out.2.up (Nat.le_refl _) (by have:=HW4x.out; simp [World.setCell]; omega)⟩
 · rw [if_neg hc2]
   have HFIN:=hid (HTW.out.2 hc2)
   clear HTW hc2
   go_wp2_with fail
   have B1:=box_put6 HR4.out (.bool false) (.slice none 0 0) (.slice none 0 0) (.bool false) (.slice none 0 0) (.slice none 0 0)
   have G1:=below_put6 HW4.out (w.heap.size + 1 + 1) (by omega) (.bool false) (.slice none 0 0) (.slice none 0 0) (.bool false) (.slice none 0 0) (.slice none 0 0)
   clear m0 m1 m2' m3 m4 m5 f0 f1 f2 f3 f4 f5
   refine bodyPost_ret (gres_run (by rfl) B1 _ rfl) rfl ?_
   exact ⟨false,none,0,[],none,0,[],false,none,0,[],none,0,[],code2,rfl,⟨World.ownsRow_nil _ _ _ _,World.ownsRow_nil _ _ _ _,World.ownsRow_nil _ _ _ _,World.ownsRow_nil _ _ _ _⟩,HFIN.out,G1,_,kcut_nil _ _ G1.size,kcut_nil _ _ (Nat.le_refl _)⟩
def KGq (w : World) (E : Int) (L : Prop) (q1 q2 : Rat) (x : Ending) (w' : World) : Prop:=∃ (r : G6) (code : Int),x = .returned (.tuple #[.agg #[.bool r.n,.slice r.a r.xs.length r.ca,.slice r.b r.ys.length r.cb,.bool r.m,.slice r.c r.us.length r.cc,.slice r.d r.vs.length r.cd],.int .i64 code]) /\ Hid (r.Ow w' w.heap.size) /\ Hid (GTells E L q1 q2 r.n r.xs r.ys r.m r.us r.vs code) /\ Hid (r.In w.heap.size w'.heap.size) /\ Below w.heap.size w w'
theorem kgq_of {w w' : World} {E : Int} {L : Prop} {q1 q2 : Rat} {x : Ending} (h : KToldC w E L q1 q2 x w') : KGq w E L q1 q2 x w':=by
 obtain ⟨n,a,ca,xs,b,cb,ys,m,c,cc,us,d,cd,vs,code,rfl,o,t,hb,W1,k1,k2⟩:=h
 refine ⟨⟨n,a,ca,xs,b,cb,ys,m,c,cc,us,d,cd,vs⟩,code,rfl,o,t,?_,hb⟩
 exact G6.in_of (g:=⟨n,a,ca,xs,b,cb,ys,m,c,cc,us,d,cd,vs⟩) o k1 k2
def fv (f : F3) : Array Value:=#[.bool f.n,.slice f.a f.xs.length f.ca,.slice f.b f.ys.length f.cb]
set_option maxRecDepth 100000 in
theorem gsameRatio_eq (n : Bool) (v u v' u' : Value) (xs ys : List Int) (w : World) (h : Sl w v xs) (g : Sl w u ys) (h' : Sl w v' xs) (g' : Sl w u' ys) (lx : xs.length <= 281474976710656) (ly : ys.length <= 281474976710656) :
 Calls Tryz.prog 64 #[.agg #[.bool n,v,u],.agg #[.bool n,v',u']] w fun e w' => e = .returned (.bool true) /\ Below w.heap.size w w':=by
 have HB : Hid (Below w.heap.size w ((w.alloc (.cells #[.bool n,v,u] 24)).alloc (.cells #[.bool n,v',u'] 24))):=bt (alloc_later _ _) (alloc_later _ _)
 have HN : Hid (Box ((w.alloc (.cells #[.bool n,v,u] 24)).alloc (.cells #[.bool n,v',u'] 24)) w.heap.size 24 #[.bool n,v,u]):=Box.later (Box.made w _ _) (alloc_later _ _) (by simp)
 have HM : Hid (Box ((w.alloc (.cells #[.bool n,v,u] 24)).alloc (.cells #[.bool n,v',u'] 24)) (w.heap.size + 1) 24 #[.bool n,v',u']):=by
  have e:=Box.made (w.alloc (.cells #[.bool n,v,u] 24)) 24 #[.bool n,v',u']
  simp at e
  exact e
 have H1:=hid (same_sl v v' xs xs _ (h.later HB.out) (h'.later HB.out) lx lx)
 rw [decide_eq_true rfl] at H1
 have H2:=hid (fun ww (hb : Below _ ((w.alloc (.cells #[.bool n,v,u] 24)).alloc (.cells #[.bool n,v',u'] 24)) ww) => same_sl u u' ys ys ww ((g.later HB.out).later hb) ((g'.later HB.out).later hb) ly ly)
 rw [decide_eq_true rfl] at H2
 have hbb : (n == n) = true:=by simp
 obtain ⟨a,ca,rfl,hr⟩:=h
 obtain ⟨b,cb,rfl,gr⟩:=g
 obtain ⟨a',ca',rfl,hr'⟩:=h'
 obtain ⟨b',cb',rfl,gr'⟩:=g'
 clear hr gr hr' gr'
 go_enter Tryz.func64,Tryz.ntmps64
 go_wp2_with fail
 refine Calls.mono H1.out ?_
 generalize ((w.alloc (.cells #[.bool n,.slice a xs.length ca,.slice b ys.length cb] 24)).alloc (.cells #[.bool n,.slice a' xs.length ca',.slice b' ys.length cb'] 24)) = X at *
 rintro e w1 ⟨rfl,hb1⟩
 obtain ⟨p0,p1,p2,_,_,_⟩:=res_box3 HN.out hb1
 obtain ⟨q0,q1,q2,_,_,_⟩:=res_box3 HM.out hb1
 have HC:=hid (H2.out w1 hb1)
 have HB1:=hid (bt HB.out hb1)
 clear hb1 H1 H2
 go_wp2_with fail
 refine Calls.mono HC.out ?_
 rintro e w2 ⟨rfl,hb2⟩
 have HBN:=hid (bt HB1.out hb2)
 clear hb2 HC
 go_wp2_with fail
 go_ret
 exact ⟨rfl,HBN.out⟩
end Go.Proofs.YtnhmaijmmkplkaaGreatDoor
