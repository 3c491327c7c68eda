/- My texts on the way to PortNames, one behind the other: contracts of the program and of the document's answers. -/
import Derived.Test.YtnhmaijmmkplkaaGreatDoorK1
import Derived.Test.YtnhmaijmmkplkaaGreatDoorK2
import Derived.Test.YtnhmaijmmkplkaaGreatDoorK3
import Derived.Test.YtnhmaijmmkplkaaGreatDoorShelf
import Derived.Lib.ItoaMem
import Derived.Lib.ItoaLen
import Derived.Lib.Walk
import Derived.Deep.LoopGhost
import Derived.Handy
import Derived.Lib.IndexLaws
import Derived.Deep.RegionHeld3
import Derived.Deep.RegionLaw
import Derived.Laws.AppendOwnNone
namespace Go.Proofs.YtnhmaijmmkplkaaGreatDoor
set_option maxHeartbeats 6400000
open Go.RowKit Go.Lib Go.Sort
set_option linter.unusedVariables false
def Tab (w : World) : Prop := Lib.TabIs Tryz.prog w "internal/strconv.uint64pow10" .u64 Lib.pow10Tab
theorem Tab.later {w w' : World} (h : Tab w) (hb : Below w.heap.size w w') : Tab w':=by
 unfold Tab Lib.TabIs World.var? at *
 cases hg : Tryz.prog.globalNamed "internal/strconv.uint64pow10" with
 | none => simp [hg] at h
 | some g =>
  simp only [hg,Option.bind_some] at h ⊢
  have hlt : g < w.heap.size:=by
   rcases Nat.lt_or_ge g w.heap.size with h' | h'
   · exact h'
   · rw [Array.getElem?_eq_none h'] at h; simp at h
  rw [hb.block g hlt]
  exact h
theorem holds_zero0 (w : World) (T : TypeId) (nd : Nat) (hs : nd <= 24) : Holds (fun (b : UInt8) => Value.int .u8 (b.toNat : Int)) (w.alloc (.cells zeros24 T)) w.heap.size 0 (Array.replicate nd (0 : UInt8)):=fun j hj => by
 have hj' : j < nd:=by simpa using hj
 refine ⟨?_,World.frozen?_alloc_new _ _ _ _⟩
 rw [World.cell?_alloc_new,zeros24_at _ (by omega),getElem!_pos _ j hj]
 simp
theorem fin_pos0 (w : World) (o : Obj) (dk : Array UInt8) (k : Nat) : Below w.heap.size w ((putRow (fun (b : UInt8) => Value.int .u8 (b.toNat : Int)) (w.alloc o) w.heap.size 0 dk).drewN k):=by
 rw [alloc_eq_grow]
 obtain ⟨os',_,e⟩:=putRow_grow_new (fun (b : UInt8) => Value.int .u8 (b.toNat : Int)) w #[o] w.heap.size 0 dk (Nat.le_refl _)
 rw [e]
 refine ⟨rfl,rfl,rfl,?_,fun j hj => ?_⟩
 · show w.heap.size <= (w.heap ++ os').size
   simp
 · show (w.heap ++ os')[j]? = _
   rw [Array.getElem?_append_left hj]
set_option maxRecDepth 100000 in
theorem formatUint_any (u : Nat) (hu64 : u < 18446744073709551616) (w : World) (htab : Tab w) :
 Calls Tryz.prog 228 #[.int .u64 u,.int .i64 10] w fun e w' => e = .returned (.string ⟨(Lib.decDigits u).toArray⟩) /\ Below w.heap.size w w':=by
 by_cases hs : u < 100
 · have hlt : (u : Int) < 100:=by omega
   go_enter Tryz.func228,Tryz.ntmps228
   go_wp2_with fail
   refine (Tryz.internal_strconv_small u hs _).mono ?_
   rintro e w' ⟨rfl,rfl⟩
   go_wp2
   go_ret
   exact ⟨rfl,Below.refl _ _⟩
 · have hu1 : 1 <= u:=by omega
   have hge : ¬ (u : Int) < 100:=by omega
   have hnd20 : Lib.nDigits u <= 20:=nDigits_le20 u hu64
   have hnd24 : Lib.nDigits u <= 24:=by omega
   have hal : Tryz.prog.arrayLen 232 = 24:=by kernel_rfl
   have hsl : ∀ W,(Instr.sliceAt 232 (.pointer (some ⟨w.heap.size,0,none⟩)) none (some (.int .i64 (Lib.nDigits u : Int))) none).run Tryz.prog W = .ok (.slice (some ⟨w.heap.size,0,none⟩) (Lib.nDigits u) 24) W:=fun W => by
    rw [run_sliceAt_array_h W 232 ⟨w.heap.size,0,none⟩ (by kernel_rfl) .i64 (Lib.nDigits u : Int) (by omega) (by rw [hal]; omega)]
    go_simp
   have hH0:=holds_zero0 w 232 (Lib.nDigits u) (by omega)
   have hfmt:=Tryz.internal_strconv_formatBase10 w.heap.size 0 24 u (Array.replicate (Lib.nDigits u) 0) (w.alloc (.cells Lib.zeros24 232)) hH0 (by rw [Array.size_replicate]; exact Lib.lt_pow_nDigits u) hu64 (by rw [Array.size_replicate]; omega)
   rw [Array.size_replicate] at hfmt
   have HH0:=hid hH0
   have HFM:=hid hfmt
   have HT:=hid (Lib.tabIs_alloc htab (.cells Lib.zeros24 232))
   clear hH0 hal hfmt htab
   go_enter Tryz.func228,Tryz.ntmps228
   go_wp2_with fail
   refine (Tryz.internal_strconv_numDigits u hu1 hu64 _ HT.out).mono ?_
   rintro e w' ⟨rfl,rfl⟩
   go_wp2_with fail
   refine Calls.mono HFM.out ?_
   rintro e w' ⟨rfl,k,v',dk,rfl,hF⟩
   have HF:=hid hF
   have hcv : (convert 90 9 (.slice (some ⟨w.heap.size,0,none⟩) (Lib.nDigits u) 24)).run Tryz.prog ((putRow (fun (b : UInt8) => Value.int .u8 (b.toNat : Int)) (w.alloc (.cells Lib.zeros24 232)) w.heap.size 0 dk).drewN k) = .ok (.string ⟨(Lib.decDigits u).toArray⟩) ((putRow (fun (b : UInt8) => Value.int .u8 (b.toNat : Int)) (w.alloc (.cells Lib.zeros24 232)) w.heap.size 0 dk).drewN k):=by
    have h:=run_convert_bytes_back (P:=Tryz.prog) ((putRow (fun (b : UInt8) => Value.int .u8 (b.toNat : Int)) (w.alloc (.cells Lib.zeros24 232)) w.heap.size 0 dk).drewN k) 90 9 5 ⟨w.heap.size,0,none⟩ 24 (Lib.decDigits u) Tryz.underlying90 Tryz.underlying5 Tryz.underlying9 (fun j hj => by
     rw [Lib.add_plain,Lib.row_is_numeral hF j hj,World.cell?_drewN]
     exact cell?_putRow (fun (b : UInt8) => Value.int .u8 (b.toNat : Int)) _ w.heap.size 0 _ dk HH0.out (by rw [hF.size,Array.size_replicate]) j (by rw [hF.size]; rw [Lib.decDigits_length] at hj; exact hj))
    rw [Lib.decDigits_length] at h
    exact h
   clear hF
   go_wp2
   go_ret
   exact ⟨rfl,fin_pos0 w _ dk k⟩
set_option maxRecDepth 100000 in
theorem format_any (u : Nat) (hu64 : u < 18446744073709551616) (w : World) (htab : Tab w) :
 Calls Tryz.prog 191 #[.int .u64 u,.int .i64 10] w fun e w' => e = .returned (.string ⟨(Lib.decDigits u).toArray⟩) /\ Below w.heap.size w w':=by
 go_enter Tryz.func191,Tryz.ntmps191
 go_wp2_with fail
 refine (formatUint_any u hu64 w htab).mono ?_
 rintro e w' ⟨rfl,hb⟩
 go_wp2
 go_ret
 exact ⟨rfl,hb⟩
end Go.Proofs.YtnhmaijmmkplkaaGreatDoor
namespace Go.Proofs.YtnhmaijmmkplkaaGreatDoor
set_option maxHeartbeats 6400000
open Go.RowKit Go.Lib
set_option linter.unusedVariables false
def pad : Nat -> Nat -> List UInt8
 | 0,_ => []
 | k + 1,p => pad k (p / 10) ++ [UInt8.ofNat (48 + p % 10)]
theorem digits_pad (hi : Nat) (h : 1 <= hi) : ∀ (k p : Nat),p < 10 ^ k -> decDigits (hi * 10 ^ k + p) = decDigits hi ++ pad k p
 | 0,p,hp => by
  have : p = 0:=by simpa using hp
  subst this; simp [pad]
 | k + 1,p,hp => by
  have hk : 1 <= 10 ^ k:=Nat.one_le_pow _ _ (by decide)
  have e1 : hi * 10 ^ (k + 1) = hi * 10 ^ k * 10:=by rw [Nat.pow_succ,Nat.mul_assoc]
  have h2 : hi <= hi * 10 ^ k:=Nat.le_mul_of_pos_right hi hk
  have hge : ¬ hi * 10 ^ (k + 1) + p < 10:=by omega
  rw [decDigits,dif_neg hge]
  have e2 : (hi * 10 ^ (k + 1) + p) / 10 = hi * 10 ^ k + p / 10:=by omega
  have e3 : (hi * 10 ^ (k + 1) + p) % 10 = p % 10:=by omega
  rw [e2,e3,digits_pad hi h k (p / 10) (by rw [Nat.pow_succ] at hp; omega),pad,List.append_assoc]
theorem pad_eq : ∀ (k p : Nat),p < 10 ^ (k + 1) -> pad (k + 1) p = List.replicate (k + 1 - nDigits p) 48 ++ decDigits p /\ nDigits p <= k + 1
 | 0,p,hp => by
  have h10 : p < 10:=by simpa using hp
  rw [nDigits_small h10,decDigits_one h10]
  refine ⟨?_,Nat.le_refl _⟩
  simp [pad]
  congr 1
  omega
 | k + 1,p,hp => by
  by_cases h10 : p < 10
  · have ih:=pad_eq k (p / 10) (by rw [Nat.pow_succ] at hp; omega)
    have e0 : p / 10 = 0:=by omega
    rw [e0,nDigits_small (by omega),decDigits_one (by omega)] at ih
    rw [nDigits_small h10,decDigits_one h10]
    refine ⟨?_,by omega⟩
    show pad (k + 1) (p / 10) ++ _ = _
    rw [e0,ih.1]
    have e1 : k + 1 + 1 - 1 = (k + 1 - 1) + 1:=by omega
    rw [e1,List.replicate_succ',show p % 10 = p by omega]
    rfl
  · have ih:=pad_eq k (p / 10) (by rw [Nat.pow_succ] at hp; omega)
    rw [nDigits_big h10]
    refine ⟨?_,by omega⟩
    show pad (k + 1) (p / 10) ++ _ = _
    rw [ih.1,decDigits.eq_def p,dif_neg h10,List.append_assoc]
    congr 2
    omega
theorem repeat_noughts : ∀ c,repeatL [48] c = List.replicate c 48
 | 0 => rfl
 | c + 1 => by show [48] ++ repeatL [48] c = _; rw [repeat_noughts c]; rfl
theorem piece_step (ps : List Int) (hp : Pc ps) (k : Nat) (hk : k + 1 < ps.length) (htop : 0 < ps[ps.length - 1]?.getD 0) :
 decDigits (pval (ps.drop k)).toNat = decDigits (pval (ps.drop (k + 1))).toNat ++ (List.replicate (9 - nDigits (ps[k]?.getD 0).toNat) 48 ++ decDigits (ps[k]?.getD 0).toNat) /\ nDigits (ps[k]?.getD 0).toNat <= 9:=by
 have hb:=hp.at k
 have e1 : ps.drop k = ps[k]?.getD 0 :: ps.drop (k + 1):=by
  rw [List.drop_eq_getElem_cons (by omega),List.getElem?_eq_getElem (by omega)]; rfl
 have hpc : Pc (ps.drop (k + 1)):=fun q hq => hp q (List.mem_of_mem_drop hq)
 have hpos : 1 <= pval (ps.drop (k + 1)):=by
  have main : ∀ l : List Int,Pc l -> 0 < l.length -> 0 < l[l.length - 1]?.getD 0 -> 1 <= pval l:=by
   intro l
   induction l with
   | nil => intro _ h; simp at h
   | cons q l ih =>
    intro hc _ ht
    have hq:=hc q List.mem_cons_self
    show 1 <= q + pval l * 1000000000
    rcases l with _ | ⟨q2,l⟩
    · simp at ht; simp [pval]; omega
    · have:=ih (fun x hx => hc x (List.mem_cons_of_mem _ hx)) (by simp) (by simpa using ht)
      omega
  refine main _ hpc (by rw [List.length_drop]; omega) ?_
  rw [List.getElem?_drop,List.length_drop,show k + 1 + (ps.length - (k + 1) - 1) = ps.length - 1 by omega]
  exact htop
 have e2 : (pval (ps.drop k)).toNat = (pval (ps.drop (k + 1))).toNat * 10 ^ 9 + (ps[k]?.getD 0).toNat:=by
  rw [e1]
  show (ps[k]?.getD 0 + pval (ps.drop (k + 1)) * 1000000000).toNat = _
  omega
 have pe:=pad_eq 8 (ps[k]?.getD 0).toNat (by omega)
 rw [e2,digits_pad _ (by omega) 9 _ (by omega),pe.1]
 exact ⟨rfl,pe.2⟩
theorem builder_later {T e B b : Nat} {bs : List Value} {w w' : World} (h : IsBuilder T e B b bs w) (hb : Below w.heap.size w w') : IsBuilder T e B b bs w':=by
 have main : ∀ p,BuilderAt T e B b p bs w -> BuilderAt T e B b p bs w':=by
  intro p h
  have hlt:=h.lt
  obtain ⟨hB,v,hbk,hown,hne⟩:=h
  exact ⟨hB,v,(hb.block b hlt).trans hbk,owns_later hown hb,hne⟩
 exact h.imp (main _) (main _)
theorem builder_lt {T e B b : Nat} {bs : List Value} {w : World} (h : IsBuilder T e B b bs w) : b < w.heap.size:=by
 rcases h with h | h
 · exact h.lt
 · exact h.lt
theorem ret_text {a b : ByteArray} {c d : Int} (h : a = b) (g : c = d) : Ending.returned (.tuple #[.string a,.int .i64 c]) = .returned (.tuple #[.string b,.int .i64 d]):=by rw [h,g]
set_option maxRecDepth 100000 in
theorem print_any (v : Value) (xs : List Int) (w : World) (h : Sl w v xs) (hn : xs.length <= 281474976710656) (htab : Tab w) :
 Calls Tryz.prog 143 #[v] w fun e w' => e = .returned (.tuple #[.string (if chk xs = 0 then ⟨(decDigits (val xs).toNat).toArray⟩ else ⟨#[]⟩),.int .i64 (chk xs)]) /\ Below w.heap.size w w':=by
 by_cases hc : chk xs = 0
 · have HC:=hid (check_sl v xs w h hn)
   rw [hc] at HC ⊢
   rw [if_pos rfl]
   have l1:=(chk_ok hc).1
   have t1:=(chk_ok hc).2
   have wx:=h.wd
   clear hc
   by_cases h0 : xs.length = 0
   · have hx : xs = []:=List.eq_nil_of_length_eq_zero h0
     have HF : Hid ((⟨(decDigits (val xs).toNat).toArray⟩ : ByteArray) = ⟨#[48]⟩):=by
      show _ = _
      rw [hx,val_nil,show Int.toNat 0 = 0 from rfl,decDigits_one (by decide)]
      rfl
     obtain ⟨a,cap,rfl,hr⟩:=h
     have hz : ((xs.length : Int) == 0) = true:=by simp [hx]
     clear hx h0 hr t1
     go_enter Tryz.func143,Tryz.ntmps143
     go_wp2_with fail
     refine Calls.mono HC.out ?_
     rintro e w' ⟨rfl,rfl⟩
     go_wp2_with fail
     go_ret2
     exact ⟨ret_text HF.out.symm rfl,Below.refl _ _⟩
   · have hz : ((xs.length : Int) == 0) = false:=by simp; exact fun e => h0 (by simp [e])
     have HS:=hid (split_any v xs w h l1 t1 (by omega))
     have HT:=hid htab
     obtain ⟨a,cap,rfl,hr⟩:=h
     clear hr t1 h0 htab
     go_enter Tryz.func143,Tryz.ntmps143
     go_wp2_with fail
     refine Calls.mono HC.out ?_
     rintro e w' ⟨rfl,rfl⟩
     go_wp2_with fail
     refine Calls.mono HS.out ?_
     rintro e w1 ⟨vp,ps,rfl,op,hpc,hpv,hp0,hp1,htop,hb1⟩
     obtain ⟨gp,cp,hvp,hcp1,hcp2⟩:=own_shape' op hp0
     rw [hvp] at op ⊢
     have hgp:=op.lt gp rfl
     have hcell : ∀ j,j < ps.length -> w1.cell? ⟨gp,j,none⟩ = some (.int .u32 (ps[j]?.getD 0)):=fun j hj => by
      rw [op.cellAt j (by omega),List.getElem?_map,List.getElem?_eq_getElem hj]; rfl
     have HCE:=hid hcell
     have HPV:=hid hpv
     have HTP:=hid htop
     obtain ⟨K,hK⟩ : ∃ K,K = ps.length:=⟨_,rfl⟩
     have HK:=hid hK
     rw [<- hK] at hp0 hp1 hcp1 ⊢
     have hs1:=hb1.size
     have hcp3 : cp <= 9223372036854775807:=by unfold maxLen at hcp2; omega
     obtain ⟨b,hb⟩ : ∃ b,b = w1.heap.size:=⟨_,rfl⟩
     have HBB : Hid (IsBuilder 92 5 b b (byteCells []) (w1.alloc (.cells #[.pointer none,.slice none 0 0] 92))):=by
      left
      exact ⟨Nat.le_refl _,.slice none 0 0,by rw [hb]; exact heap_alloc_new w1 _,World.ownsRow_nil _ _ _ _,by simp [Value.ownBlock]⟩
     have hbA : Below w.heap.size w (w1.alloc (.cells #[.pointer none,.slice none 0 0] 92)):=hb1.alloc hs1 _
     have hbB : Below b w1 (w1.alloc (.cells #[.pointer none,.slice none 0 0] 92)):=(Below.refl _ _).alloc (by omega) _
     have hgpb : gp < b:=by omega
     have hwb : w.heap.size <= b:=by omega
     clear op hcell hpv htop hK hcp2 hvp hs1 HS HC
     go_wp2_with fail
     rw [<- hb]
     clear hb
     go_loopw [7] (fun t wr => ∃ (k : Nat) (txt : List UInt8),k <= K /\ t = .int .i64 ((k : Int) - 1) /\ Hid (k < K -> txt = decDigits (pval (ps.drop k)).toNat) /\ Hid (k = K -> txt = []) /\ txt.length <= 9 * (K - k) /\
      IsBuilder 92 5 b b (byteCells txt) wr /\ Below w.heap.size w wr /\ Below b w1 wr) (fun t _ => (RowKit.intOf t + 1).toNat)
     case atStart => exact ⟨K,[],Nat.le_refl _,rfl,fun e => by omega,fun _ => rfl,by simp,HBB.out,hbA,hbB⟩
     case round =>
      obtain ⟨k,txt,hk,rfl,HX,HY,hlen,hbu,hb2,hb3⟩:=hrel
      have hblt:=builder_lt hbu
      rcases k with _ | k
      · have HX' : Hid (txt = decDigits (val xs).toNat):=by
         show _ = _
         rw [HX.out hp0,List.drop_zero,HPV.out]
        clear HX HY
        go_wp2_with fail
        refine (Tryz.Builder_String_any b b txt wr hbu (by omega)).mono ?_
        rintro e w3 ⟨rfl,hb4⟩
        have hbF : Below w.heap.size w w3:=hb2.trans (hb4.mono hwb)
        go_wp2_with fail
        go_ret2
        exact ⟨ret_text (by rw [HX'.out]) rfl,hbF⟩
      · have ek : (((k + 1 : Nat) : Int) - 1) = (k : Int):=by omega
        rw [ek]
        clear ek
        have bp:=hpc.at k
        have x1 : wr.cell? ⟨gp,k,none⟩ = some (.int .u32 (ps[k]?.getD 0)):=(hb3.cell (p:=⟨gp,k,none⟩) hgpb).trans (HCE.out k (by have:=HK.out; omega))
        obtain ⟨p,hp⟩ : ∃ p : Nat,(p : Int) = ps[k]?.getD 0:=⟨(ps[k]?.getD 0).toNat,by omega⟩
        rw [<- hp] at x1 bp
        have hp9 : p < 1000000000:=by omega
        have HP:=hid hp
        have htw:=HT.out.later hb2
        clear hp bp
        go_wp2_with fail
        refine (format_any p (by omega) wr htw).mono ?_
        rintro e w4 ⟨rfl,hb4⟩
        have hnd : nDigits p <= 9:=(pad_eq 8 p (by omega)).2
        obtain ⟨S,hS⟩ : ∃ S : ByteArray,S = ⟨(decDigits p).toArray⟩:=⟨_,rfl⟩
        have hSs : S.size = nDigits p:=by rw [hS,<- decDigits_length]; exact List.size_toArray
        rw [<- hS]
        have hSn : S.size <= 9:=by omega
        have HSE:=hid hS
        have HSS:=hid hSs
        have hbu4:=builder_later hbu hb4
        have hs4:=hb4.size
        have hb24 : Below w.heap.size w w4:=bt hb2 hb4
        have hb34 : Below b w1 w4:=hb3.trans (hb4.mono (by omega))
        clear hS hSs hbu hb4 htw x1 hb2 hb3
        by_cases hlast : k + 1 < K
        · have hli : (k : Int) < (K : Int) - 1:=by omega
          go_wp2_with fail
          rw [show (9 : Int) - (S.size : Int) = ((9 - S.size : Nat) : Int) by omega]
          refine (Tryz.strings_Repeat ⟨#[48]⟩ (9 - S.size) w4 (by omega) (by show 1 * _ <= _; omega)).mono ?_
          rintro e w5 ⟨rfl,hb5⟩
          have hbu5:=builder_later hbu4 hb5
          have hs5:=hb5.size
          obtain ⟨Z,hZ⟩ : ∃ Z : ByteArray,Z = ⟨(repeatL [48] (9 - S.size)).toArray⟩:=⟨_,rfl⟩
          have hZs : Z.size = 9 - S.size:=by rw [hZ]; show (repeatL [48] (9 - S.size)).toArray.size = _; rw [List.size_toArray,repeatL_length]; simp
          have hZ' : Z = ⟨(repeatL (ByteArray.mk #[48]).data.toList (9 - S.size)).toArray⟩:=hZ
          rw [<- hZ']
          have HZE:=hid hZ
          have hb25 : Below w.heap.size w w5:=bt hb24 hb5
          have hb35 : Below b w1 w5:=hb34.trans (hb5.mono (by omega))
          have HZS:=hid hZs
          have hz9 : Z.size <= 9:=by omega
          clear hZ hZ' hZs hbu4 hb5 hb24 hb34
          go_wp2_with fail
          refine (Tryz.Builder_WriteString b b (byteCells txt) Z w5 hbu5 (by rw [byteCells_length]; omega) (by omega)).mono ?_
          rintro e w6 ⟨rfl,hbu6,hb6⟩
          have hs6:=hb6.size
          have hb26 : Below w.heap.size w w6:=hb25.trans (hb6.mono hwb)
          have hb36 : Below b w1 w6:=hb35.trans hb6
          rw [strCells_eq,<- byteCells_append] at hbu6
          clear hbu5 hb6 hb25 hb35
          go_wp2_with fail
          refine (Tryz.Builder_WriteString b b (byteCells (txt ++ Z.data.toList)) S w6 (.inr hbu6) (by have e1 : Z.data.toList.length = Z.size:=Array.length_toList; rw [byteCells_length,List.length_append]; omega) (by omega)).mono ?_
          rintro e w7 ⟨rfl,hbu7,hb7⟩
          have hb27 : Below w.heap.size w w7:=hb26.trans (hb7.mono hwb)
          have hb37 : Below b w1 w7:=hb36.trans hb7
          rw [strCells_eq,<- byteCells_append] at hbu7
          have HB7:=hid (show IsBuilder 92 5 b b (byteCells (txt ++ Z.data.toList ++ S.data.toList)) w7 from .inr hbu7)
          have HTX : Hid (txt ++ Z.data.toList ++ S.data.toList = decDigits (pval (ps.drop k)).toNat):=by
           show _ = _
           have st:=piece_step ps hpc k (by have:=HK.out; omega) HTP.out
           have ep : (ps[k]?.getD 0).toNat = p:=by have:=HP.out; omega
           rw [ep] at st
           rw [st.1,HX.out hlast,HZE.out,HSS.out,HSE.out,repeat_noughts,List.append_assoc]
          have HLN : Hid ((txt ++ Z.data.toList ++ S.data.toList).length <= 9 * (K - k)):=by
           show _ <= _
           have e1 : Z.data.toList.length = Z.size:=Array.length_toList
           have e2 : S.data.toList.length = S.size:=Array.length_toList
           have:=HZS.out
           rw [List.length_append,List.length_append]
           omega
          clear hbu6 hbu7 hb7 hb26 hb36 HX HY
          go_wp2_with fail
          go_roundw
          case rel => exact ⟨k,_,by omega,rfl,fun _ => HTX.out,fun e => by omega,HLN.out,HB7.out,hb27,hb37⟩
          case measure => simp [RowKit.intOf]
        · have hkK : k + 1 = K:=by omega
          have hli : ¬ (k : Int) < (K : Int) - 1:=by omega
          have htx : txt = []:=HY.out hkK
          go_wp2_with fail
          refine (Tryz.Builder_WriteString b b (byteCells txt) S w4 hbu4 (by rw [byteCells_length]; omega) (by omega)).mono ?_
          rintro e w5 ⟨rfl,hbu5,hb5⟩
          rw [strCells_eq,<- byteCells_append] at hbu5
          have hb25 : Below w.heap.size w w5:=hb24.trans (hb5.mono hwb)
          have hb35 : Below b w1 w5:=hb34.trans hb5
          have HB5:=hid (show IsBuilder 92 5 b b (byteCells (txt ++ S.data.toList)) w5 from .inr hbu5)
          have HTX : Hid (txt ++ S.data.toList = decDigits (pval (ps.drop k)).toNat):=by
           show _ = _
           have ed : ps.drop k = [ps[k]?.getD 0]:=by
            rw [List.drop_eq_getElem_cons (by have:=HK.out; omega),List.getElem?_eq_getElem (by have:=HK.out; omega),List.drop_eq_nil_of_le (by have:=HK.out; omega)]; rfl
           have ep : (ps[k]?.getD 0).toNat = p:=by have:=HP.out; omega
           rw [htx,ed,HSE.out]
           simp [pval,ep]
          have HLN : Hid ((txt ++ S.data.toList).length <= 9 * (K - k)):=by
           show _ <= _
           have e2 : S.data.toList.length = S.size:=Array.length_toList
           rw [List.length_append,htx]
           simp
           omega
          clear hbu4 hbu5 hb5 hb24 hb34 HX HY htx
          go_wp2_with fail
          go_roundw
          case rel => exact ⟨k,_,by omega,rfl,fun _ => HTX.out,fun e => by omega,HLN.out,HB5.out,hb25,hb35⟩
          case measure => simp [RowKit.intOf]
 · have hne : (chk xs != 0) = true:=by simp [hc]
   rw [if_neg hc]
   clear hc
   go_enter Tryz.func143,Tryz.ntmps143
   go_wp2_with fail
   refine (check_sl v xs w h hn).mono ?_
   rintro e w' ⟨rfl,rfl⟩
   go_wp2
   go_ret2
   exact ⟨rfl,Below.refl _ _⟩
end Go.Proofs.YtnhmaijmmkplkaaGreatDoor
namespace Go.Proofs.YtnhmaijmmkplkaaGreatDoor
set_option maxHeartbeats 6400000
open Go.RowKit
set_option linter.unusedVariables false
def Dg (l : List UInt8) : Prop:=∀ c ∈ l,48 <= (c.toNat : Int) /\ (c.toNat : Int) <= 57
def IsNum (l : List UInt8) : Prop:=0 < l.length /\ (l[0]?.getD 0 = 48 -> l.length <= 1) /\ Dg l
theorem byte_at (s : ByteArray) (k : Nat) (h : k < s.size) : s.data.toList[k]? = some s[k]:=by
 have : k < s.data.toList.length:=by simpa using h
 rw [List.getElem?_eq_getElem this]; rfl
theorem size_list (s : ByteArray) : s.data.toList.length = s.size:=Array.length_toList
theorem mem_at {l : List UInt8} {c : UInt8} (h : c ∈ l) : ∃ k : Nat,k < l.length /\ l[k]? = some c:=by
 obtain ⟨k,hk,e⟩:=List.getElem_of_mem h
 exact ⟨k,hk,by rw [List.getElem?_eq_getElem hk,e]⟩
open Classical in
set_option maxRecDepth 100000 in
theorem isNumber_loop (s : ByteArray) (w : World) (hs : s.size <= 65536) (hp : 0 < s.size) (hem : s.toList.isEmpty = false) (hz : ((s[0].toNat : Int) = 48 /\ s.size = 1) \/ ¬ (s[0].toNat : Int) = 48) (H1 : Hid (s.data.toList[0]?.getD 0 = 48 -> s.data.toList.length <= 1)) :
 Calls Tryz.prog 272 #[.string s] w fun e w' => e = .returned (.bool (decide (IsNum s.data.toList))) /\ w = w':=by
 have hl:=size_list s
 have HL:=hid hl
 have hen : ¬ s.toList = []:=fun e => by rw [e] at hem; simp at hem
 have hb : ((s[0].toNat : Int) == 48) = true /\ ¬ 1 < s.size \/ ((s[0].toNat : Int) == 48) = false:=by
  rcases hz with ⟨h1,h2⟩ | h1
  · left; exact ⟨by simp [h1],by omega⟩
  · right; simp [h1]
 clear hl hz
 rcases hb with ⟨c0b,c1⟩ | c0b
 all_goals
  go_enter Tryz.func272,Tryz.ntmps272
  go_wp2_with fail
  go_loop [18] (fun t => ∃ k : Nat,k <= s.size /\ t = .int .i64 k /\ Hid (∀ j : Nat,j < k -> 48 <= ((s.data.toList[j]?.getD 0).toNat : Int) /\ ((s.data.toList[j]?.getD 0).toNat : Int) <= 57)) (fun t => s.size - (intOf t).toNat)
  case atStart => exact ⟨0,by omega,rfl,fun j hj => by omega⟩
  case round =>
   obtain ⟨k,hk,rfl,HJ⟩:=hrel
   by_cases hlt : k < s.size
   · have bk:=byte_at s k hlt
     by_cases d1 : (s[k].toNat : Int) < 48
     · have HF : Hid (decide (IsNum s.data.toList) = false):=decide_eq_false (fun h => by
        have:=h.2.2 _ (List.mem_of_getElem? bk)
        omega)
       clear bk
       go_wp2_with fail
       go_ret
       exact ⟨ret_bool HF.out.symm,rfl⟩
     · by_cases d2 : 57 < (s[k].toNat : Int)
       · have HF : Hid (decide (IsNum s.data.toList) = false):=decide_eq_false (fun h => by
          have:=h.2.2 _ (List.mem_of_getElem? bk)
          omega)
         clear bk
         go_wp2_with fail
         go_ret
         exact ⟨ret_bool HF.out.symm,rfl⟩
       · have HJ' : Hid (∀ j : Nat,j < k + 1 -> 48 <= ((s.data.toList[j]?.getD 0).toNat : Int) /\ ((s.data.toList[j]?.getD 0).toNat : Int) <= 57):=fun j hj => by
          by_cases e : j = k
          · rw [e,bk]; show 48 <= (s[k].toNat : Int) /\ (s[k].toNat : Int) <= 57; omega
          · exact HJ.out j (by omega)
         clear bk
         go_wp2_with fail
         go_round
         case rel => exact ⟨k + 1,by omega,by go_num,HJ'⟩
         case measure => simp [intOf]; omega
   · have HF : Hid (decide (IsNum s.data.toList) = true):=decide_eq_true (by
      refine ⟨by have:=HL.out; omega,H1.out,fun c hc => ?_⟩
      obtain ⟨j,hj,e⟩:=mem_at hc
      have:=HJ.out j (by have:=HL.out; omega)
      rw [e] at this
      exact this)
     go_wp2_with fail
     go_ret
     exact ⟨ret_bool HF.out.symm,rfl⟩
open Classical in
set_option maxRecDepth 100000 in
theorem isNumber_any (s : ByteArray) (w : World) (hs : s.size <= 65536) :
 Calls Tryz.prog 272 #[.string s] w fun e w' => e = .returned (.bool (decide (IsNum s.data.toList))) /\ w = w':=by
 have hl:=size_list s
 by_cases h0 : s.size = 0
 · have HF : Hid (decide (IsNum s.data.toList) = false):=decide_eq_false (fun h => by have:=h.1; omega)
   have hse : s = ⟨#[]⟩:=by
    obtain ⟨d⟩:=s
    have : d = #[]:=Array.eq_empty_of_size_eq_zero h0
    rw [this]
   subst hse
   clear h0 hl
   go_enter Tryz.func272,Tryz.ntmps272
   go_wp2
   go_ret
   exact ⟨ret_bool HF.out.symm,rfl⟩
 · have hp : 0 < s.size:=by omega
   have b0:=byte_at s 0 hp
   have hem : s.toList.isEmpty = false:=by
    rw [ByteArray.toList_eq]
    cases hx : s.data.toList with
    | nil => rw [hx] at hl; simp at hl; omega
    | cons _ _ => rfl
   have hen : ¬ s.toList = []:=fun e => by rw [e] at hem; simp at hem
   by_cases c0 : (s[0].toNat : Int) = 48
   · have c0b : ((s[0].toNat : Int) == 48) = true:=by simp [c0]
     have hc48 : s[0] = 48:=UInt8.toNat_inj.1 (by show s[0].toNat = 48; omega)
     by_cases c1 : 1 < s.size
     · have HF : Hid (decide (IsNum s.data.toList) = false):=decide_eq_false (fun h => by
        have:=h.2.1 (by rw [b0,hc48]; rfl)
        omega)
       clear hl h0 b0 hen hc48
       go_enter Tryz.func272,Tryz.ntmps272
       go_wp2_with fail
       go_ret
       exact ⟨ret_bool HF.out.symm,rfl⟩
     · have H1 : Hid (s.data.toList[0]?.getD 0 = 48 -> s.data.toList.length <= 1):=fun _ => by omega
       exact isNumber_loop s w hs hp hem (.inl ⟨c0,by omega⟩) H1
   · have H1 : Hid (s.data.toList[0]?.getD 0 = 48 -> s.data.toList.length <= 1):=fun e => by
      rw [b0] at e
      have e : s[0] = 48:=e
      exact absurd (by rw [e]; rfl) c0
     exact isNumber_loop s w hs hp hem (.inr c0) H1
def numTo (l : List UInt8) : Nat -> Int
 | 0 => 0
 | k + 1 => numTo l k * 10 + (((l[k]?.getD 48).toNat : Int) - 48)
theorem numTo_bounds {l : List UInt8} (hd : Dg l) : ∀ k,0 <= numTo l k /\ numTo l k < 10 ^ k
 | 0 => ⟨Int.le_refl _,by simp [numTo]⟩
 | k + 1 => by
  obtain ⟨h0,h1⟩:=numTo_bounds hd k
  have hc : 48 <= ((l[k]?.getD 48).toNat : Int) /\ ((l[k]?.getD 48).toNat : Int) <= 57:=by
   by_cases hk : k < l.length
   · rw [List.getElem?_eq_getElem hk]; exact hd _ (List.getElem_mem hk)
   · rw [List.getElem?_eq_none (by omega)]; decide
  show 0 <= numTo l k * 10 + _ /\ numTo l k * 10 + _ < _
  rw [Int.pow_succ]
  omega
theorem numTo_congr (l l' : List UInt8) : ∀ k,(∀ j,j < k -> l[j]?.getD 48 = l'[j]?.getD 48) -> numTo l k = numTo l' k
 | 0,_ => rfl
 | k + 1,h => by
  show numTo l k * 10 + _ = numTo l' k * 10 + _
  rw [numTo_congr l l' k (fun j hj => h j (by omega)),h k (by omega)]
theorem numTo_add (l : List UInt8) (m : Nat) : ∀ n,numTo l (m + n) = numTo l m * 10 ^ n + numTo (l.drop m) n
 | 0 => by simp [numTo]
 | n + 1 => by
  have ih:=numTo_add l m n
  show numTo l (m + n) * 10 + _ = numTo l m * 10 ^ (n + 1) + (numTo (l.drop m) n * 10 + _)
  rw [ih,Int.pow_succ,List.getElem?_drop,Int.add_mul,Int.mul_assoc,Int.add_assoc]
  rfl
theorem Dg.drop {l : List UInt8} (h : Dg l) (k : Nat) : Dg (l.drop k):=fun c hc => h c (List.mem_of_mem_drop hc)
theorem Dg.take {l : List UInt8} (h : Dg l) (k : Nat) : Dg (l.take k):=fun c hc => h c (List.mem_of_mem_take hc)
set_option maxRecDepth 100000 in
theorem wordOf_any (s : ByteArray) (w : World) (hs : s.size <= 9) (hd : Dg s.data.toList) :
 Calls Tryz.prog 296 #[.string s] w fun e w' => e = .returned (.int .u32 (numTo s.data.toList s.size)) /\ w = w':=by
 have HD:=hid hd
 clear hd
 go_enter Tryz.func296,Tryz.ntmps296
 go_wp2_with fail
 go_loop [3,7] (fun x t => ∃ (k : Nat) (y : Int),k <= s.size /\ t = .int .i64 k /\ x = .int .u32 y /\ Hid (y = numTo s.data.toList k)) (fun _ t => s.size - (intOf t).toNat)
 case atStart => exact ⟨0,0,by omega,rfl,rfl,rfl⟩
 case round =>
  obtain ⟨k,y,hk,rfl,rfl,HY⟩:=hrel
  by_cases hlt : k < s.size
  · have bk:=byte_at s k hlt
    have hb : 48 <= (s[k].toNat : Int) /\ (s[k].toNat : Int) <= 57:=HD.out _ (List.mem_of_getElem? bk)
    have hy:=numTo_bounds HD.out k
    rw [<- HY.out] at hy
    have hp : (10 : Int) ^ k <= 10 ^ 8:=by
     obtain ⟨d,hd⟩ : ∃ d,8 = k + d:=⟨8 - k,by omega⟩
     rw [hd,Int.pow_add]
     have h1 : (0 : Int) < 10 ^ k:=Int.pow_pos (by decide)
     have h2 : (0 : Int) < 10 ^ d:=Int.pow_pos (by decide)
     have h3 : (10 : Int) ^ k * 1 <= 10 ^ k * 10 ^ d:=Int.mul_le_mul_of_nonneg_left (by omega) (by omega)
     omega
    have hy0 : 0 <= y:=hy.1
    have hy1 : y < 100000000:=by have:=hy.2; omega
    have hb0:=hb.1
    have hb1:=hb.2
    have HY' : Hid (y * 10 + ((s[k].toNat : Int) - 48) = numTo s.data.toList (k + 1)):=by
     show _ = numTo s.data.toList k * 10 + _
     rw [bk,<- HY.out]; rfl
    clear hy hp hb bk HY
    go_wp2
    go_round
    case rel => exact ⟨k + 1,_,by omega,by go_num,rfl,HY'.out⟩
    case measure => simp [intOf]; omega
  · have hkn : k = s.size:=by omega
    go_wp2
    go_ret
    exact ⟨ret_int (by rw [HY.out,hkn]),rfl⟩
theorem times_step (ys us : List Int) (k : Nat) (x c t : Int) (hk : k < us.length) (ht : c + ys[k]?.getD 0 * 1000000000 = t)
 (h : valTo us k + c * 4294967296 ^ k = valTo ys k * 1000000000 + x) :
 valTo (us.set k (t % 4294967296)) (k + 1) + t / 4294967296 * 4294967296 ^ (k + 1) = valTo ys (k + 1) * 1000000000 + x:=by
 rw [valTo_set us k _ hk,valTo_succ,pw_succ]
 have e:=carry_step (4294967296 ^ k) (t % 4294967296) (t / 4294967296) t (by omega)
 have e2 : t * 4294967296 ^ k = c * 4294967296 ^ k + ys[k]?.getD 0 * 4294967296 ^ k * 1000000000:=by
  rw [<- ht,Int.add_mul,Int.mul_assoc,Int.mul_comm 1000000000,<- Int.mul_assoc]
 omega
theorem val_snoc (us : List Int) (z : Int) : val (us ++ [z]) = val us + z * 4294967296 ^ us.length:=by
 unfold val
 rw [List.length_append,List.length_singleton,valTo_succ,valTo_congr (us ++ [z]) us us.length (fun j hj => by rw [List.getElem?_append_left hj])]
 simp
set_option maxRecDepth 100000 in
theorem timesPiece_any (base n : Nat) (v : Value) (ys : List Int) (x : Int) (w : World) (ho : w.ownsRow base 69 1 v n (ys.map (Value.int .u32))) (hwy : Wd ys) (hn : n <= 1000000) (hx : 0 <= x /\ x <= 4294967295) (hbase : base <= w.heap.size) :
 Calls Tryz.prog 295 #[v,.int .u32 x] w fun e w' => ∃ (v' : Value) (zs : List Int),e = .returned v' /\ w'.ownsRow base 69 1 v' zs.length (zs.map (Value.int .u32)) /\ Wd zs /\ zs.length <= n + 1 /\ val zs = val ys * 1000000000 + x /\ Below base w w':=by
 obtain ⟨i0,hi,hz0,hz1,hz2⟩:=info_parts Tryz.infoW
 have hx1:=hx.1
 have hx2:=hx.2
 rcases ho.2 with ⟨rfl,rfl⟩ | ⟨g,cap,cur,rfl,hrest⟩
 · have hy : ys = []:=List.eq_nil_of_length_eq_zero (by have:=ho.1; simpa using this)
   subst hy
   clear ho
   by_cases h0 : x = 0
   · subst h0
     go_enter Tryz.func295,Tryz.ntmps295
     go_wp2
     refine wp_loop_rounds 1 ?_
     rw [rounds_succ]
     go_wp2
     go_ret
     exact ⟨_,[],rfl,World.ownsRow_nil _ _ _ _,Wd.nil,by simp,by simp [val,valTo],Below.refl _ _⟩
   · have hne : (x != 0) = true:=by simp [h0]
     clear h0
     go_enter Tryz.func295,Tryz.ntmps295
     go_wp2_with fail
     refine wp_loop_rounds 1 ?_
     rw [rounds_succ]
     go_wp2_with (at_builtin; refine wpList_append_own _ rfl _ _ 22 rfl base 69 i0 (.int .u32 0) 1 4 Tryz.underlying22 hi hz0 hz1 hz2 rfl (by decide) _ _ _ rfl (World.ownsRow_nil _ _ _ _) ⟨w.heap.size,0,none⟩ 1 1 [.int .u32 x] rfl rfl (cell_one_new _ _ _) (by simp [Value.oneCell']) (by unfold maxLen; omega) (by omega) (by simp; omega) ?_)
     intro v3 w3 op3 hg3 _
     have hb3 : Below base w w3:=((Below.refl base w).alloc (by omega) _).grown hg3 (by simp; omega) (fun g hg => by simp [Value.ownBlock] at hg)
     have HP : Hid (w3.ownsRow base 69 1 v3 [x].length ([x].map (Value.int .u32))):=op3
     clear op3 hg3
     go_wp2
     go_ret
     exact ⟨v3,[x],rfl,HP.out,Wd.one hx,by simp,by rw [val_one,val_nil]; omega,hb3⟩
 · have ho' : OwnC w base g n cap ys:=ho
   have hlen:=ho'.len
   have hgl:=World.ownsRow.lt ho g rfl
   have hcap:=ho'.cap
   have hcp1:=hcap.1
   have hcp2 : cap <= 9223372036854775807:=by have:=hcap.2; unfold maxLen at this; omega
   have HLN:=hid hlen
   clear hlen hrest ho hx hcap
   go_enter Tryz.func295,Tryz.ntmps295
   go_wp2_with fail
   go_loopw [5,12] (fun c t wr => ∃ (k : Nat) (r : Int) (us : List Int),k <= n /\ t = .int .i64 k /\ c = .int .u64 r /\ 0 <= r /\ r <= 4294967295 /\ Wd us /\ Hid (valTo us k + r * 4294967296 ^ k = valTo ys k * 1000000000 + x) /\
    Hid (∀ j,k <= j -> us[j]?.getD 0 = ys[j]?.getD 0) /\ OwnC wr base g n cap us /\ Below base w wr) (fun _ t _ => n - (intOf t).toNat)
   case atStart => exact ⟨0,x,ys,by omega,rfl,by go_num,by omega,by omega,hwy,show _ = _ by simp [valTo],fun _ _ => rfl,ho',Below.refl _ _⟩
   case round =>
    obtain ⟨k,r,us,hk,rfl,rfl,r0,r1,hwu,HV,HK,hou,hb⟩:=hrel
    by_cases hlt : k < n
    · have y1:=hou.cell k hlt
      have f1:=hou.free k
      have bu:=hwu.at k
      have hlu:=hou.len
      obtain ⟨t,ht⟩ : ∃ t,t = r + us[k]?.getD 0 * 1000000000:=⟨_,rfl⟩
      have HT:=hid ht
      have HV':=hid (times_step ys us k x r t (by omega) (by rw [ht,HK.out k (by omega)]) HV.out)
      have HK' : Hid (∀ j,k + 1 <= j -> (us.set k (t % 4294967296))[j]?.getD 0 = ys[j]?.getD 0):=fun j hj => by
       rw [List.getElem?_set,if_neg (by omega)]
       exact HK.out j (by omega)
      have HO':=hid (hou.set k (t % 4294967296)).1
      have HB':=hid (hb.setCell (p:=⟨g,k,none⟩) hgl.1 (.int .u32 (t % 4294967296)))
      have ht0 : 0 <= t /\ t <= 18446744073709551615:=by omega
      clear hlu hou hb HV HK ht
      go_wp2
      go_roundw
      case rel => rw [<- HT.out]; exact ⟨k + 1,t / 4294967296,us.set k (t % 4294967296),by omega,by go_num,by go_num,by have:=HT.out; omega,by have:=HT.out; omega,hwu.set _ (by omega),HV',HK',HO'.out,HB'.out⟩
      case measure => simp [intOf]; omega
    · have hkm : k = n:=by omega
      subst hkm
      have HV' : Hid (val us + r * 4294967296 ^ us.length = val ys * 1000000000 + x):=by
       show _ = _
       have e:=HV.out
       rw [valTo_stable us k (by have:=hou.len; omega),valTo_stable ys k (by have:=HLN.out; omega)] at e
       rw [hou.len]
       exact e
      clear HV
      by_cases h0 : r = 0
      · subst h0
        have HE : Hid (val us = val ys * 1000000000 + x):=by show _ = _; have:=HV'.out; omega
        have HO:=hid (owns_len hou)
        have HU:=hid hou.len
        clear hou HV'
        go_wp2_with fail
        go_ret
        exact ⟨_,us,rfl,HO.out,hwu,by have:=HU.out; omega,HE.out,hb⟩
      · have hne : (r != 0) = true:=by simp [h0]
        obtain ⟨R,hR⟩ : ∃ R,R = us.map (Value.int .u32):=⟨_,rfl⟩
        have HM : Hid ((us ++ [r]).map (Value.int .u32) = R ++ [.int .u32 r]):=by show _ = _; rw [hR]; simp
        have hop : wr.ownsRow base 69 1 (.slice (some ⟨g,0,none⟩) k cap) k R:=by rw [hR]; exact hou
        have HU:=hid hou.len
        have hbs:=hb.size
        clear hR hou h0
        go_wp2_with (at_builtin; refine wpList_append_own _ rfl _ _ 22 rfl base 69 i0 (.int .u32 0) 1 4 Tryz.underlying22 hi hz0 hz1 hz2 rfl (by decide) _ _ _ rfl (hop.alloc _) ⟨wr.heap.size,0,none⟩ 1 1 [.int .u32 r] rfl rfl (cell_one_new _ _ _) (by simp [Value.oneCell']) (by unfold maxLen; omega) (by omega) (by simp; omega) ?_)
        intro v3 w3 op3 hg3 _
        have hb3 : Below base w w3:=(hb.alloc (by omega) _).grown hg3 (by simp; omega) (fun g2 hg2 => by have:=hop.lt g2 hg2; omega)
        have HPP : Hid (w3.ownsRow base 69 1 v3 (us ++ [r]).length ((us ++ [r]).map (Value.int .u32))):=by
         show World.ownsRow _ _ _ _ _ _ _
         rw [HM.out,List.length_append,List.length_singleton,HU.out]
         exact op3
        clear op3 hg3 hop
        go_wp2
        go_ret
        exact ⟨v3,us ++ [r],rfl,HPP.out,hwu.append (Wd.one ⟨r0,r1⟩),by rw [List.length_append,HU.out]; simp,by rw [val_snoc]; exact HV'.out,hb3⟩
theorem list_size (s : ByteArray) {l : List UInt8} (h : s.data.toList = l) : s.size = l.length:=by rw [<- h]; exact (size_list s).symm
theorem extract_list (s : ByteArray) (i j : Nat) : (s.extract i j).data.toList = (s.data.toList.drop i).take (j - i):=by
 rw [ByteArray.data_extract,Array.toList_extract,List.extract_eq_take_drop]
theorem numTo_take (l : List UInt8) (n : Nat) : numTo (l.take n) n = numTo l n :=
 numTo_congr _ _ _ (fun j hj => by rw [List.getElem?_take,if_pos hj])
theorem numTo_piece (l : List UInt8) (m n k : Nat) (t : Int) (ht : t = numTo l m) (h : m = 0 \/ k % 9 = 0) (hn : n = (k - 1) % 9 + 1) (hk : 0 < k) : t * 1000000000 + numTo (l.drop m) n = numTo l (m + n):=by
 rw [numTo_add,ht]
 rcases h with h | h
 · rw [h]; simp [numTo]
 · have : n = 9:=by omega
   rw [this]; rfl
set_option maxRecDepth 100000 in
theorem join_any (s : ByteArray) (w : World) (hs : s.size <= 65536) (hd : Dg s.data.toList) :
 Calls Tryz.prog 274 #[.string s] w fun e w' => ∃ (v : Value) (zs : List Int),e = .returned v /\ w'.ownsRow w.heap.size 69 1 v zs.length (zs.map (Value.int .u32)) /\ Wd zs /\ zs.length <= s.size /\ val zs = numTo s.data.toList s.size /\ Below w.heap.size w w':=by
 have HD:=hid hd
 have HL:=hid (size_list s)
 clear hd
 go_enter Tryz.func274,Tryz.ntmps274
 go_wp2_with fail
 go_loopg [0,3] s.size (fun k t v wr => ∃ (m : Nat) (s' : ByteArray) (ys : List Int),t = .string s' /\ m + k = s.size /\ s'.size = k /\ Hid (s'.data.toList = s.data.toList.drop m) /\ wr.ownsRow w.heap.size 69 1 v ys.length (ys.map (Value.int .u32)) /\ Wd ys /\ ys.length <= m /\
  Hid (val ys = numTo s.data.toList m) /\ Hid (m = 0 \/ k % 9 = 0) /\ Below w.heap.size w wr)
 case atStart => exact ⟨0,s,[],rfl,by omega,rfl,show _ = _ by simp,World.ownsRow_nil _ _ _ _,Wd.nil,by simp,show _ = _ by simp [val,valTo,numTo],.inl rfl,Below.refl _ _⟩
 case round =>
  obtain ⟨m,s',ys,rfl,hmk,hsz,HS,hop,hwy,hly,HV,HN,hb⟩:=hrel
  by_cases h0 : s'.size = 0
  · have hse : s' = ⟨#[]⟩:=by
     obtain ⟨d⟩:=s'
     have : d = #[]:=Array.eq_empty_of_size_eq_zero h0
     rw [this]
    subst hse
    have hm : m = s.size:=by omega
    have HV' : Hid (val ys = numTo s.data.toList s.size):=by show _ = _; rw [HV.out,hm]
    have HO:=hid hop
    clear hop HS h0
    go_wp2_with fail
    go_ret
    exact ⟨_,ys,rfl,HO.out,hwy,by omega,HV'.out,hb⟩
  · have hp : 0 < s'.size:=by omega
    have hem : s'.toList.isEmpty = false:=by
     rw [ByteArray.toList_eq]
     have hl:=size_list s'
     cases hx : s'.data.toList with
     | nil => rw [hx] at hl; simp at hl; omega
     | cons _ _ => rfl
    have hen : ¬ s'.toList = []:=fun e => by rw [e] at hem; simp at hem
    have hl1 : (s'.extract 0 ((gk - 1) % 9 + 1)).data.toList = (s.data.toList.drop m).take ((gk - 1) % 9 + 1):=by rw [extract_list,HS.out]; simp
    have hl2 : (s'.extract ((gk - 1) % 9 + 1) gk).data.toList = s.data.toList.drop (m + ((gk - 1) % 9 + 1)):=by
     rw [extract_list,HS.out,List.drop_drop,List.take_of_length_le (by rw [List.length_drop,HL.out]; omega)]
    have z1 : (s'.extract 0 ((gk - 1) % 9 + 1)).size = (gk - 1) % 9 + 1:=by
     rw [list_size _ hl1,List.length_take,List.length_drop,HL.out]; omega
    have z2 : (s'.extract ((gk - 1) % 9 + 1) gk).size = gk - ((gk - 1) % 9 + 1):=by
     rw [list_size _ hl2,List.length_drop,HL.out]; omega
    have hdg : Dg (s'.extract 0 ((gk - 1) % 9 + 1)).data.toList:=by rw [hl1]; exact (HD.out.drop _).take _
    have hnum : numTo (s'.extract 0 ((gk - 1) % 9 + 1)).data.toList (s'.extract 0 ((gk - 1) % 9 + 1)).size = numTo (s.data.toList.drop m) ((gk - 1) % 9 + 1):=by
     rw [z1,hl1,numTo_take]
    have hpc:=numTo_piece s.data.toList m ((gk - 1) % 9 + 1) gk _ HV.out HN.out rfl (by omega)
    have hbd:=numTo_bounds (HD.out.drop m) ((gk - 1) % 9 + 1)
    have hp9 : (10 : Int) ^ ((gk - 1) % 9 + 1) <= 10 ^ 9:=by
     have h9 : (gk - 1) % 9 + 1 <= 9:=by omega
     generalize (gk - 1) % 9 + 1 = q at h9
     obtain ⟨d,hd⟩ : ∃ d,9 = q + d:=⟨9 - q,by omega⟩
     rw [hd,Int.pow_add]
     have h1 : (0 : Int) < 10 ^ q:=Int.pow_pos (by decide)
     have h2 : (0 : Int) < 10 ^ d:=Int.pow_pos (by decide)
     have h3 : (10 : Int) ^ q * 1 <= 10 ^ q * 10 ^ d:=Int.mul_le_mul_of_nonneg_left (by omega) (by omega)
     omega
    have HW:=hid (wordOf_any (s'.extract 0 ((gk - 1) % 9 + 1)) wr (by rw [z1]; omega) hdg)
    rw [hnum] at HW
    obtain ⟨x,hx⟩ : ∃ x,x = numTo (s.data.toList.drop m) ((gk - 1) % 9 + 1):=⟨_,rfl⟩
    rw [<- hx] at HW hpc hbd
    have hx0:=hbd.1
    have hx1 : x <= 4294967295:=by have:=hbd.2; omega
    have hbs:=hb.size
    have HT:=hid (timesPiece_any w.heap.size _ u3 ys x wr hop hwy (by omega) ⟨hx0,hx1⟩ hbs)
    have HPC:=hid hpc
    have HL2:=hid hl2
    have HN' : Hid (m + ((gk - 1) % 9 + 1) = 0 \/ (gk - ((gk - 1) % 9 + 1)) % 9 = 0):=by right; omega
    clear hop hx hl1 hl2 z1 hdg hnum hpc hbd hp9 HV HN HS
    go_wp2_with fail
    refine Calls.mono HW.out ?_
    rintro e w1 ⟨rfl,rfl⟩
    go_wp2_with fail
    refine Calls.mono HT.out ?_
    rintro e w2 ⟨v2,zs,rfl,ho2,hwz,hlz,hvz,hb2⟩
    have HO2:=hid ho2
    have HV2 : Hid (val zs = numTo s.data.toList (m + ((gk - 1) % 9 + 1))):=by show _ = _; rw [hvz]; exact HPC.out
    clear ho2 hvz HT HW HPC
    go_wp2_with fail
    go_roundg (gk - ((gk - 1) % 9 + 1))
    case measure => omega
    case rel => exact ⟨m + ((gk - 1) % 9 + 1),_,zs,rfl,by omega,z2,HL2,HO2.out,hwz,by omega,HV2,HN',hb.trans hb2⟩
set_option maxRecDepth 100000 in
theorem told_own (base n : Nat) (v : Value) (ys : List Int) (w : World) (ho : w.ownsRow base 69 1 v n (ys.map (Value.int .u32))) (hw : Wd ys) (hN : n <= 1099511627776) :
 Calls Tryz.prog 273 #[v] w fun e w' => ∃ v zs code,e = .returned (.tuple #[v,.int .i64 code]) /\ w.ownsRow base 69 1 v zs.length (zs.map (Value.int .u32)) /\ Tells 0 (val ys) zs code /\ w = w':=by
 have hlen : ys.length = n:=by have:=ho.1; simpa using this
 have sx:=sz_le ys
 rw [hlen] at sx
 have HT:=hid (Tells.told hw)
 rcases ho.2 with ⟨rfl,rfl⟩ | ⟨g,cap,cur,rfl,hrest⟩
 · have hy : ys = []:=List.eq_nil_of_length_eq_zero hlen
   subst hy
   rw [if_neg (by simp [sz,szTo]),if_neg (by simp [sz,szTo])] at HT
   have HZ:=hid (size_any none 0 0 [] w.heap.size w (by obtain ⟨a,cap,hv,hr⟩:=Reads.own ho hw; simp only [Value.slice.injEq] at hv; obtain ⟨rfl,_,rfl⟩:=hv; exact hr) (by omega))
   clear ho
   go_enter Tryz.func273,Tryz.ntmps273
   go_wp2_with fail
   refine Calls.mono HZ.out ?_
   rintro e w' ⟨rfl,rfl⟩
   rw [show sz [] = 0 from rfl]
   go_wp2
   go_ret2
   exact ⟨_,[],_,rfl,World.ownsRow_nil _ _ _ _,HT.out,rfl⟩
 · have ho' : OwnC w base g n cap ys:=ho
   have hcap:=ho'.cap
   have hcp1:=hcap.1
   have hcp2 : cap <= 9223372036854775807:=by have:=hcap.2; unfold maxLen at this; omega
   have hr : Reads w w.heap.size (some ⟨g,0,none⟩) n cap ys:=by
    obtain ⟨a,cap,hv,hr⟩:=Reads.own ho' hw
    simp only [Value.slice.injEq] at hv
    obtain ⟨rfl,_,rfl⟩:=hv
    exact hr
   by_cases hs : 8192 < sz ys
   · rw [if_pos hs,if_pos hs] at HT
     have hsi : (8192 : Int) < (sz ys : Int):=by omega
     clear hlen hrest hcap
     go_enter Tryz.func273,Tryz.ntmps273
     go_wp2_with fail
     refine (size_any _ _ _ ys _ _ hr (by omega)).mono ?_
     rintro e w' ⟨rfl,rfl⟩
     go_wp2
     go_ret2
     exact ⟨_,[],_,rfl,World.ownsRow_nil _ _ _ _,HT.out,rfl⟩
   · rw [if_neg hs,if_neg hs] at HT
     have hsi : (sz ys : Int) <= 8192:=by omega
     have HO:=hid (owns_len (ho'.take (sz ys) sx))
     clear hlen hrest hcap
     go_enter Tryz.func273,Tryz.ntmps273
     go_wp2_with fail
     refine (size_any _ _ _ ys _ _ hr (by omega)).mono ?_
     rintro e w' ⟨rfl,rfl⟩
     go_wp2
     go_ret2
     exact ⟨_,_,_,rfl,HO.out,HT.out,rfl⟩
open Classical in
noncomputable def pErr (s : ByteArray) : Int:=if 65536 < s.size then 3 else if IsNum s.data.toList then 0 else 110
open Classical in
set_option maxRecDepth 100000 in
theorem parse_any (s : ByteArray) (w : World) (hs : s.size <= maxLen) :
 Calls Tryz.prog 245 #[.string s] w (Told w (pErr s) (numTo s.data.toList s.size)):=by
 unfold maxLen at hs
 by_cases h1 : 65536 < s.size
 · have HE : Hid (pErr s = 3):=by show _ = _; unfold pErr; rw [if_pos h1]
   have HT:=hid (Tells.err (t:=numTo s.data.toList s.size) (e:=3) (by decide))
   rw [HE.out]
   go_enter Tryz.func245,Tryz.ntmps245
   go_wp2_with fail
   go_ret2
   exact ⟨_,[],_,rfl,World.ownsRow_nil _ _ _ _,HT.out,Below.refl _ _⟩
 · have h2 : s.size <= 65536:=by omega
   by_cases hnum : IsNum s.data.toList
   · have HE : Hid (pErr s = 0):=by show _ = _; unfold pErr; rw [if_neg h1,if_pos hnum]
     have HI:=hid (isNumber_any s w h2)
     rw [decide_eq_true hnum] at HI
     have HJ:=hid (join_any s w h2 hnum.2.2)
     rw [HE.out]
     clear h1 hnum
     go_enter Tryz.func245,Tryz.ntmps245
     go_wp2_with fail
     refine Calls.mono HI.out ?_
     rintro e w' ⟨rfl,rfl⟩
     go_wp2_with fail
     refine Calls.mono HJ.out ?_
     rintro e w1 ⟨v,zs,rfl,ho,hwz,hlz,hvz,hb⟩
     have HT:=hid (told_own _ _ v zs w1 ho hwz (by omega))
     clear ho
     go_wp2_with fail
     refine Calls.mono HT.out ?_
     rintro e w2 ⟨v2,us,code,rfl,ho2,ht2,rfl⟩
     rw [hvz] at ht2
     have HO2:=hid ho2
     have HT2:=hid ht2
     clear ho2 ht2 hvz
     go_wp2
     go_ret2
     exact ⟨_,us,code,rfl,HO2.out,HT2.out,hb⟩
   · have HE : Hid (pErr s = 110):=by show _ = _; unfold pErr; rw [if_neg h1,if_neg hnum]
     have HI:=hid (isNumber_any s w h2)
     rw [decide_eq_false hnum] at HI
     have HT:=hid (Tells.err (t:=numTo s.data.toList s.size) (e:=110) (by decide))
     rw [HE.out]
     clear h1 hnum
     go_enter Tryz.func245,Tryz.ntmps245
     go_wp2_with fail
     refine Calls.mono HI.out ?_
     rintro e w' ⟨rfl,rfl⟩
     go_wp2_with fail
     go_ret2
     exact ⟨_,[],_,rfl,World.ownsRow_nil _ _ _ _,HT.out,Below.refl _ _⟩
end Go.Proofs.YtnhmaijmmkplkaaGreatDoor
namespace Go.Proofs.YtnhmaijmmkplkaaGreatDoor
set_option maxHeartbeats 6400000
open Go.RowKit Go.Lib
set_option linter.unusedVariables false
theorem numTo_snoc (l : List UInt8) (c : UInt8) : numTo (l ++ [c]) (l.length + 1) = numTo l l.length * 10 + ((c.toNat : Int) - 48):=by
 show numTo (l ++ [c]) l.length * 10 + _ = _
 rw [numTo_congr (l ++ [c]) l l.length (fun j hj => by rw [List.getElem?_append_left hj])]
 simp
theorem toNat_digit (d : Nat) (h : d < 10) : (UInt8.ofNat (48 + d)).toNat = 48 + d:=by
 rw [UInt8.toNat_ofNat']; omega
theorem Dg.snoc {l : List UInt8} (h : Dg l) {c : UInt8} (hc : 48 <= (c.toNat : Int) /\ (c.toNat : Int) <= 57) : Dg (l ++ [c]):=fun x hx => by
 rcases List.mem_append.1 hx with hx | hx
 · exact h x hx
 · simp at hx; rw [hx]; exact hc
theorem isNum_dec : ∀ n : Nat,IsNum (decDigits n) /\ numTo (decDigits n) (decDigits n).length = n /\ (0 < n -> ¬ (decDigits n)[0]?.getD 0 = 48)
 | n => by
  by_cases h : n < 10
  · rw [decDigits_one h]
    have e:=toNat_digit n h
    refine ⟨⟨by simp,fun _ => by simp,fun c hc => ?_⟩,?_,fun h0 => ?_⟩
    · rw [List.mem_singleton.1 hc,e]; omega
    · show (0 : Int) * 10 + (((UInt8.ofNat (48 + n)).toNat : Int) - 48) = n
      rw [e]; omega
    · intro e2
      have e2 : UInt8.ofNat (48 + n) = 48:=e2
      rw [e2] at e
      have : (48 : UInt8).toNat = 48:=rfl
      omega
  · obtain ⟨⟨h1,h2,h3⟩,h4,h5⟩:=isNum_dec (n / 10)
    have e:=toNat_digit (n % 10) (by omega)
    rw [decDigits,dif_neg h]
    have h6:=h5 (by omega)
    have hz : (decDigits (n / 10) ++ [UInt8.ofNat (48 + n % 10)])[0]?.getD 0 = (decDigits (n / 10))[0]?.getD 0:=by rw [List.getElem?_append_left h1]
    refine ⟨⟨by simp,fun e2 => ?_,h3.snoc (by rw [e]; omega)⟩,?_,fun _ => by rw [hz]; exact h6⟩
    · rw [hz] at e2; exact absurd e2 h6
    · rw [List.length_append,List.length_singleton,numTo_snoc,h4,e]; omega
theorem num_pos (l : List UInt8) (hd : Dg l) (h0 : ¬ l[0]?.getD 0 = 48) (hp : 0 < l.length) : ∀ k,1 <= numTo l (k + 1)
 | 0 => by
  show 1 <= (0 : Int) * 10 + (((l[0]?.getD 48).toNat : Int) - 48)
  rw [List.getElem?_eq_getElem hp] at h0 ⊢
  have h1:=hd _ (List.getElem_mem hp)
  have h2 : ¬ (l[0].toNat : Int) = 48:=fun e => h0 (UInt8.toNat_inj.1 (by show l[0].toNat = 48; omega))
  simp only [Option.getD_some]
  omega
 | k + 1 => by
  have ih:=num_pos l hd h0 hp k
  have hb:=numTo_bounds hd (k + 1)
  show 1 <= numTo l (k + 1) * 10 + (((l[k + 1]?.getD 48).toNat : Int) - 48)
  have hc : 48 <= ((l[k + 1]?.getD 48).toNat : Int):=by
   by_cases hk : k + 1 < l.length
   · rw [List.getElem?_eq_getElem hk]; exact (hd _ (List.getElem_mem hk)).1
   · rw [List.getElem?_eq_none (by omega)]; decide
  omega
theorem dec_num : ∀ (k : Nat) (l : List UInt8),l.length = k + 1 -> IsNum l -> decDigits (numTo l l.length).toNat = l
 | 0,l,hl,h => by
  obtain ⟨c,rfl⟩:=List.length_eq_one_iff.1 hl
  have hc:=h.2.2 c (by simp)
  have e : numTo [c] [c].length = (c.toNat : Int) - 48:=by simp [numTo]
  rw [e,decDigits_one (by omega)]
  congr 1
  refine UInt8.toNat_inj.1 ?_
  rw [toNat_digit _ (by omega)]; omega
 | k + 1,l,hl,h => by
  have hne : l ≠ []:=fun e => by rw [e] at hl; simp at hl
  obtain ⟨l',c,rfl⟩ : ∃ l' c,l = l' ++ [c]:=⟨l.dropLast,l.getLast hne,(List.dropLast_concat_getLast hne).symm⟩
  have hl' : l'.length = k + 1:=by simp at hl; exact hl
  have hd' : Dg l':=fun x hx => h.2.2 x (List.mem_append_left _ hx)
  have hc:=h.2.2 c (by simp)
  have h0 : ¬ l'[0]?.getD 0 = 48:=fun e => by
   have:=h.2.1 (by rw [List.getElem?_append_left (by omega)]; exact e)
   omega
  have hn : IsNum l':=⟨by omega,fun e => absurd e h0,hd'⟩
  have ih:=dec_num k l' hl' hn
  have hp:=num_pos l' hd' h0 (by omega) k
  rw [<- hl'] at hp
  rw [List.length_append,List.length_singleton,numTo_snoc]
  obtain ⟨q,hq⟩ : ∃ q : Nat,numTo l' l'.length = q:=⟨(numTo l' l'.length).toNat,by omega⟩
  rw [hq] at ih hp ⊢
  rw [decDigits,dif_neg (by omega)]
  have e1 : ((q : Int) * 10 + ((c.toNat : Int) - 48)).toNat / 10 = q:=by omega
  have e2 : ((q : Int) * 10 + ((c.toNat : Int) - 48)).toNat % 10 = c.toNat - 48:=by omega
  rw [e1,e2]
  have ih : decDigits q = l':=ih
  rw [ih]
  congr 2
  refine UInt8.toNat_inj.1 ?_
  rw [toNat_digit _ (by omega)]; omega
theorem wdec_len : ∀ (k n : Nat),n < 10 ^ (k + 1) -> (decDigits n).length <= k + 1
 | 0,n,h => by rw [decDigits_one (by simpa using h)]; simp
 | k + 1,n,h => by
  by_cases c : n < 10
  · rw [decDigits_one c]; simp
  · have ih:=wdec_len k (n / 10) (by rw [Nat.pow_succ] at h; omega)
    rw [decDigits,dif_neg c,List.length_append,List.length_singleton]
    omega
theorem ten_pow (m : Nat) : (4294967296 : Int) ^ m <= 10 ^ (10 * m):=by
 induction m with
 | zero => simp
 | succ m ih =>
  rw [pw_succ,show 10 * (m + 1) = 10 * m + 10 by omega,Int.pow_add]
  have p:=pw_pos m
  have e : (10 : Int) ^ 10 = 10000000000:=by decide
  rw [e]
  omega
theorem dec_short' {xs : List Int} (hw : Wd xs) (m : Nat) (hl : xs.length <= m) : (decDigits (val xs).toNat).length <= 10 * m + 1:=by
 have h1:=val_lt hw
 have h2 : (4294967296 : Int) ^ xs.length <= 4294967296 ^ m:=pw_le hl
 have h3:=ten_pow m
 have h0:=val_nonneg hw
 have h4 : val xs < 10 ^ (10 * m):=Int.lt_of_lt_of_le h1 (Int.le_trans h2 h3)
 have h6 : (10 : Int) ^ (10 * m + 1) = 10 ^ (10 * m) * 10:=Int.pow_succ _ _
 have h7 : (0 : Int) < 10 ^ (10 * m):=Int.pow_pos (by decide)
 have h5 : (((val xs).toNat : Nat) : Int) < ((10 ^ (10 * m + 1) : Nat) : Int):=by
  rw [Int.toNat_of_nonneg h0,Int.natCast_pow]
  show _ < (10 : Int) ^ (10 * m + 1)
  rw [h6]; omega
 exact wdec_len (10 * m) _ (Int.ofNat_lt.1 h5)
theorem dec_short {xs : List Int} (hw : Wd xs) (hl : xs.length <= 2048) : (decDigits (val xs).toNat).length <= 20481:=by
 have:=dec_short' hw 2048 hl
 omega
def wtext (n : Bool) (xs : List Int) : List UInt8:=(if n then [45] else []) ++ decDigits (val xs).toNat
set_option maxRecDepth 100000 in
theorem wprint_any (n : Bool) (v : Value) (xs : List Int) (w : World) (h : Sl w v xs) (hx : wchk n xs = 0) (htab : Tab w) :
 Calls Tryz.prog 141 #[.agg #[.bool n,v]] w fun e w' => ∃ T : ByteArray,e = .returned (.tuple #[.string T,.int .i64 0]) /\ T.data.toList = wtext n xs /\ Below w.heap.size w w':=by
 obtain ⟨lx,tx,_⟩:=wchk_ok hx
 have wx:=h.wd
 have HB:=hid (alloc_later w (.cells #[.bool n,v] 152))
 have HX:=hid (Box.made w 152 #[.bool n,v])
 have HC:=hid (wcheck_any n v xs _ (h.later HB.out) (by omega))
 rw [hx] at HC
 have HP:=hid (fun w1 (hb : Below (w.alloc (.cells #[.bool n,v] 152)).heap.size (w.alloc (.cells #[.bool n,v] 152)) w1) => print_any v xs w1 ((h.later HB.out).later hb) (by omega) (htab.later (bt HB.out hb)))
 rw [chk_good (by omega) tx,if_pos rfl] at HP
 obtain ⟨D,hD⟩ : ∃ D : ByteArray,D = ⟨(decDigits (val xs).toNat).toArray⟩:=⟨_,rfl⟩
 have hds : D.size <= 20481:=by
  have e : D.size = (decDigits (val xs).toNat).length:=by rw [hD]; exact (size_list _).symm
  rw [e]; exact dec_short wx lx
 have HDL : Hid (D.data.toList = decDigits (val xs).toNat):=by rw [hD]; rfl
 rw [<- hD] at HP
 obtain ⟨a,cap,rfl,hr⟩:=h
 clear hr hD hx
 cases n with
 | false =>
  go_enter Tryz.func141,Tryz.ntmps141
  go_wp2_with fail
  refine Calls.mono HC.out ?_
  rintro e w1 ⟨rfl,hb1⟩
  obtain ⟨p0,p1,_,_⟩:=res_box HX.out hb1
  have HP1:=hid (HP.out w1 hb1)
  have HB1:=hid hb1
  clear hb1 HP
  go_wp2_with fail
  refine Calls.mono HP1.out ?_
  rintro e w2 ⟨rfl,hb2⟩
  obtain ⟨q0,q1,_,_⟩:=res_box HX.out (bt HB1.out hb2)
  have hbF:=bt HB.out (bt HB1.out hb2)
  clear hb2 p0 p1
  go_wp2_with fail
  go_ret2
  exact ⟨D,rfl,HDL.out,hbF⟩
 | true =>
  go_enter Tryz.func141,Tryz.ntmps141
  go_wp2_with fail
  refine Calls.mono HC.out ?_
  rintro e w1 ⟨rfl,hb1⟩
  obtain ⟨p0,p1,_,_⟩:=res_box HX.out hb1
  have HP1:=hid (HP.out w1 hb1)
  have HB1:=hid hb1
  clear hb1 HP
  go_wp2_with fail
  refine Calls.mono HP1.out ?_
  rintro e w2 ⟨rfl,hb2⟩
  obtain ⟨q0,q1,_,_⟩:=res_box HX.out (bt HB1.out hb2)
  have hbF:=bt HB.out (bt HB1.out hb2)
  clear hb2 p0 p1
  go_wp2_with fail
  go_ret2
  refine ⟨_,rfl,?_,hbF⟩
  show _ = 45 :: decDigits (val xs).toNat
  rw [<- HDL.out]
  simp
theorem cut_minus (s : ByteArray) (w : World) (hs : s.size <= 65536) :
 Calls Tryz.prog 271 #[.string s,.string ⟨#[45]⟩] w fun e w' => ∃ (T : ByteArray) (b : Bool),e = .returned (.tuple #[.string T,.bool b]) /\ b = decide (s.data.toList[0]? = some 45) /\ T.data.toList = (if b then s.data.toList.drop 1 else s.data.toList) /\ w = w':=by
 have HH:=hid (Tryz.stringslite_HasPrefix s ⟨#[45]⟩ w)
 have e0 : Lib.hasPrefix s.data.toList (⟨#[45]⟩ : ByteArray).data.toList = decide (s.data.toList[0]? = some 45):=by
  cases hl : s.data.toList with
  | nil => simp [Lib.hasPrefix]
  | cons c l =>
   by_cases hc : c = 45
   · subst hc; simp [Lib.hasPrefix,List.isPrefixOf]
   · have hc' : ¬ (45 : UInt8) = c:=fun e => hc e.symm
     simp [Lib.hasPrefix,List.isPrefixOf,hc,hc']
 rw [e0] at HH
 by_cases c : s.data.toList[0]? = some 45
 · have hd : decide (s.data.toList[0]? = some 45) = true:=decide_eq_true c
   rw [hd] at HH ⊢
   have h1 : 1 <= s.size:=by
    rw [<- size_list]
    by_cases z : s.data.toList.length = 0
    · rw [List.getElem?_eq_none (by omega)] at c; cases c
    · omega
   have HX:=hid (extract_list s 1 s.size)
   clear c hd e0
   go_enter Tryz.func271,Tryz.ntmps271
   go_wp2_with fail
   refine Calls.mono HH.out ?_
   rintro e w' ⟨rfl,rfl⟩
   go_wp2_with fail
   go_ret2
   refine ⟨_,true,rfl,rfl,?_,rfl⟩
   rw [if_pos rfl,HX.out,List.take_of_length_le (by rw [List.length_drop,size_list]; omega)]
 · have hd : decide (s.data.toList[0]? = some 45) = false:=decide_eq_false c
   rw [hd] at HH ⊢
   clear c hd e0
   go_enter Tryz.func271,Tryz.ntmps271
   go_wp2_with fail
   refine Calls.mono HH.out ?_
   rintro e w' ⟨rfl,rfl⟩
   go_wp2_with fail
   go_ret2
   exact ⟨s,false,rfl,rfl,rfl,rfl⟩
theorem cutPrefix_minus (s : ByteArray) (w : World) (hs : s.size <= 65536) :
 Calls Tryz.prog 244 #[.string s,.string ⟨#[45]⟩] w fun e w' => ∃ (T : ByteArray) (b : Bool),e = .returned (.tuple #[.string T,.bool b]) /\ b = decide (s.data.toList[0]? = some 45) /\ T.data.toList = (if b then s.data.toList.drop 1 else s.data.toList) /\ w = w':=by
 have HH:=hid (cut_minus s w hs)
 go_enter Tryz.func244,Tryz.ntmps244
 go_wp2_with fail
 refine Calls.mono HH.out ?_
 rintro e w' ⟨T,b,rfl,h1,h2,rfl⟩
 have HR:=hid (And.intro h1 h2)
 clear h1 h2
 go_wp2_with fail
 go_ret2
 exact ⟨T,b,rfl,HR.out.1,HR.out.2,rfl⟩
def wdig (b : Bool) (l : List UInt8) : List UInt8:=if b then l.drop 1 else l
theorem pErr_ok (s : ByteArray) (hs : s.size <= 65536) (h : IsNum s.data.toList) : pErr s = 0:=by unfold pErr; rw [if_neg (by omega),if_pos h]
theorem pErr_not (s : ByteArray) (hs : s.size <= 65536) (h : ¬ IsNum s.data.toList) : pErr s = 110:=by unfold pErr; rw [if_neg (by omega),if_neg h]
def rtext (n : Bool) (xs ys : List Int) : List UInt8:=if ys = [1] then wtext n xs else wtext n xs ++ 47 :: decDigits (val ys).toNat
set_option maxRecDepth 100000 in
theorem rPrint_err (n : Bool) (a : Option Addr) (ca : Nat) (xs : List Int) (b : Option Addr) (cb : Nat) (ys : List Int) (w : World) (sx : Sl w (.slice a xs.length ca) xs) (sy : Sl w (.slice b ys.length cb) ys) (he : rchk n xs ys ≠ 0) :
 Calls Tryz.prog 88 #[.agg #[.bool n,.slice a xs.length ca,.slice b ys.length cb]] w fun e w' => e = .returned (.tuple #[.string ⟨#[]⟩,.int .i64 (rchk n xs ys)]) /\ Below w.heap.size w w':=by
 have HB:=hid (alloc_later w (.cells #[.bool n,.slice a xs.length ca,.slice b ys.length cb] 24))
 have HC:=hid (rcheck_any n _ xs _ ys (w.alloc (.cells #[.bool n,.slice a xs.length ca,.slice b ys.length cb] 24)) (sx.later HB.out) (sy.later HB.out))
 obtain ⟨E,hE⟩ : ∃ E,rchk n xs ys = E:=⟨_,rfl⟩
 rw [hE] at HC he ⊢
 have he' : (E == 0) = false:=beq_eq_false_iff_ne.2 he
 clear he hE sx sy
 go_enter Tryz.func88,Tryz.ntmps88
 go_wp2_with fail
 refine Calls.mono HC.out ?_
 rintro e w1 ⟨rfl,hb1⟩
 have HBN:=hid (bt HB.out hb1)
 clear hb1 HC
 go_wp2_with fail
 go_ret2
 exact ⟨rfl,HBN.out⟩
set_option maxRecDepth 100000 in
theorem rPrint_ok (n : Bool) (a : Option Addr) (ca : Nat) (xs : List Int) (b : Option Addr) (cb : Nat) (ys : List Int) (w : World) (sx : Sl w (.slice a xs.length ca) xs) (sy : Sl w (.slice b ys.length cb) ys) (hx : rchk n xs ys = 0) (htab : Tab w) :
 Calls Tryz.prog 88 #[.agg #[.bool n,.slice a xs.length ca,.slice b ys.length cb]] w fun e w' => ∃ T : ByteArray,e = .returned (.tuple #[.string T,.int .i64 0]) /\ T.data.toList = rtext n xs ys /\ Below w.heap.size w w':=by
 obtain ⟨lx,ly,tx,ty,y0',nx,g1⟩:=rchk_ok hx
 have wx:=sx.wd
 have wy:=sy.wd
 have HB:=hid (alloc_later w (.cells #[.bool n,.slice a xs.length ca,.slice b ys.length cb] 24))
 have HN:=hid (Box.made w 24 #[.bool n,.slice a xs.length ca,.slice b ys.length cb])
 have HS:=hid (And.intro (sx.later HB.out) (sy.later HB.out))
 have HC:=hid (rcheck_any n _ xs _ ys (w.alloc (.cells #[.bool n,.slice a xs.length ca,.slice b ys.length cb] 24)) HS.out.1 HS.out.2)
 rw [hx] at HC
 have HW:=hid (fun ww (hb : Below (w.alloc (.cells #[.bool n,.slice a xs.length ca,.slice b ys.length cb] 24)).heap.size (w.alloc (.cells #[.bool n,.slice a xs.length ca,.slice b ys.length cb] 24)) ww) => wprint_any n _ xs ww (HS.out.1.later hb) (wchk_good lx tx nx) (htab.later (bt HB.out hb)))
 have HO:=hid (fun ww (hb : Below (w.alloc (.cells #[.bool n,.slice a xs.length ca,.slice b ys.length cb] 24)).heap.size (w.alloc (.cells #[.bool n,.slice a xs.length ca,.slice b ys.length cb] 24)) ww) => isOne_any _ ys ww (HS.out.2.later hb))
 have HD:=hid (fun ww (hb : Below (w.alloc (.cells #[.bool n,.slice a xs.length ca,.slice b ys.length cb] 24)).heap.size (w.alloc (.cells #[.bool n,.slice a xs.length ca,.slice b ys.length cb] 24)) ww) => print_any _ ys ww (HS.out.2.later hb) (by omega) (htab.later (bt HB.out hb)))
 rw [chk_good (by omega) ty,if_pos rfl] at HD
 have hd1:=dec_short wx lx
 have hd2:=dec_short wy ly
 obtain ⟨D,hD⟩ : ∃ D : ByteArray,D = ⟨(decDigits (val ys).toNat).toArray⟩:=⟨_,rfl⟩
 rw [<- hD] at HD
 have HDL : Hid (D.data.toList = decDigits (val ys).toNat):=by show _ = _; rw [hD]
 have hDs : D.size <= 20481:=by rw [hD]; show (decDigits (val ys).toNat).toArray.size <= _; rw [List.size_toArray]; exact hd2
 have HL1 : Hid ((wtext n xs).length <= 20482):=by
  show _ <= _
  unfold wtext
  rw [List.length_append]
  have : (if n then [45] else [] : List UInt8).length <= 1:=by cases n <;> simp
  omega
 clear sx sy hx tx ty g1 htab wx wy hD hd1 hd2 nx y0'
 by_cases h1 : ys = [1]
 · rw [decide_eq_true h1] at HO
   have HR : Hid (rtext n xs ys = wtext n xs):=by show _ = _; unfold rtext; rw [if_pos h1]
   rw [HR.out]
   clear h1
   go_enter Tryz.func88,Tryz.ntmps88
   go_wp2_with fail
   refine Calls.mono HC.out ?_
   generalize (w.alloc (.cells #[.bool n,.slice a xs.length ca,.slice b ys.length cb] 24)) = X at *
   rintro e w1 ⟨rfl,hb1⟩
   obtain ⟨p0,p1,p2,_⟩:=res_box3 HN.out hb1
   have HW1:=hid (HW.out w1 hb1)
   have HB1:=hid hb1
   clear hb1 HC HW HD
   go_wp2_with fail
   refine Calls.mono HW1.out ?_
   rintro e w2 ⟨T,rfl,hT,hb2⟩
   have HT:=hid hT
   have HB2:=hid (bt HB1.out hb2)
   have HO2:=hid (HO.out w2 HB2.out)
   clear hT hb2 HW1 HO p0 p1 p2
   obtain ⟨p0,p1,p2,_⟩:=res_box3 HN.out HB2.out
   go_wp2_with fail
   refine Calls.mono HO2.out ?_
   rintro e w3 ⟨rfl,rfl⟩
   go_wp2_with fail
   go_ret2
   exact ⟨T,rfl,HT.out,bt HB.out HB2.out⟩
 · rw [decide_eq_false h1] at HO
   have HR : Hid (rtext n xs ys = wtext n xs ++ 47 :: decDigits (val ys).toNat):=by show _ = _; unfold rtext; rw [if_neg h1]
   rw [HR.out]
   clear h1
   go_enter Tryz.func88,Tryz.ntmps88
   go_wp2_with fail
   refine Calls.mono HC.out ?_
   generalize (w.alloc (.cells #[.bool n,.slice a xs.length ca,.slice b ys.length cb] 24)) = X at *
   rintro e w1 ⟨rfl,hb1⟩
   obtain ⟨p0,p1,p2,_⟩:=res_box3 HN.out hb1
   have HW1:=hid (HW.out w1 hb1)
   have HB1:=hid hb1
   clear hb1 HC HW
   go_wp2_with fail
   refine Calls.mono HW1.out ?_
   rintro e w2 ⟨T,rfl,hT,hb2⟩
   have HT:=hid hT
   have hTs : T.size <= 20482:=by
    have e1 : T.data.toList.length = T.size:=Array.length_toList
    rw [<- e1,hT]
    exact HL1.out
   have HB2:=hid (bt HB1.out hb2)
   have HO2:=hid (HO.out w2 HB2.out)
   have HD2:=hid (HD.out w2 HB2.out)
   clear hT hb2 HW1 HO HD p0 p1 p2
   obtain ⟨p0,p1,p2,_⟩:=res_box3 HN.out HB2.out
   go_wp2_with fail
   refine Calls.mono HO2.out ?_
   rintro e w3 ⟨rfl,rfl⟩
   go_wp2_with fail
   refine Calls.mono HD2.out ?_
   rintro e w4 ⟨rfl,hb4⟩
   have HBN:=hid (bt HB.out (bt HB2.out hb4))
   have hg1 : ¬ (9223372036854775807 : Int) < (T.size : Int) + 1:=by omega
   have hg2 : ¬ (9223372036854775807 : Int) < (T.size : Int) + 1 + (D.size : Int):=by omega
   clear hb4 HD2
   go_wp2_with fail
   go_ret2
   refine ⟨_,rfl,?_,HBN.out⟩
   rw [<- HDL.out,<- HT.out]
   simp
def rneg (l : List UInt8) : Bool:=decide (l[0]? = some 45)
def rbar (l : List UInt8) : Int:=indexByte (wdig (rneg l) l) 47
def rup (l : List UInt8) : List UInt8:=if rbar l = -1 then wdig (rneg l) l else (wdig (rneg l) l).take (rbar l).toNat
def rdn (l : List UInt8) : List UInt8:=if rbar l = -1 then [] else (wdig (rneg l) l).drop ((rbar l).toNat + 1)
def rnu (l : List UInt8) : Int:=numTo (rup l) (rup l).length
def rde (l : List UInt8) : Int:=if rbar l = -1 then 1 else numTo (rdn l) (rdn l).length
def rgood (l : List UInt8) : Prop:=IsNum (rup l) /\ (rbar l = -1 \/ IsNum (rdn l) /\ rde l ≠ 1) /\ 0 < rde l /\ (rneg l = false \/ 0 < rnu l) /\ gcdI (rnu l) (rde l) = 1
open Classical in
noncomputable def prErr (s : ByteArray) : Int:=if 65536 < s.size then 3 else if rgood s.data.toList then 0 else 130
def rpq (l : List UInt8) : Rat:=Rat.divInt (sg (rneg l) (rnu l)) (rde l)
theorem bar_none {d : List UInt8} (h : Dg d) : indexByte d 47 = -1:=by
 have g:=indexByte_ge d 47
 by_cases c : indexByte d 47 = -1
 · exact c
 · obtain ⟨e,_⟩:=indexByte_some (l:=d) (c:=47) (o:=(indexByte d 47).toNat) (by omega)
   have t:=h _ (List.mem_of_getElem? e)
   exact absurd t.1 (by decide)
theorem bar_at {d : List UInt8} (h : Dg d) (e : List UInt8) : indexByte (d ++ 47 :: e) 47 = d.length:=by
 have g:=indexByte_ge (d ++ 47 :: e) 47
 have hat : (d ++ 47 :: e)[d.length]? = some 47:=by simp
 by_cases c : indexByte (d ++ 47 :: e) 47 = -1
 · exact absurd hat (indexByte_none c _)
 · obtain ⟨e1,e2⟩:=indexByte_some (l:=d ++ 47 :: e) (c:=47) (o:=(indexByte (d ++ 47 :: e) 47).toNat) (by omega)
   have hk : indexByte (d ++ 47 :: e) 47 = ((indexByte (d ++ 47 :: e) 47).toNat : Int):=by omega
   generalize (indexByte (d ++ 47 :: e) 47).toNat = K at e1 e2 hk
   have k1 : ¬ K < d.length:=fun hk => by
    rw [List.getElem?_append_left hk] at e1
    have t:=h _ (List.mem_of_getElem? e1)
    exact absurd t.1 (by decide)
   have k2 : ¬ d.length < K:=fun hk => e2 _ hk hat
   omega
theorem bar_parts {l : List UInt8} (h : indexByte l 47 ≠ -1) : l = l.take (indexByte l 47).toNat ++ 47 :: l.drop ((indexByte l 47).toNat + 1) /\ (indexByte l 47).toNat < l.length:=by
 have g:=indexByte_ge l 47
 obtain ⟨e1,_⟩:=indexByte_some (l:=l) (c:=47) (o:=(indexByte l 47).toNat) (by omega)
 generalize (indexByte l 47).toNat = K at e1 ⊢
 obtain ⟨hk,e2⟩:=List.getElem?_eq_some_iff.1 e1
 refine ⟨?_,hk⟩
 have e3:=List.drop_eq_getElem_cons hk
 rw [e2] at e3
 rw [<- e3,List.take_append_drop]
theorem rtext_eq (n : Bool) (xs ys : List Int) : rtext n xs ys = (if n then [45] else []) ++ (decDigits (val xs).toNat ++ if ys = [1] then [] else 47 :: decDigits (val ys).toNat):=by
 unfold rtext wtext
 by_cases c : ys = [1]
 · rw [if_pos c,if_pos c]; simp
 · rw [if_neg c,if_neg c]; simp
theorem rneg_text (n : Bool) (xs ys : List Int) : rneg (rtext n xs ys) = n:=by
 obtain ⟨d1,_,_⟩:=isNum_dec (val xs).toNat
 rw [rtext_eq]
 unfold rneg
 cases n with
 | true => simp
 | false =>
  apply decide_eq_false
  intro e
  simp only [Bool.false_eq_true,if_false,List.nil_append] at e
  rw [List.getElem?_append_left d1.1] at e
  have t:=d1.2.2 _ (List.mem_of_getElem? e)
  exact absurd t.1 (by decide)
theorem wdig_text (n : Bool) (xs ys : List Int) : wdig (rneg (rtext n xs ys)) (rtext n xs ys) = decDigits (val xs).toNat ++ if ys = [1] then [] else 47 :: decDigits (val ys).toNat:=by
 rw [rneg_text,rtext_eq]
 cases n <;> simp [wdig]
theorem text_says (n : Bool) {xs ys : List Int} (wx : Wd xs) (wy : Wd ys) : IsNum (rup (rtext n xs ys)) /\ (rbar (rtext n xs ys) = -1 \/ IsNum (rdn (rtext n xs ys)) /\ ys ≠ [1]) /\ rnu (rtext n xs ys) = val xs /\ rde (rtext n xs ys) = val ys:=by
 obtain ⟨d1,d2,_⟩:=isNum_dec (val xs).toNat
 obtain ⟨f1,f2,_⟩:=isNum_dec (val ys).toNat
 have v0:=val_nonneg wx
 have u0:=val_nonneg wy
 have e:=wdig_text n xs ys
 by_cases c : ys = [1]
 · rw [if_pos c,List.append_nil] at e
   have hb : rbar (rtext n xs ys) = -1:=by unfold rbar; rw [e]; exact bar_none d1.2.2
   have hu : rup (rtext n xs ys) = decDigits (val xs).toNat:=by unfold rup; rw [if_pos hb,e]
   refine ⟨by rw [hu]; exact d1,.inl hb,?_,?_⟩
   · unfold rnu; rw [hu,d2]; omega
   · unfold rde; rw [if_pos hb,c]; simp [val,valTo]
 · rw [if_neg c] at e
   have hb : rbar (rtext n xs ys) = ((decDigits (val xs).toNat).length : Int):=by unfold rbar; rw [e]; exact bar_at d1.2.2 _
   have hn : ¬ rbar (rtext n xs ys) = -1:=by omega
   have ht : (rbar (rtext n xs ys)).toNat = (decDigits (val xs).toNat).length:=by omega
   have hu : rup (rtext n xs ys) = decDigits (val xs).toNat:=by unfold rup; rw [if_neg hn,e,ht]; simp
   have hd : rdn (rtext n xs ys) = decDigits (val ys).toNat:=by unfold rdn; rw [if_neg hn,e,ht]; simp
   refine ⟨by rw [hu]; exact d1,.inr ⟨by rw [hd]; exact f1,c⟩,?_,?_⟩
   · unfold rnu; rw [hu,d2]; omega
   · unfold rde; rw [if_neg hn,hd,f2]; omega
theorem rpq_text (n : Bool) {xs ys : List Int} (wx : Wd xs) (wy : Wd ys) : rpq (rtext n xs ys) = rq n xs ys:=by
 obtain ⟨_,_,e1,e2⟩:=text_says n wx wy
 unfold rpq rq
 rw [rneg_text,e1,e2]
 rfl
theorem rgood_text {n : Bool} {xs ys : List Int} (wx : Wd xs) (wy : Wd ys) (h : rform n xs ys) : rgood (rtext n xs ys):=by
 obtain ⟨hb,h0,hs,hg⟩:=h
 obtain ⟨h1,h2⟩:=both_ok hb
 obtain ⟨_,tx⟩:=chk_ok h1
 obtain ⟨_,ty⟩:=chk_ok h2
 obtain ⟨a1,a2,a3,a4⟩:=text_says n wx wy
 refine ⟨a1,?_,by rw [a4]; exact val_pos' wy ty h0,?_,by rw [a3,a4]; exact hg⟩
 · rcases a2 with a2 | ⟨a2,a5⟩
   · exact .inl a2
   · exact .inr ⟨a2,by rw [a4]; exact fun e => a5 ((one_iff wy ty).2 e)⟩
 · rcases hs with hs | hs
   · left; rw [rneg_text]; exact hs
   · right; rw [a3]; exact val_pos' wx tx hs
theorem wdig_back (l : List UInt8) : (if rneg l then [45] else []) ++ wdig (rneg l) l = l:=by
 cases l with
 | nil => rfl
 | cons c l =>
  by_cases h : c = 45
  · subst h; simp [rneg,wdig]
  · have e : rneg (c :: l) = false:=decide_eq_false (by simp [h])
    rw [e]; simp [wdig]
theorem says_text {l : List UInt8} (h : rgood l) {xs ys : List Int} (wy : Wd ys) (ty : Trimmed ys) (hx : val xs = rnu l) (hy : val ys = rde l) : rtext (rneg l) xs ys = l:=by
 obtain ⟨h1,h2,_,_,_⟩:=h
 have d1 : decDigits (val xs).toNat = rup l:=by
  rw [hx]
  unfold rnu
  exact dec_num ((rup l).length - 1) _ (by have:=h1.1; omega) h1
 rw [rtext_eq,d1]
 conv => rhs; rw [<- wdig_back l]
 congr 1
 rcases h2 with h2 | ⟨h2,h3⟩
 · have e1 : rde l = 1:=by unfold rde; rw [if_pos h2]
   rw [if_pos ((one_iff wy ty).2 (hy.trans e1))]
   unfold rup
   rw [if_pos h2]; simp
 · by_cases hb : rbar l = -1
   · exact absurd (show rde l = 1 by unfold rde; rw [if_pos hb]) h3
   · rw [if_neg (fun e => h3 (hy ▸ (one_iff wy ty).1 e))]
     have d2 : decDigits (val ys).toNat = rdn l:=by
      rw [hy]
      unfold rde
      rw [if_neg hb]
      exact dec_num ((rdn l).length - 1) _ (by have:=h2.1; omega) h2
     rw [d2]
     unfold rup rdn
     rw [if_neg hb,if_neg hb]
     exact (bar_parts (l:=wdig (rneg l) l) hb).1.symm
theorem ten8 (k : Nat) : (10 : Int) ^ (8 * k) <= 4294967296 ^ k:=by
 induction k with
 | zero => simp
 | succ k ih =>
  rw [show 8 * (k + 1) = 8 * k + 8 by omega,Int.pow_add,pw_succ]
  have e : (10 : Int) ^ 8 = 100000000:=by decide
  have p : (0 : Int) < 10 ^ (8 * k):=Int.pow_pos (by decide)
  rw [e]
  omega
theorem ten_mono {a b : Nat} (h : a <= b) : (10 : Int) ^ a <= 10 ^ b:=by
 obtain ⟨c,rfl⟩:=Nat.le.dest h
 rw [Int.pow_add]
 have p : (0 : Int) < 10 ^ a:=Int.pow_pos (by decide)
 have q : (0 : Int) < 10 ^ c:=Int.pow_pos (by decide)
 have:=Int.mul_le_mul_of_nonneg_left (show (1 : Int) <= 10 ^ c by omega) (Int.le_of_lt p)
 omega
theorem num_wide {l : List UInt8} (hd : Dg l) (hl : l.length <= 65536) : numTo l l.length < wide:=by
 have h1:=(numTo_bounds hd l.length).2
 have h2 : (10 : Int) ^ l.length <= 10 ^ (8 * 8192):=ten_mono (by omega)
 have h3:=ten8 8192
 have e : wide = 4294967296 ^ 8192:=rfl
 rw [e]
 exact Int.lt_of_lt_of_le h1 (Int.le_trans h2 h3)
theorem RTells.self {n : Bool} {xs ys : List Int} (wx : Wd xs) (wy : Wd ys) (h : rchk n xs ys = 0) : RTells 0 (rq n xs ys) n xs ys 0:=by
 obtain ⟨lx,ly,tx,ty,y0,s0,g⟩:=rchk_ok h
 have hd:=val_pos' wy ty y0
 obtain ⟨m,us,vs,c,e1,e2,e3,r⟩:=rtells_of (n:=n) wx tx wy ty hd g
 have e4:=e1 none 0 none 0
 unfold rtoldV at e4
 rw [if_neg (by omega)] at e4
 have hc : c = 0:=by
  simp at e4
  exact e4.2.symm
 subst hc
 have hm : (n && decide (0 < xs.length)) = n:=by
  rcases s0 with rfl | s0
  · rfl
  · rw [decide_eq_true s0,Bool.and_true]
 rw [hm] at e4
 have hn : n = m:=by simp at e4; exact e4
 subst hn
 rw [if_pos rfl] at e2 e3
 subst e2 e3
 exact r
set_option maxRecDepth 100000 in
theorem index_bar (s : ByteArray) (w : World) :
 Calls Tryz.prog 209 #[.string s,.string ⟨#[47]⟩] w fun e w' => e = .returned (.int .i64 (indexByte s.data.toList 47)) /\ w = w':=by
 have HH:=hid (Tryz.stringslite_IndexByte s 47 w)
 by_cases c : s.data.toList = [47]
 · have hc : (([47] : List UInt8) == s.toList) = true:=by rw [toList_data,c]; rfl
   have hi : Hid (indexByte s.data.toList 47 = 0):=by show _ = _; rw [c]; rfl
   rw [hi.out]
   clear HH c
   go_enter Tryz.func209,Tryz.ntmps209
   go_wp2_with fail
   go_ret
   exact ⟨rfl,rfl⟩
 · have hc : (([47] : List UInt8) == s.toList) = false:=by rw [toList_data]; exact beq_eq_false_iff_ne.2 (fun e => c e.symm)
   clear c
   go_enter Tryz.func209,Tryz.ntmps209
   go_wp2_with fail
   refine Calls.mono HH.out ?_
   rintro e w' ⟨rfl,rfl⟩
   go_wp2_with fail
   go_ret
   exact ⟨rfl,rfl⟩
set_option maxRecDepth 100000 in
theorem cutl_no (s : ByteArray) (w : World) (h : indexByte s.data.toList 47 = -1) :
 Calls Tryz.prog 165 #[.string s,.string ⟨#[47]⟩] w fun e w' => e = .returned (.tuple #[.string s,.string ⟨#[]⟩,.bool false]) /\ w = w':=by
 have HH:=hid (index_bar s w)
 rw [h] at HH
 clear h
 go_enter Tryz.func165,Tryz.ntmps165
 go_wp2_with fail
 refine Calls.mono HH.out ?_
 rintro e w' ⟨rfl,rfl⟩
 go_wp2_with fail
 go_ret3
 exact ⟨rfl,rfl⟩
set_option maxRecDepth 100000 in
theorem cutl_yes (s : ByteArray) (w : World) (i : Nat) (h : indexByte s.data.toList 47 = (i : Int)) (hi : i + 1 <= s.size) (hs : s.size <= 65536) :
 Calls Tryz.prog 165 #[.string s,.string ⟨#[47]⟩] w fun e w' => e = .returned (.tuple #[.string (s.extract 0 i),.string (s.extract (i + 1) s.size),.bool true]) /\ Below w.heap.size w w':=by
 have HH:=hid (index_bar s w)
 rw [h] at HH
 clear h
 have c1 : (0 : Int) <= ↑i:=by omega
 have c2 : (↑i : Int) <= ↑s.size:=by omega
 have c3 : (0 : Int) <= ↑i + 1:=by omega
 have c4 : (↑i + 1 : Int) <= ↑s.size:=by omega
 have cw : IntKind.i64.wrap ((i : Int) + 1) = (i : Int) + 1:=by rw [IntKind.wrap_i64]; omega
 go_enter Tryz.func165,Tryz.ntmps165
 go_wp2_with fail
 refine Calls.mono HH.out ?_
 rintro e w' ⟨rfl,rfl⟩
 go_wp2_with fail
 go_region
 go_wp2_with fail
 go_ret3
 exact ⟨rfl,(Below.refl _ _).drew⟩
set_option maxRecDepth 100000 in
theorem cut_no (s : ByteArray) (w : World) (h : indexByte s.data.toList 47 = -1) :
 Calls Tryz.prog 109 #[.string s,.string ⟨#[47]⟩] w fun e w' => e = .returned (.tuple #[.string s,.string ⟨#[]⟩,.bool false]) /\ w = w':=by
 have HH:=hid (cutl_no s w h)
 clear h
 go_enter Tryz.func109,Tryz.ntmps109
 go_wp2_with fail
 refine Calls.mono HH.out ?_
 rintro e w' ⟨rfl,rfl⟩
 go_wp2_with fail
 go_ret3
 exact ⟨rfl,rfl⟩
set_option maxRecDepth 100000 in
theorem cut_yes (s : ByteArray) (w : World) (i : Nat) (h : indexByte s.data.toList 47 = (i : Int)) (hi : i + 1 <= s.size) (hs : s.size <= 65536) :
 Calls Tryz.prog 109 #[.string s,.string ⟨#[47]⟩] w fun e w' => e = .returned (.tuple #[.string (s.extract 0 i),.string (s.extract (i + 1) s.size),.bool true]) /\ Below w.heap.size w w':=by
 have HH:=hid (cutl_yes s w i h hi hs)
 clear h
 go_enter Tryz.func109,Tryz.ntmps109
 go_wp2_with fail
 refine Calls.mono HH.out ?_
 rintro e w' ⟨rfl,hb⟩
 go_wp2_with fail
 go_ret3
 exact ⟨rfl,hb⟩
def RRead (w : World) (l : List UInt8) (x : Ending) (w' : World) : Prop :=
 ∃ n v xs u ys,x = .returned (.agg #[.bool n,v,u]) /\ w'.ownsRow w.heap.size 69 1 v xs.length (xs.map (Value.int .u32)) /\ w'.ownsRow w.heap.size 69 1 u ys.length (ys.map (Value.int .u32)) /\ Wd xs /\ Wd ys /\ xs.length <= 8192 /\ ys.length <= 8192 /\ (rform n xs ys ↔ rgood l) /\ (rgood l -> n = rneg l /\ Trimmed xs /\ Trimmed ys /\ val xs = rnu l /\ val ys = rde l) /\ Below w.heap.size w w' /\ Cut w v u w'
theorem rread_bad {w w' : World} {l : List UInt8} (h : ¬ rgood l) (hb : Below w.heap.size w w') : RRead w l (.returned (.agg #[.bool false,.slice none 0 0,.slice none 0 0])) w' :=
 ⟨false,_,[],_,[],rfl,World.ownsRow_nil _ _ _ _,World.ownsRow_nil _ _ _ _,Wd.nil,Wd.nil,by simp,by simp,⟨fun e => absurd e.2.1 (by simp),fun e => absurd e h⟩,fun e => absurd e h,hb,w'.heap.size,hb.size,Nat.le_refl _,fun g hg => by simp [Value.ownBlock] at hg,fun g hg => by simp [Value.ownBlock] at hg⟩
theorem rform_good {n : Bool} {xs ys : List Int} (wx : Wd xs) (wy : Wd ys) (tx : Trimmed xs) (ty : Trimmed ys) (lx : xs.length <= 8192) (ly : ys.length <= 8192) {l : List UInt8} (hn : n = rneg l) (hx : val xs = rnu l) (hy : val ys = rde l) (h1 : IsNum (rup l)) (h2 : rbar l = -1 \/ IsNum (rdn l) /\ rde l ≠ 1) : rform n xs ys ↔ rgood l:=by
 have hp : 0 < ys.length ↔ 0 < rde l:=by
  rw [<- hy]
  exact ⟨fun h => val_pos' wy ty h,fun h => by
   by_cases c : ys.length = 0
   · obtain rfl:=List.length_eq_zero_iff.1 c
     simp [val,valTo] at h
   · omega⟩
 have hq : 0 < xs.length ↔ 0 < rnu l:=by
  rw [<- hx]
  exact ⟨fun h => val_pos' wx tx h,fun h => by
   by_cases c : xs.length = 0
   · obtain rfl:=List.length_eq_zero_iff.1 c
     simp [val,valTo] at h
   · omega⟩
 unfold rform rgood
 rw [hp,hq,hn,hx,hy]
 exact ⟨fun e => ⟨h1,h2,e.2.1,e.2.2.1,e.2.2.2⟩,fun e => ⟨both_good (chk_good lx tx) (chk_good ly ty),e.2.2.1,e.2.2.2.1,e.2.2.2.2⟩⟩
theorem rread_put {w U W : World} {l : List UInt8} {n : Bool} {v u : Value} {xs ys : List Int} (hU : Below w.heap.size w U) (hlt : w.heap.size < U.heap.size) (hW : Below U.heap.size U W) (o1 : One U W v xs (rnu l)) (o2 : One U W u ys (rde l)) (hc : Cut U v u W) (lx : xs.length <= 8192) (ly : ys.length <= 8192) (hn : n = rneg l) (h1 : IsNum (rup l)) (h2 : rbar l = -1 \/ IsNum (rdn l) /\ rde l ≠ 1) (x y z : Value) :
 RRead w l (.returned (.agg #[.bool n,v,u])) (((W.setCell ⟨w.heap.size,0,none⟩ x).setCell ⟨w.heap.size,1,none⟩ y).setCell ⟨w.heap.size,2,none⟩ z) :=
 ⟨n,v,xs,u,ys,rfl,owns_base (own_put3 o1.1 _ (fun g hg => by have:=(World.ownsRow.lt o1.1 g hg).1; omega) _ _ _) (by omega),owns_base (own_put3 o2.1 _ (fun g hg => by have:=(World.ownsRow.lt o2.1 g hg).1; omega) _ _ _) (by omega),o1.2.1,o2.2.1,lx,ly,rform_good o1.2.1 o2.2.1 o1.2.2.1 o2.2.2.1 lx ly hn o1.2.2.2 o2.2.2.2 h1 h2,fun _ => ⟨hn,o1.2.2.1,o2.2.2.1,o1.2.2.2,o2.2.2.2⟩,below_put3 (bt hU hW) _ (Nat.le_refl _) _ _ _,hc.up (by omega) (by simp)⟩
theorem parse_good (T : ByteArray) (w : World) (hs : T.size <= 65536) (l : List UInt8) (hl : T.data.toList = l) (h : IsNum l) :
 Calls Tryz.prog 245 #[.string T] w fun x w' => ∃ a zs c,x = .returned (.tuple #[.slice a (List.length zs) c,.int .i64 0]) /\ Hid (One w w' (.slice a (List.length zs) c) zs (numTo l l.length) /\ zs.length <= 8192) /\ Below w.heap.size w w':=by
 have HP:=parse_any T w (by unfold maxLen; omega)
 rw [pErr_ok T hs (by rw [hl]; exact h)] at HP
 have hw:=num_wide h.2.2 (by rw [<- hl,size_list]; exact hs)
 refine Calls.mono HP ?_
 rintro x w' ⟨v,zs,code,rfl,o,t,hb⟩
 obtain ⟨a,c,hv⟩:=own_slice' o
 subst hv
 have e : numTo T.data.toList T.size = numTo l l.length:=by rw [<- size_list,hl]
 rw [e] at t
 obtain ⟨rfl,hz⟩:=t.good rfl hw
 exact ⟨a,zs,c,rfl,⟨⟨o,t.wd,t.trim,hz⟩,own_len (U:=w) (V:=w') ⟨o,t.wd,t.trim,hz⟩ hw⟩,hb⟩
theorem parse_bad (T : ByteArray) (w : World) (hs : T.size <= 65536) (l : List UInt8) (hl : T.data.toList = l) (h : ¬ IsNum l) :
 Calls Tryz.prog 245 #[.string T] w fun x w' => ∃ a c,x = .returned (.tuple #[.slice a 0 c,.int .i64 110]) /\ Below w.heap.size w w':=by
 have HP:=parse_any T w (by unfold maxLen; omega)
 rw [pErr_not T hs (by rw [hl]; exact h)] at HP
 refine Calls.mono HP ?_
 rintro x w' ⟨v,zs,code,rfl,o,t,hb⟩
 obtain ⟨a,c,hv⟩:=own_slice' o
 subst hv
 obtain ⟨rfl,rfl⟩:=t.bad (by decide)
 exact ⟨a,c,rfl,hb⟩
theorem of_one (w : World) : Calls Tryz.prog 246 #[.int .u64 1] w fun x w' => ∃ a c,x = .returned (.slice a 1 c) /\ Hid (One w w' (.slice a 1 c) [1] 1) /\ Below w.heap.size w w':=by
 refine Calls.mono (of_any 1 w (by decide) (by decide)) ?_
 rintro x w' ⟨v,rfl,o,hb⟩
 have e1 : sz [(1 : Int) % 4294967296,1 / 4294967296] = 1:=by decide
 have e2 : trimmed [(1 : Int) % 4294967296,1 / 4294967296] = [1]:=by decide
 rw [e1,e2] at o
 obtain ⟨a,c,hv⟩:=own_slice' o
 subst hv
 exact ⟨a,c,rfl,⟨o,Wd.one (by omega),rfl,by simp [val,valTo]⟩,hb⟩
set_option maxRecDepth 100000 in
theorem read_A1 (s : ByteArray) (w : World) (hs : s.size <= 65536) (hB : rbar s.data.toList = -1) (hU : ¬ IsNum (rup s.data.toList)) :
 Calls Tryz.prog 210 #[.string s] w (RRead w s.data.toList):=by
 have HB:=hid (alloc_later w (.cells #[.bool false,.slice none 0 0,.slice none 0 0] 24))
 have HZ:=hid (Box.made w 24 #[.bool false,.slice none 0 0,.slice none 0 0])
 have HLT : Hid (w.heap.size < (w.alloc (.cells #[.bool false,.slice none 0 0,.slice none 0 0] 24)).heap.size):=by show _ < _; simp
 have HCP:=hid (cutPrefix_minus s (w.alloc (.cells #[.bool false,.slice none 0 0,.slice none 0 0] 24)) hs)
 have hss:=size_list s
 rw [show decide (s.data.toList[0]? = some 45) = rneg s.data.toList from rfl] at HCP
 have HBR:=hid hB
 have HU:=hid hU
 have HBAD : Hid (¬ rgood s.data.toList):=fun h => hU h.1
 clear hB hU
 go_enter Tryz.func210,Tryz.ntmps210
 go_wp2_with fail
 refine Calls.mono HCP.out ?_
 rintro e w' ⟨T,b,rfl,hbb,hTw,rfl⟩
 have hTs : T.size <= 65536:=by
  rw [<- size_list,hTw]
  split
  · rw [List.length_drop]; omega
  · omega
 have hTb : indexByte T.data.toList 47 = rbar s.data.toList:=by rw [hTw,hbb]; rfl
 have hTw' : T.data.toList = wdig (rneg s.data.toList) s.data.toList:=by rw [hTw,hbb]; rfl
 clear hTw HCP
 have HC:=hid (cut_no T (w.alloc (.cells #[.bool false,.slice none 0 0,.slice none 0 0] 24)) (by rw [hTb]; exact HBR.out))
 have HA : Hid (T.data.toList = rup s.data.toList):=by show _ = _; rw [hTw']; unfold rup; rw [if_pos HBR.out]
 clear hTb hTw'
 go_wp2_with fail
 refine Calls.mono HC.out ?_
 rintro e w1 ⟨rfl,rfl⟩
 clear HC
 have HH:=hid (parse_bad T (w.alloc (.cells #[.bool false,.slice none 0 0,.slice none 0 0] 24)) hTs _ HA.out HU.out)
 go_wp2_with fail
 refine Calls.mono HH.out ?_
 rintro e w2 ⟨a2,c2,rfl,hb2⟩
 clear HH
 obtain ⟨r0,r1,r2,f0,f1,f2⟩:=res_box3 HZ.out hb2
 have HBA:=hid (bt HB.out hb2)
 go_wp2_with fail
 refine bodyPost_ret (v:=.agg #[.bool false,.slice none 0 0,.slice none 0 0]) (by simp [results,Tryz.results210,go_sem,r0,r1,r2]) rfl ?_
 exact rread_bad HBAD.out (below_put3 HBA.out _ (Nat.le_refl _) _ _ _)
set_option maxRecDepth 100000 in
theorem read_A2 (s : ByteArray) (w : World) (hs : s.size <= 65536) (hB : ¬ rbar s.data.toList = -1) (hU : ¬ IsNum (rup s.data.toList)) :
 Calls Tryz.prog 210 #[.string s] w (RRead w s.data.toList):=by
 have HB:=hid (alloc_later w (.cells #[.bool false,.slice none 0 0,.slice none 0 0] 24))
 have HZ:=hid (Box.made w 24 #[.bool false,.slice none 0 0,.slice none 0 0])
 have HLT : Hid (w.heap.size < (w.alloc (.cells #[.bool false,.slice none 0 0,.slice none 0 0] 24)).heap.size):=by show _ < _; simp
 have HCP:=hid (cutPrefix_minus s (w.alloc (.cells #[.bool false,.slice none 0 0,.slice none 0 0] 24)) hs)
 have hss:=size_list s
 rw [show decide (s.data.toList[0]? = some 45) = rneg s.data.toList from rfl] at HCP
 have HBR:=hid hB
 have HU:=hid hU
 have HBAD : Hid (¬ rgood s.data.toList):=fun h => hU h.1
 clear hB hU
 go_enter Tryz.func210,Tryz.ntmps210
 go_wp2_with fail
 refine Calls.mono HCP.out ?_
 rintro e w' ⟨T,b,rfl,hbb,hTw,rfl⟩
 have hTs : T.size <= 65536:=by
  rw [<- size_list,hTw]
  split
  · rw [List.length_drop]; omega
  · omega
 have hTb : indexByte T.data.toList 47 = rbar s.data.toList:=by rw [hTw,hbb]; rfl
 have hTw' : T.data.toList = wdig (rneg s.data.toList) s.data.toList:=by rw [hTw,hbb]; rfl
 clear hTw HCP
 obtain ⟨i,hi⟩ : ∃ i : Nat,rbar s.data.toList = (i : Int):=⟨(rbar s.data.toList).toNat,by have:=indexByte_ge (wdig (rneg s.data.toList) s.data.toList) 47; have h:=HBR.out; have e : rbar s.data.toList = indexByte (wdig (rneg s.data.toList) s.data.toList) 47:=rfl; omega⟩
 have hil : i + 1 <= T.size:=by
  have h:=(bar_parts (l:=T.data.toList) (by rw [hTb]; exact HBR.out)).2
  rw [hTb,size_list] at h
  omega
 have HC:=hid (cut_yes T (w.alloc (.cells #[.bool false,.slice none 0 0,.slice none 0 0] 24)) i (by rw [hTb]; exact hi) hil hTs)
 have HA : Hid ((T.extract 0 i).data.toList = rup s.data.toList):=by show _ = _; rw [extract_list,hTw']; unfold rup; rw [if_neg HBR.out,hi]; simp
 have HD : Hid ((T.extract (i + 1) T.size).data.toList = rdn s.data.toList):=by
  show _ = _
  rw [extract_list,List.take_of_length_le (by rw [List.length_drop,size_list]; omega),hTw']
  unfold rdn
  rw [if_neg HBR.out,hi]; simp
 have hAs : (T.extract 0 i).size <= 65536:=by rw [<- size_list,extract_list,List.length_take,List.length_drop,size_list]; omega
 have hDs : (T.extract (i + 1) T.size).size <= 65536:=by rw [<- size_list,extract_list,List.length_take,List.length_drop,size_list]; omega
 generalize T.extract 0 i = A at *
 generalize T.extract (i + 1) T.size = D at *
 clear hTw' hTb hi hil hTs
 go_wp2_with fail
 refine Calls.mono HC.out ?_
 rintro e w1 ⟨rfl,hb1⟩
 clear HC
 have HH:=hid (parse_bad A w1 hAs _ HA.out HU.out)
 go_wp2_with fail
 refine Calls.mono HH.out ?_
 rintro e w2 ⟨a2,c2,rfl,hb2⟩
 clear HH
 obtain ⟨r0,r1,r2,f0,f1,f2⟩:=res_box3 HZ.out (bt hb1 hb2)
 have HBA:=hid (bt HB.out (bt hb1 hb2))
 go_wp2_with fail
 refine bodyPost_ret (v:=.agg #[.bool false,.slice none 0 0,.slice none 0 0]) (by simp [results,Tryz.results210,go_sem,r0,r1,r2]) rfl ?_
 exact rread_bad HBAD.out (below_put3 HBA.out _ (Nat.le_refl _) _ _ _)
set_option maxRecDepth 100000 in
theorem read_B (s : ByteArray) (w : World) (hs : s.size <= 65536) (hB : rbar s.data.toList = -1) (hU : IsNum (rup s.data.toList)) :
 Calls Tryz.prog 210 #[.string s] w (RRead w s.data.toList):=by
 have HB:=hid (alloc_later w (.cells #[.bool false,.slice none 0 0,.slice none 0 0] 24))
 have HZ:=hid (Box.made w 24 #[.bool false,.slice none 0 0,.slice none 0 0])
 have HLT : Hid (w.heap.size < (w.alloc (.cells #[.bool false,.slice none 0 0,.slice none 0 0] 24)).heap.size):=by show _ < _; simp
 have HCP:=hid (cutPrefix_minus s (w.alloc (.cells #[.bool false,.slice none 0 0,.slice none 0 0] 24)) hs)
 have hss:=size_list s
 rw [show decide (s.data.toList[0]? = some 45) = rneg s.data.toList from rfl] at HCP
 have HBR:=hid hB
 have HU:=hid hU
 clear hB hU
 go_enter Tryz.func210,Tryz.ntmps210
 go_wp2_with fail
 refine Calls.mono HCP.out ?_
 rintro e w' ⟨T,b,rfl,hbb,hTw,rfl⟩
 have hTs : T.size <= 65536:=by
  rw [<- size_list,hTw]
  split
  · rw [List.length_drop]; omega
  · omega
 have hTb : indexByte T.data.toList 47 = rbar s.data.toList:=by rw [hTw,hbb]; rfl
 have hTw' : T.data.toList = wdig (rneg s.data.toList) s.data.toList:=by rw [hTw,hbb]; rfl
 clear hTw HCP
 have HC:=hid (cut_no T (w.alloc (.cells #[.bool false,.slice none 0 0,.slice none 0 0] 24)) (by rw [hTb]; exact HBR.out))
 have HA : Hid (T.data.toList = rup s.data.toList):=by show _ = _; rw [hTw']; unfold rup; rw [if_pos HBR.out]
 clear hTb hTw'
 go_wp2_with fail
 refine Calls.mono HC.out ?_
 rintro e w1 ⟨rfl,rfl⟩
 clear HC
 have HH:=hid (parse_good T (w.alloc (.cells #[.bool false,.slice none 0 0,.slice none 0 0] 24)) hTs _ HA.out HU.out)
 go_wp2_with fail
 refine Calls.mono HH.out ?_
 rintro e w2 ⟨a2,z2,c2,rfl,H2,hb2⟩
 clear HH
 have HH:=hid (of_one w2)
 go_wp2_with fail
 refine Calls.mono HH.out ?_
 rintro e w3 ⟨a3,c3,rfl,H3,hb3⟩
 clear HH
 have HW:=hid (bt hb2 hb3)
 obtain ⟨r0,r1,r2,f0,f1,f2⟩:=res_box3 HZ.out HW.out
 have hz2:=hb2.size
 have hz3:=hb3.size
 have HO2 : Hid (One (w.alloc (.cells #[.bool false,.slice none 0 0,.slice none 0 0] 24)) w3 (.slice a2 z2.length c2) z2 (rnu s.data.toList)):=⟨owns_later H2.out.1.1 hb3,H2.out.1.2⟩
 have HDE : Hid (rde s.data.toList = 1):=by show _ = _; unfold rde; rw [if_pos HBR.out]
 have HO3 : Hid (One (w.alloc (.cells #[.bool false,.slice none 0 0,.slice none 0 0] 24)) w3 (.slice a3 1 c3) [1] (rde s.data.toList)):=⟨owns_base H3.out.1 (by omega),H3.out.2.1,H3.out.2.2.1,by rw [HDE.out]; exact H3.out.2.2.2⟩
 have HCUT : Hid (Cut (w.alloc (.cells #[.bool false,.slice none 0 0,.slice none 0 0] 24)) (.slice a2 z2.length c2) (.slice a3 1 c3) w3):=cut_two (Nat.le_refl _) hz2 hz3 (World.ownsRow.lt H2.out.1.1) (World.ownsRow.lt H3.out.1)
 have HLL:=hid H2.out.2
 clear hb2 hb3 hz2 hz3 H2 H3
 subst hbb
 go_wp2_with fail
 refine bodyPost_ret (v:=.agg #[.bool (rneg s.data.toList),.slice a2 z2.length c2,.slice a3 1 c3]) (by simp [results,Tryz.results210,go_sem,r0,r1,r2]) rfl ?_
 exact rread_put HB.out HLT.out HW.out HO2.out HO3.out HCUT.out HLL.out (by simp) rfl HU.out (.inl HBR.out) _ _ _
set_option maxRecDepth 100000 in
theorem read_C (s : ByteArray) (w : World) (hs : s.size <= 65536) (hB : ¬ rbar s.data.toList = -1) (hU : IsNum (rup s.data.toList)) (hV : ¬ IsNum (rdn s.data.toList)) :
 Calls Tryz.prog 210 #[.string s] w (RRead w s.data.toList):=by
 have HB:=hid (alloc_later w (.cells #[.bool false,.slice none 0 0,.slice none 0 0] 24))
 have HZ:=hid (Box.made w 24 #[.bool false,.slice none 0 0,.slice none 0 0])
 have HLT : Hid (w.heap.size < (w.alloc (.cells #[.bool false,.slice none 0 0,.slice none 0 0] 24)).heap.size):=by show _ < _; simp
 have HCP:=hid (cutPrefix_minus s (w.alloc (.cells #[.bool false,.slice none 0 0,.slice none 0 0] 24)) hs)
 have hss:=size_list s
 rw [show decide (s.data.toList[0]? = some 45) = rneg s.data.toList from rfl] at HCP
 have HBR:=hid hB
 have HU:=hid hU
 have HV:=hid hV
 have HBAD : Hid (¬ rgood s.data.toList):=fun h => h.2.1.elim hB (fun e => hV e.1)
 clear hB hU hV
 go_enter Tryz.func210,Tryz.ntmps210
 go_wp2_with fail
 refine Calls.mono HCP.out ?_
 rintro e w' ⟨T,b,rfl,hbb,hTw,rfl⟩
 have hTs : T.size <= 65536:=by
  rw [<- size_list,hTw]
  split
  · rw [List.length_drop]; omega
  · omega
 have hTb : indexByte T.data.toList 47 = rbar s.data.toList:=by rw [hTw,hbb]; rfl
 have hTw' : T.data.toList = wdig (rneg s.data.toList) s.data.toList:=by rw [hTw,hbb]; rfl
 clear hTw HCP
 obtain ⟨i,hi⟩ : ∃ i : Nat,rbar s.data.toList = (i : Int):=⟨(rbar s.data.toList).toNat,by have:=indexByte_ge (wdig (rneg s.data.toList) s.data.toList) 47; have h:=HBR.out; have e : rbar s.data.toList = indexByte (wdig (rneg s.data.toList) s.data.toList) 47:=rfl; omega⟩
 have hil : i + 1 <= T.size:=by
  have h:=(bar_parts (l:=T.data.toList) (by rw [hTb]; exact HBR.out)).2
  rw [hTb,size_list] at h
  omega
 have HC:=hid (cut_yes T (w.alloc (.cells #[.bool false,.slice none 0 0,.slice none 0 0] 24)) i (by rw [hTb]; exact hi) hil hTs)
 have HA : Hid ((T.extract 0 i).data.toList = rup s.data.toList):=by show _ = _; rw [extract_list,hTw']; unfold rup; rw [if_neg HBR.out,hi]; simp
 have HD : Hid ((T.extract (i + 1) T.size).data.toList = rdn s.data.toList):=by
  show _ = _
  rw [extract_list,List.take_of_length_le (by rw [List.length_drop,size_list]; omega),hTw']
  unfold rdn
  rw [if_neg HBR.out,hi]; simp
 have hAs : (T.extract 0 i).size <= 65536:=by rw [<- size_list,extract_list,List.length_take,List.length_drop,size_list]; omega
 have hDs : (T.extract (i + 1) T.size).size <= 65536:=by rw [<- size_list,extract_list,List.length_take,List.length_drop,size_list]; omega
 generalize T.extract 0 i = A at *
 generalize T.extract (i + 1) T.size = D at *
 clear hTw' hTb hi hil hTs
 go_wp2_with fail
 refine Calls.mono HC.out ?_
 rintro e w1 ⟨rfl,hb1⟩
 clear HC
 have HH:=hid (parse_good A w1 hAs _ HA.out HU.out)
 go_wp2_with fail
 refine Calls.mono HH.out ?_
 rintro e w2 ⟨a2,z2,c2,rfl,H2,hb2⟩
 clear HH
 have HH:=hid (parse_bad D w2 hDs _ HD.out HV.out)
 go_wp2_with fail
 refine Calls.mono HH.out ?_
 rintro e w3 ⟨a3,c3,rfl,hb3⟩
 clear HH
 obtain ⟨r0,r1,r2,f0,f1,f2⟩:=res_box3 HZ.out (bt hb1 (bt hb2 hb3))
 have HBA:=hid (bt HB.out (bt hb1 (bt hb2 hb3)))
 go_wp2_with fail
 refine bodyPost_ret (v:=.agg #[.bool false,.slice none 0 0,.slice none 0 0]) (by simp [results,Tryz.results210,go_sem,r0,r1,r2]) rfl ?_
 exact rread_bad HBAD.out (below_put3 HBA.out _ (Nat.le_refl _) _ _ _)
set_option maxRecDepth 100000 in
theorem read_D (s : ByteArray) (w : World) (hs : s.size <= 65536) (hB : ¬ rbar s.data.toList = -1) (hU : IsNum (rup s.data.toList)) (hV : IsNum (rdn s.data.toList)) (hO : rde s.data.toList = 1) :
 Calls Tryz.prog 210 #[.string s] w (RRead w s.data.toList):=by
 have HB:=hid (alloc_later w (.cells #[.bool false,.slice none 0 0,.slice none 0 0] 24))
 have HZ:=hid (Box.made w 24 #[.bool false,.slice none 0 0,.slice none 0 0])
 have HLT : Hid (w.heap.size < (w.alloc (.cells #[.bool false,.slice none 0 0,.slice none 0 0] 24)).heap.size):=by show _ < _; simp
 have HCP:=hid (cutPrefix_minus s (w.alloc (.cells #[.bool false,.slice none 0 0,.slice none 0 0] 24)) hs)
 have hss:=size_list s
 rw [show decide (s.data.toList[0]? = some 45) = rneg s.data.toList from rfl] at HCP
 have HBR:=hid hB
 have HU:=hid hU
 have HV:=hid hV
 have HBAD : Hid (¬ rgood s.data.toList):=fun h => h.2.1.elim hB (fun e => e.2 hO)
 have hde : rde s.data.toList = numTo (rdn s.data.toList) (rdn s.data.toList).length:=by unfold rde; rw [if_neg hB]
 have hval : ∀ z : List Int,Wd z -> Trimmed z -> val z = numTo (rdn s.data.toList) (rdn s.data.toList).length -> decide (z = [1]) = true:=fun z w t v => decide_eq_true ((one_iff w t).2 (by rw [v,<- hde]; exact hO))
 clear hB hU hV hO hde
 go_enter Tryz.func210,Tryz.ntmps210
 go_wp2_with fail
 refine Calls.mono HCP.out ?_
 rintro e w' ⟨T,b,rfl,hbb,hTw,rfl⟩
 have hTs : T.size <= 65536:=by
  rw [<- size_list,hTw]
  split
  · rw [List.length_drop]; omega
  · omega
 have hTb : indexByte T.data.toList 47 = rbar s.data.toList:=by rw [hTw,hbb]; rfl
 have hTw' : T.data.toList = wdig (rneg s.data.toList) s.data.toList:=by rw [hTw,hbb]; rfl
 clear hTw HCP
 obtain ⟨i,hi⟩ : ∃ i : Nat,rbar s.data.toList = (i : Int):=⟨(rbar s.data.toList).toNat,by have:=indexByte_ge (wdig (rneg s.data.toList) s.data.toList) 47; have h:=HBR.out; have e : rbar s.data.toList = indexByte (wdig (rneg s.data.toList) s.data.toList) 47:=rfl; omega⟩
 have hil : i + 1 <= T.size:=by
  have h:=(bar_parts (l:=T.data.toList) (by rw [hTb]; exact HBR.out)).2
  rw [hTb,size_list] at h
  omega
 have HC:=hid (cut_yes T (w.alloc (.cells #[.bool false,.slice none 0 0,.slice none 0 0] 24)) i (by rw [hTb]; exact hi) hil hTs)
 have HA : Hid ((T.extract 0 i).data.toList = rup s.data.toList):=by show _ = _; rw [extract_list,hTw']; unfold rup; rw [if_neg HBR.out,hi]; simp
 have HD : Hid ((T.extract (i + 1) T.size).data.toList = rdn s.data.toList):=by
  show _ = _
  rw [extract_list,List.take_of_length_le (by rw [List.length_drop,size_list]; omega),hTw']
  unfold rdn
  rw [if_neg HBR.out,hi]; simp
 have hAs : (T.extract 0 i).size <= 65536:=by rw [<- size_list,extract_list,List.length_take,List.length_drop,size_list]; omega
 have hDs : (T.extract (i + 1) T.size).size <= 65536:=by rw [<- size_list,extract_list,List.length_take,List.length_drop,size_list]; omega
 generalize T.extract 0 i = A at *
 generalize T.extract (i + 1) T.size = D at *
 clear hTw' hTb hi hil hTs
 go_wp2_with fail
 refine Calls.mono HC.out ?_
 rintro e w1 ⟨rfl,hb1⟩
 clear HC
 have HH:=hid (parse_good A w1 hAs _ HA.out HU.out)
 go_wp2_with fail
 refine Calls.mono HH.out ?_
 rintro e w2 ⟨a2,z2,c2,rfl,H2,hb2⟩
 clear HH
 have HH:=hid (parse_good D w2 hDs _ HD.out HV.out)
 go_wp2_with fail
 refine Calls.mono HH.out ?_
 rintro e w3 ⟨a3,z3,c3,rfl,H3,hb3⟩
 clear HH
 have HI:=isOne_any _ z3 w3 (Sl.own H3.out.1.1 H3.out.1.2.1)
 rw [hval z3 H3.out.1.2.1 H3.out.1.2.2.1 H3.out.1.2.2.2] at HI
 clear hval
 have HH:=hid (HI)
 go_wp2_with fail
 refine Calls.mono HH.out ?_
 rintro e w4 ⟨rfl,rfl⟩
 clear HH
 obtain ⟨r0,r1,r2,f0,f1,f2⟩:=res_box3 HZ.out (bt hb1 (bt hb2 hb3))
 have HBA:=hid (bt HB.out (bt hb1 (bt hb2 hb3)))
 go_wp2_with fail
 refine bodyPost_ret (v:=.agg #[.bool false,.slice none 0 0,.slice none 0 0]) (by simp [results,Tryz.results210,go_sem,r0,r1,r2]) rfl ?_
 exact rread_bad HBAD.out (below_put3 HBA.out _ (Nat.le_refl _) _ _ _)
set_option maxRecDepth 100000 in
theorem read_E (s : ByteArray) (w : World) (hs : s.size <= 65536) (hB : ¬ rbar s.data.toList = -1) (hU : IsNum (rup s.data.toList)) (hV : IsNum (rdn s.data.toList)) (hO : ¬ rde s.data.toList = 1) :
 Calls Tryz.prog 210 #[.string s] w (RRead w s.data.toList):=by
 have HB:=hid (alloc_later w (.cells #[.bool false,.slice none 0 0,.slice none 0 0] 24))
 have HZ:=hid (Box.made w 24 #[.bool false,.slice none 0 0,.slice none 0 0])
 have HLT : Hid (w.heap.size < (w.alloc (.cells #[.bool false,.slice none 0 0,.slice none 0 0] 24)).heap.size):=by show _ < _; simp
 have HCP:=hid (cutPrefix_minus s (w.alloc (.cells #[.bool false,.slice none 0 0,.slice none 0 0] 24)) hs)
 have hss:=size_list s
 rw [show decide (s.data.toList[0]? = some 45) = rneg s.data.toList from rfl] at HCP
 have HBR:=hid hB
 have HU:=hid hU
 have HV:=hid hV
 have HO:=hid hO
 have hde : rde s.data.toList = numTo (rdn s.data.toList) (rdn s.data.toList).length:=by unfold rde; rw [if_neg hB]
 have hval : ∀ z : List Int,Wd z -> Trimmed z -> val z = numTo (rdn s.data.toList) (rdn s.data.toList).length -> decide (z = [1]) = false:=fun z w t v => decide_eq_false (fun e => hO (by rw [hde,<- v]; exact (one_iff w t).1 e))
 have HDE:=hid hde
 clear hB hU hV hO hde
 go_enter Tryz.func210,Tryz.ntmps210
 go_wp2_with fail
 refine Calls.mono HCP.out ?_
 rintro e w' ⟨T,b,rfl,hbb,hTw,rfl⟩
 have hTs : T.size <= 65536:=by
  rw [<- size_list,hTw]
  split
  · rw [List.length_drop]; omega
  · omega
 have hTb : indexByte T.data.toList 47 = rbar s.data.toList:=by rw [hTw,hbb]; rfl
 have hTw' : T.data.toList = wdig (rneg s.data.toList) s.data.toList:=by rw [hTw,hbb]; rfl
 clear hTw HCP
 obtain ⟨i,hi⟩ : ∃ i : Nat,rbar s.data.toList = (i : Int):=⟨(rbar s.data.toList).toNat,by have:=indexByte_ge (wdig (rneg s.data.toList) s.data.toList) 47; have h:=HBR.out; have e : rbar s.data.toList = indexByte (wdig (rneg s.data.toList) s.data.toList) 47:=rfl; omega⟩
 have hil : i + 1 <= T.size:=by
  have h:=(bar_parts (l:=T.data.toList) (by rw [hTb]; exact HBR.out)).2
  rw [hTb,size_list] at h
  omega
 have HC:=hid (cut_yes T (w.alloc (.cells #[.bool false,.slice none 0 0,.slice none 0 0] 24)) i (by rw [hTb]; exact hi) hil hTs)
 have HA : Hid ((T.extract 0 i).data.toList = rup s.data.toList):=by show _ = _; rw [extract_list,hTw']; unfold rup; rw [if_neg HBR.out,hi]; simp
 have HD : Hid ((T.extract (i + 1) T.size).data.toList = rdn s.data.toList):=by
  show _ = _
  rw [extract_list,List.take_of_length_le (by rw [List.length_drop,size_list]; omega),hTw']
  unfold rdn
  rw [if_neg HBR.out,hi]; simp
 have hAs : (T.extract 0 i).size <= 65536:=by rw [<- size_list,extract_list,List.length_take,List.length_drop,size_list]; omega
 have hDs : (T.extract (i + 1) T.size).size <= 65536:=by rw [<- size_list,extract_list,List.length_take,List.length_drop,size_list]; omega
 generalize T.extract 0 i = A at *
 generalize T.extract (i + 1) T.size = D at *
 clear hTw' hTb hi hil hTs
 go_wp2_with fail
 refine Calls.mono HC.out ?_
 rintro e w1 ⟨rfl,hb1⟩
 clear HC
 have HH:=hid (parse_good A w1 hAs _ HA.out HU.out)
 go_wp2_with fail
 refine Calls.mono HH.out ?_
 rintro e w2 ⟨a2,z2,c2,rfl,H2,hb2⟩
 clear HH
 have HH:=hid (parse_good D w2 hDs _ HD.out HV.out)
 go_wp2_with fail
 refine Calls.mono HH.out ?_
 rintro e w3 ⟨a3,z3,c3,rfl,H3,hb3⟩
 clear HH
 have HI:=isOne_any _ z3 w3 (Sl.own H3.out.1.1 H3.out.1.2.1)
 rw [hval z3 H3.out.1.2.1 H3.out.1.2.2.1 H3.out.1.2.2.2] at HI
 clear hval
 have HH:=hid (HI)
 go_wp2_with fail
 refine Calls.mono HH.out ?_
 rintro e w4 ⟨rfl,rfl⟩
 clear HH
 have HW:=hid (bt hb1 (bt hb2 hb3))
 obtain ⟨r0,r1,r2,f0,f1,f2⟩:=res_box3 HZ.out HW.out
 have hz1:=hb1.size
 have hz2:=hb2.size
 have hz3:=hb3.size
 have HO2 : Hid (One (w.alloc (.cells #[.bool false,.slice none 0 0,.slice none 0 0] 24)) w3 (.slice a2 z2.length c2) z2 (rnu s.data.toList)):=⟨owns_base (owns_later H2.out.1.1 hb3) hz1,H2.out.1.2⟩
 have HO3 : Hid (One (w.alloc (.cells #[.bool false,.slice none 0 0,.slice none 0 0] 24)) w3 (.slice a3 z3.length c3) z3 (rde s.data.toList)):=⟨owns_base H3.out.1.1 (by omega),H3.out.1.2.1,H3.out.1.2.2.1,by rw [HDE.out]; exact H3.out.1.2.2.2⟩
 have HCUT : Hid (Cut (w.alloc (.cells #[.bool false,.slice none 0 0,.slice none 0 0] 24)) (.slice a2 z2.length c2) (.slice a3 z3.length c3) w3):=cut_two hz1 hz2 hz3 (World.ownsRow.lt H2.out.1.1) (World.ownsRow.lt H3.out.1.1)
 have HLL:=hid (And.intro H2.out.2 H3.out.2)
 clear hb1 hb2 hb3 hz1 hz2 hz3 H2 H3
 have HBB:=hid hbb
 subst hbb
 go_wp2_with fail
 refine bodyPost_ret (v:=.agg #[.bool (rneg s.data.toList),.slice a2 z2.length c2,.slice a3 z3.length c3]) (by simp [results,Tryz.results210,go_sem,r0,r1,r2]) rfl ?_
 exact rread_put HB.out HLT.out HW.out HO2.out HO3.out HCUT.out HLL.out.1 HLL.out.2 rfl HU.out (.inr ⟨HV.out,HO.out⟩) _ _ _
theorem read_any (s : ByteArray) (w : World) (hs : s.size <= 65536) : Calls Tryz.prog 210 #[.string s] w (RRead w s.data.toList):=by
 by_cases hB : rbar s.data.toList = -1
 · by_cases hU : IsNum (rup s.data.toList)
   · exact read_B s w hs hB hU
   · exact read_A1 s w hs hB hU
 · by_cases hU : IsNum (rup s.data.toList)
   · by_cases hV : IsNum (rdn s.data.toList)
     · by_cases hO : rde s.data.toList = 1
       · exact read_D s w hs hB hU hV hO
       · exact read_E s w hs hB hU hV hO
     · exact read_C s w hs hB hU hV
   · exact read_A2 s w hs hB hU
theorem prErr_good {s : ByteArray} (hs : s.size <= 65536) (h : rgood s.data.toList) : prErr s = 0:=by unfold prErr; rw [if_neg (by omega),if_pos h]
theorem prErr_bad {s : ByteArray} (hs : s.size <= 65536) (h : ¬ rgood s.data.toList) : prErr s = 130:=by unfold prErr; rw [if_neg (by omega),if_neg h]
theorem prErr_long {s : ByteArray} (hs : 65536 < s.size) : prErr s = 3:=by unfold prErr; rw [if_pos hs]
theorem rtold_zero {w W : World} {e : Int} {q : Rat} (he : e ≠ 0) (hb : Below w.heap.size w W) : RToldA w e q (.returned (.tuple #[.agg #[.bool false,.slice none 0 0,.slice none 0 0],.int .i64 e])) W :=
 ⟨false,_,[],_,[],e,rfl,World.ownsRow_nil _ _ _ _,World.ownsRow_nil _ _ _ _,RTells.err he,hb,W.heap.size,hb.size,Nat.le_refl _,fun g hg => by simp [Value.ownBlock] at hg,fun g hg => by simp [Value.ownBlock] at hg⟩
set_option maxRecDepth 100000 in
theorem rparse_any (s : ByteArray) (w : World) (hs : s.size <= 65536) : Calls Tryz.prog 166 #[.string s] w (RToldA w (prErr s) (rpq s.data.toList)):=by
 have hs' : ¬ (65536 : Int) < (s.size : Int):=by omega
 have HB:=hid (alloc_later w (.cells #[.bool false,.slice none 0 0,.slice none 0 0] 24))
 have HZ:=hid (Box.made w 24 #[.bool false,.slice none 0 0,.slice none 0 0])
 have HLT : Hid (w.heap.size < (w.alloc (.cells #[.bool false,.slice none 0 0,.slice none 0 0] 24)).heap.size):=by show _ < _; simp
 have HR:=hid (read_any s (w.alloc (.cells #[.bool false,.slice none 0 0,.slice none 0 0] 24)) hs)
 by_cases hg : rgood s.data.toList
 · rw [prErr_good hs hg]
   have HG:=hid hg
   clear hg hs
   go_enter Tryz.func166,Tryz.ntmps166
   go_wp2_with fail
   refine Calls.mono HR.out ?_
   generalize (w.alloc (.cells #[.bool false,.slice none 0 0,.slice none 0 0] 24)) = X at *
   rintro e w1 ⟨n,v,xs,u,ys,rfl,o1,o2,wx,wy,lx,ly,hiff,hval,hb1,hcut⟩
   obtain ⟨a1,c1,hv⟩:=own_slice' o1
   subst hv
   obtain ⟨a2,c2,hv⟩:=own_slice' o2
   subst hv
   obtain ⟨hn,tx,ty,vx,vy⟩:=hval HG.out
   have HAL:=hid (alloc_later w1 (.cells #[.bool n,.slice a1 xs.length c1,.slice a2 ys.length c2] 24))
   have HBX:=hid (Box.made w1 24 #[.bool n,.slice a1 xs.length c1,.slice a2 ys.length c2])
   have HI:=inOneForm_any n _ xs _ ys (w1.alloc (.cells #[.bool n,.slice a1 xs.length c1,.slice a2 ys.length c2] 24)) ((Sl.own o1 wx).later HAL.out) ((Sl.own o2 wy).later HAL.out) (by omega) (by omega)
   rw [decide_eq_true (hiff.2 HG.out)] at HI
   have HH:=hid HI
   have HO1 : Hid (One X w1 (.slice a1 xs.length c1) xs (rnu s.data.toList)):=⟨o1,wx,tx,vx⟩
   have HO2 : Hid (One X w1 (.slice a2 ys.length c2) ys (rde s.data.toList)):=⟨o2,wy,ty,vy⟩
   have HCUT:=hid hcut
   have HN:=hid hn
   have HB1:=hid (bt hb1 HAL.out)
   clear o1 o2 wx wy lx ly hiff hval hb1 hcut HI hn tx ty vx vy HR
   go_wp2_with fail
   refine Calls.mono HH.out ?_
   rintro e w2 ⟨rfl,hb2⟩
   obtain ⟨p0,p1,p2,_,_,_⟩:=res_box3 HBX.out hb2
   have HAB:=hid (bt HAL.out hb2)
   have hz:=HAB.out.size
   have HT:=hid (rtold_cut2 (n:=n) (q:=rpq s.data.toList) (bt HB1.out hb2) (HO1.out.later HAB.out) (HO2.out.later HAB.out) (HCUT.out.up (Nat.le_refl _) hz) HG.out.2.2.1 HG.out.2.2.2.2 (by rw [HN.out]; rfl))
   have HB2:=hid (bt HB1.out hb2)
   clear hb2 HH HAB HBX HAL
   go_wp2_with fail
   refine Calls.mono HT.out ?_
   rintro e w3 ⟨k9,a8,z8,c8,a9,z9,c9,code,rfl,HE9,hb3,_⟩
   obtain ⟨r0,r1,r2,f0,f1,f2⟩:=res_box3 HZ.out hb3
   have HBW:=hid (bt HB.out hb3)
   clear hb3 HT
   go_wp2_with fail
   refine bodyPost_ret (v:=.tuple #[.agg #[.bool k9,.slice a8 z8.length c8,.slice a9 z9.length c9],.int .i64 code]) (by simp [results,Tryz.results166,go_sem,r0,r1,r2]) rfl ?_
   exact RToldA.put HE9.out w.heap.size HLT.out (Nat.le_refl _) HBW.out _ _ _
 · rw [prErr_bad hs hg]
   have HG:=hid hg
   clear hg hs
   go_enter Tryz.func166,Tryz.ntmps166
   go_wp2_with fail
   refine Calls.mono HR.out ?_
   generalize (w.alloc (.cells #[.bool false,.slice none 0 0,.slice none 0 0] 24)) = X at *
   rintro e w1 ⟨n,v,xs,u,ys,rfl,o1,o2,wx,wy,lx,ly,hiff,hval,hb1,hcut⟩
   obtain ⟨a1,c1,hv⟩:=own_slice' o1
   subst hv
   obtain ⟨a2,c2,hv⟩:=own_slice' o2
   subst hv
   have HAL:=hid (alloc_later w1 (.cells #[.bool n,.slice a1 xs.length c1,.slice a2 ys.length c2] 24))
   have HI:=inOneForm_any n _ xs _ ys (w1.alloc (.cells #[.bool n,.slice a1 xs.length c1,.slice a2 ys.length c2] 24)) ((Sl.own o1 wx).later HAL.out) ((Sl.own o2 wy).later HAL.out) (by omega) (by omega)
   rw [decide_eq_false (fun e => HG.out (hiff.1 e))] at HI
   have HH:=hid HI
   have HB1:=hid (bt hb1 HAL.out)
   clear o1 o2 wx wy lx ly hiff hval hb1 hcut HI HR
   go_wp2_with fail
   refine Calls.mono HH.out ?_
   rintro e w2 ⟨rfl,hb2⟩
   obtain ⟨r0,r1,r2,f0,f1,f2⟩:=res_box3 HZ.out (bt HB1.out hb2)
   have HBW:=hid (bt HB.out (bt HB1.out hb2))
   clear hb2 HH
   go_wp2_with fail
   refine bodyPost_ret (v:=.tuple #[.agg #[.bool false,.slice none 0 0,.slice none 0 0],.int .i64 130]) (by simp [results,Tryz.results166,go_sem,r0,r1,r2]) rfl ?_
   exact rtold_zero (by decide) (below_put3 HBW.out _ (Nat.le_refl _) _ _ _)
end Go.Proofs.YtnhmaijmmkplkaaGreatDoor
namespace Go.Proofs.YtnhmaijmmkplkaaGreatDoor
set_option maxHeartbeats 6400000
open Go.RowKit
set_option linter.unusedVariables false
def RPr (n : Bool) (xs ys : List Int) (w : World) (x : Ending) (w' : World) : Prop:=∃ S : ByteArray,x = .returned (.tuple #[.string S,.int .i64 (rchk n xs ys)]) /\ (rchk n xs ys = 0 -> S.data.toList = rtext n xs ys) /\ Below w.heap.size w w'
theorem grPrint_any (n : Bool) (a : Option Addr) (ca : Nat) (xs : List Int) (b : Option Addr) (cb : Nat) (ys : List Int) (w : World) (sx : Sl w (.slice a xs.length ca) xs) (sy : Sl w (.slice b ys.length cb) ys) (htab : Tab w) :
 Calls Tryz.prog 88 #[.agg #[.bool n,.slice a xs.length ca,.slice b ys.length cb]] w (RPr n xs ys w):=by
 by_cases h : rchk n xs ys = 0
 · refine Calls.mono (rPrint_ok n a ca xs b cb ys w sx sy h htab) ?_
   rintro e w' ⟨S,rfl,hS,hb⟩
   exact ⟨S,by rw [h],fun _ => hS,hb⟩
 · refine Calls.mono (rPrint_err n a ca xs b cb ys w sx sy h) ?_
   rintro e w' ⟨rfl,hb⟩
   exact ⟨_,rfl,fun h' => absurd h' h,hb⟩
theorem rtext_short {n : Bool} {xs ys : List Int} (wx : Wd xs) (wy : Wd ys) (h : rchk n xs ys = 0) : (rtext n xs ys).length <= 40964:=by
 obtain ⟨lx,ly,_⟩:=rchk_ok h
 have hd1:=dec_short wx lx
 have hd2:=dec_short wy ly
 have h1 : (wtext n xs).length <= 20482:=by
  unfold wtext
  rw [List.length_append]
  have : (if n then [45] else [] : List UInt8).length <= 1:=by cases n <;> simp
  omega
 unfold rtext
 by_cases h2 : ys = [1]
 · rw [if_pos h2]; omega
 · rw [if_neg h2,List.length_append,List.length_cons]; omega
def gtext (n : Bool) (xs ys : List Int) (m : Bool) (us vs : List Int) : List UInt8:=rtext n xs ys ++ 32 :: rtext m us vs
def gpErr (n : Bool) (xs ys : List Int) (m : Bool) (us vs : List Int) : Int:=fstE (gchk n xs ys m us vs) (if 65536 < (gtext n xs ys m us vs).length then 3 else 0)
set_option maxRecDepth 100000 in
theorem gPrint_any (n : Bool) (a : Option Addr) (ca : Nat) (xs : List Int) (b : Option Addr) (cb : Nat) (ys : List Int) (m : Bool) (c : Option Addr) (cc : Nat) (us : List Int) (d : Option Addr) (cd : Nat) (vs : List Int) (w : World) (sx : Sl w (.slice a xs.length ca) xs) (sy : Sl w (.slice b ys.length cb) ys) (su : Sl w (.slice c us.length cc) us) (sv : Sl w (.slice d vs.length cd) vs) (htab : Tab w) :
 Calls Tryz.prog 144 #[.agg #[.bool n,.slice a xs.length ca,.slice b ys.length cb,.bool m,.slice c us.length cc,.slice d vs.length cd]] w fun x w' => ∃ S : ByteArray,x = .returned (.tuple #[.string S,.int .i64 (gpErr n xs ys m us vs)]) /\ (gpErr n xs ys m us vs = 0 -> S.data.toList = gtext n xs ys m us vs) /\ (gpErr n xs ys m us vs ≠ 0 -> S = ⟨#[]⟩) /\ Below w.heap.size w w':=by
 have HX:=hid (Box.made w 35 #[.bool n,.slice a xs.length ca,.slice b ys.length cb,.bool m,.slice c us.length cc,.slice d vs.length cd])
 have HB:=hid (alloc_later w (.cells #[.bool n,.slice a xs.length ca,.slice b ys.length cb,.bool m,.slice c us.length cc,.slice d vs.length cd] 35))
 have H1:=hid (grPrint_any n a ca xs b cb ys (w.alloc (.cells #[.bool n,.slice a xs.length ca,.slice b ys.length cb,.bool m,.slice c us.length cc,.slice d vs.length cd] 35)) (sx.later HB.out) (sy.later HB.out) (htab.later HB.out))
 have H2 : Hid (∀ V,Below w.heap.size w V -> Calls Tryz.prog 88 #[.agg #[.bool m,.slice c us.length cc,.slice d vs.length cd]] V (RPr m us vs V)):=fun V hv => grPrint_any m c cc us d cd vs V (su.later hv) (sv.later hv) (htab.later hv)
 have HG : Hid (∀ e,gchk n xs ys m us vs = e -> e ≠ 0 -> gpErr n xs ys m us vs = e):=fun e h he => by unfold gpErr; rw [h]; exact fstE_err _ he
 have HG0 : Hid (gchk n xs ys m us vs = 0 -> gpErr n xs ys m us vs = if 65536 < (gtext n xs ys m us vs).length then 3 else 0):=fun h => by unfold gpErr; rw [h]; exact fstE_zero _
 have HK1 : Hid (rchk n xs ys ≠ 0 -> gchk n xs ys m us vs = rchk n xs ys):=fun h => fstE_err _ h
 have HK2 : Hid (rchk n xs ys = 0 -> gchk n xs ys m us vs = rchk m us vs):=fun h => by unfold gchk; rw [h]; exact fstE_zero _
 have HS1 : Hid (rchk n xs ys = 0 -> (rtext n xs ys).length <= 40964):=fun h => rtext_short sx.wd sy.wd h
 have HS2 : Hid (rchk m us vs = 0 -> (rtext m us vs).length <= 40964):=fun h => rtext_short su.wd sv.wd h
 have HGT : Hid (gtext n xs ys m us vs = rtext n xs ys ++ 32 :: rtext m us vs):=rfl
 generalize gtext n xs ys m us vs = GT at *
 generalize gpErr n xs ys m us vs = GE at *
 generalize gchk n xs ys m us vs = GC at *
 clear sx sy su sv htab
 obtain ⟨X,hX⟩ : ∃ X,w.alloc (.cells #[.bool n,.slice a xs.length ca,.slice b ys.length cb,.bool m,.slice c us.length cc,.slice d vs.length cd] 35) = X:=⟨_,rfl⟩
 rw [hX] at HX HB H1
 have k0 : X.cell? ⟨w.heap.size,0,none⟩ = some (.bool n):=HX.out.cell 0
 have k1 : X.cell? ⟨w.heap.size,1,none⟩ = some (.slice a xs.length ca):=HX.out.cell 1
 have k2 : X.cell? ⟨w.heap.size,2,none⟩ = some (.slice b ys.length cb):=HX.out.cell 2
 have k3 : X.cell? ⟨w.heap.size,3,none⟩ = some (.bool m):=HX.out.cell 3
 have k4 : X.cell? ⟨w.heap.size,4,none⟩ = some (.slice c us.length cc):=HX.out.cell 4
 have k5 : X.cell? ⟨w.heap.size,5,none⟩ = some (.slice d vs.length cd):=HX.out.cell 5
 have HE1 : Hid (∃ e1,rchk n xs ys = e1):=⟨_,rfl⟩
 go_enter Tryz.func144,Tryz.ntmps144
 go_wp2_with fail
 refine Calls.mono H1.out ?_
 rintro x w1 ⟨S,rfl,hS,hb1⟩
 have HW1:=hid (bt HB.out hb1)
 have HA1:=hid (HX.out.later hb1 HX.out.lt)
 have HSS:=hid hS
 clear hS hb1 H1 k0 k1 k2 k3 k4 k5
 have k0 : w1.cell? ⟨w.heap.size,0,none⟩ = some (.bool n):=HA1.out.cell 0
 have k1 : w1.cell? ⟨w.heap.size,1,none⟩ = some (.slice a xs.length ca):=HA1.out.cell 1
 have k2 : w1.cell? ⟨w.heap.size,2,none⟩ = some (.slice b ys.length cb):=HA1.out.cell 2
 have k3 : w1.cell? ⟨w.heap.size,3,none⟩ = some (.bool m):=HA1.out.cell 3
 have k4 : w1.cell? ⟨w.heap.size,4,none⟩ = some (.slice c us.length cc):=HA1.out.cell 4
 have k5 : w1.cell? ⟨w.heap.size,5,none⟩ = some (.slice d vs.length cd):=HA1.out.cell 5
 by_cases h1 : rchk n xs ys = 0
 · have HZ1:=hid h1
   have hSl : S.size <= 40964:=by
    have e1 : S.data.toList.length = S.size:=Array.length_toList
    rw [<- e1,HSS.out h1]
    exact HS1.out h1
   rw [h1]
   clear h1
   have H3:=hid (H2.out w1 HW1.out)
   go_wp2_with fail
   refine Calls.mono H3.out ?_
   rintro x w2 ⟨U,rfl,hU,hb2⟩
   have HW2:=hid (bt HW1.out hb2)
   have HUU:=hid hU
   clear hU hb2 H3 H2 k0 k1 k2 k3 k4 k5
   by_cases h2 : rchk m us vs = 0
   · have hUl : U.size <= 40964:=by
      have e1 : U.data.toList.length = U.size:=Array.length_toList
      rw [<- e1,HUU.out h2]
      exact HS2.out h2
     have HGC:=hid ((HK2.out HZ1.out).trans h2)
     have HLL : Hid (GT.length = S.size + 1 + U.size):=by
      show _ = _
      rw [HGT.out,<- HSS.out HZ1.out,<- HUU.out h2,List.length_append,List.length_cons,Array.length_toList,Array.length_toList]
      show S.size + (U.size + 1) = _
      omega
     have HTX : Hid (GT = S.data.toList ++ 32 :: U.data.toList):=by
      show _ = _
      rw [HGT.out,<- HSS.out HZ1.out,<- HUU.out h2]
     rw [h2]
     clear h2
     have hg1 : ¬ (9223372036854775807 : Int) < (S.size : Int) + 1:=by omega
     have hg2 : ¬ (9223372036854775807 : Int) < (S.size : Int) + 1 + (U.size : Int):=by omega
     have hw1 : IntKind.i64.wrap ((S.size : Int) + 1) = (S.size : Int) + 1:=by rw [IntKind.wrap_i64]; omega
     have hw2 : IntKind.i64.wrap ((S.size : Int) + 1 + (U.size : Int)) = (S.size : Int) + 1 + (U.size : Int):=by rw [IntKind.wrap_i64]; omega
     by_cases hl : (65536 : Int) < (S.size : Int) + 1 + (U.size : Int)
     · have HGE : Hid (GE = 3):=by show _ = _; rw [HG0.out HGC.out,if_pos (by have:=HLL.out; omega)]
       have hlb : decide ((65536 : Int) < (S.size : Int) + 1 + (U.size : Int)) = true:=decide_eq_true hl
       clear hl hSl hUl hg1 hg2
       go_wp2_with fail
       go_ret2
       rw [HGE.out]
       exact ⟨_,rfl,fun h => absurd h (by decide),fun _ => rfl,HW2.out⟩
     · have HGE : Hid (GE = 0):=by show _ = _; rw [HG0.out HGC.out,if_neg (by have:=HLL.out; omega)]
       have hlb : decide ((65536 : Int) < (S.size : Int) + 1 + (U.size : Int)) = false:=decide_eq_false hl
       clear hl hSl hUl
       go_wp2_with fail
       go_ret2
       rw [HGE.out]
       refine ⟨_,rfl,fun _ => ?_,fun h => absurd rfl h,HW2.out⟩
       rw [HTX.out]
       simp
   · have HGE:=hid (HG.out _ (HK2.out HZ1.out) h2)
     have h2' : (rchk m us vs == 0) = false:=by simp [h2]
     have h2n : (rchk m us vs != 0) = true:=by simp [h2]
     go_wp2_with fail
     go_ret2
     rw [HGE.out]
     exact ⟨_,rfl,fun h => absurd h h2,fun _ => rfl,HW2.out⟩
 · have HGE:=hid (HG.out _ (HK1.out h1) h1)
   have h1' : (rchk n xs ys == 0) = false:=by simp [h1]
   have h1n : (rchk n xs ys != 0) = true:=by simp [h1]
   clear H2
   go_wp2_with fail
   go_ret2
   rw [HGE.out]
   exact ⟨_,rfl,fun h => absurd h h1,fun _ => rfl,HW1.out⟩
theorem step_copy {ops : Array Oper} {o : Oper} {act : Act} {w : World} {K : Act -> World -> Prop} {Q : Exit -> Act -> World -> Prop} {E : Prop}
 (hg : o.guard = none) (s x : Operand) (hop : o.op = Op.call { callee:=Callee.builtin Builtin.append,args:=#[s,x],argTypes:=#[22,22] })
 (v : Value) (xs : List Int) (hs : act.eval s = .slice none 0 0) (hx : act.eval x = v) (hv : Sl w v xs) (hn : xs.length <= 1099511627776)
 (hK : ∀ a' c' w',w'.ownsRow w.heap.size 69 1 (.slice a' xs.length c') xs.length (xs.map (Value.int .u32)) -> Below w.heap.size w w' -> K (act.put o.dst (.slice a' xs.length c')) w') :
 if Region.wanted o (yielded ops act.tmps) = true then Oper.wp Tryz.prog o act w K Q else E:=by
 have hw : Region.wanted o (yielded ops act.tmps) = true:=by simp [Region.wanted,hg]
 rw [if_pos hw]
 obtain ⟨i0,hi,hz0,hz1,hz2⟩:=info_parts Tryz.infoW
 have hown : w.ownsRow w.heap.size 69 1 (.slice none 0 0) 0 []:=World.ownsRow_nil _ _ _ _
 obtain ⟨ad,cap,rfl,hr⟩:=hv
 cases ad with
 | none =>
  have h0 : cap = 0:=hr.2.2.2.2.2 rfl
  subst h0
  have h1 : xs.length = 0:=by have:=hr.2.2.2.1; omega
  have h2 : xs = []:=List.eq_nil_of_length_eq_zero h1
  subst h2
  have hrun:=run_append_owned_none (P:=Tryz.prog) (w:=w) w.heap.size 22 o.type 69 i0 1 Tryz.underlying22 hi (.slice none 0 0) 0 [] hown
  unfold Oper.wp
  simp [execOp,hop,resolve,invoke,builtin,hs,hx,hrun,Result.andThen]
  exact hK none 0 w hown (Below.refl _ _)
 | some ad =>
  obtain ⟨v',w',hrun,r1,r2,_⟩:=run_append_own (P:=Tryz.prog) w w.heap.size 22 o.type 69 i0 (.int .u32 0) 1 4 Tryz.underlying22 hi hz0 hz1 hz2 rfl (by decide) (.slice none 0 0) 0 [] hown ad xs.length cap (xs.map (Value.int .u32)) (by simp) (copy_news hr) (ints_oneCell _ _) (by unfold maxLen; omega) (by omega) (Nat.le_refl _)
  have r3 : w'.ownsRow w.heap.size 69 1 v' xs.length (xs.map (Value.int .u32)):=by simpa using r1
  obtain ⟨a',c',rfl⟩:=own_slice' r3
  unfold Oper.wp
  simp [execOp,hop,resolve,invoke,builtin,hs,hx,hrun,Result.andThen]
  exact hK a' c' w' r3 ((Below.refl w.heap.size w).grown r2 (Nat.le_refl _) (fun k hk => by simp [Value.ownBlock] at hk))
set_option maxRecDepth 100000 in
theorem gcopied_any (p : Nat) (E : Int) (n : Bool) (a : Option Addr) (ca : Nat) (xs : List Int) (b : Option Addr) (cb : Nat) (ys : List Int) (w : World) (hp : Box w p 175 #[.int .i64 E]) (sx : Sl w (.slice a xs.length ca) xs) (sy : Sl w (.slice b ys.length cb) ys) (hE0 : E = 0 -> rchk n xs ys = 0) :
 Calls Tryz.prog 104 #[.pointer (some ⟨p,0,none⟩),.agg #[.bool n,.slice a xs.length ca,.slice b ys.length cb]] w (GTell w p E (rq n xs ys)):=by
 have HX:=hid (boxes2r w 24 #[.bool n,.slice a xs.length ca,.slice b ys.length cb] #[.bool false,.slice none 0 0,.slice none 0 0])
 obtain ⟨X,hX⟩ : ∃ X,(w.alloc (.cells #[.bool n,.slice a xs.length ca,.slice b ys.length cb] 24)).alloc (.cells #[.bool false,.slice none 0 0,.slice none 0 0] 24) = X:=⟨_,rfl⟩
 rw [hX] at HX
 have HP:=hid (hp.later HX.out.2.2 hp.lt)
 have kp : X.cell? ⟨p,0,none⟩ = some (.int .i64 E):=HP.out.cell 0
 have fp:=HP.out.free 0
 have hpw : p < w.heap.size:=hp.lt
 by_cases hE : E = 0
 · subst hE
   have hk:=hE0 rfl
   have HKC:=hid hk
   have hlen:=rchk_ok hk
   have hlx : xs.length <= 1099511627776:=by omega
   have hly : ys.length <= 1099511627776:=by omega
   have HWX:=hid (And.intro sx.wd sy.wd)
   have HSX : Hid (∀ V,Below X.heap.size X V -> Sl V (.slice a xs.length ca) xs):=fun V hv => sx.later (bt HX.out.2.2 hv)
   have HSY : Hid (∀ V,Below X.heap.size X V -> Sl V (.slice b ys.length cb) ys):=fun V hv => sy.later (bt HX.out.2.2 hv)
   have HK : Hid (∀ V,Below X.heap.size X V -> V.cell? ⟨w.heap.size,0,none⟩ = some (.bool n) /\ V.cell? ⟨w.heap.size,1,none⟩ = some (.slice a xs.length ca) /\ V.cell? ⟨w.heap.size,2,none⟩ = some (.slice b ys.length cb)):=fun V hv => by
    have h:=HX.out.1.later hv HX.out.1.lt
    exact ⟨h.cell 0,h.cell 1,h.cell 2⟩
   have HKP : Hid (∀ V,Below X.heap.size X V -> ∀ (v0 v1 v2 : Value),((((V.setCell ⟨w.heap.size + 1,0,none⟩ v0).setCell ⟨w.heap.size + 1,1,none⟩ v1).setCell ⟨w.heap.size + 1,2,none⟩ v2).cell? ⟨w.heap.size,0,none⟩ = some (.bool n) /\ (((V.setCell ⟨w.heap.size + 1,0,none⟩ v0).setCell ⟨w.heap.size + 1,1,none⟩ v1).setCell ⟨w.heap.size + 1,2,none⟩ v2).cell? ⟨w.heap.size,1,none⟩ = some (.slice a xs.length ca) /\ (((V.setCell ⟨w.heap.size + 1,0,none⟩ v0).setCell ⟨w.heap.size + 1,1,none⟩ v1).setCell ⟨w.heap.size + 1,2,none⟩ v2).cell? ⟨w.heap.size,2,none⟩ = some (.slice b ys.length cb))):=fun V hv v0 v1 v2 => by
    have h:=box_far3 (HX.out.1.later hv HX.out.1.lt) (show w.heap.size ≠ w.heap.size + 1 by omega) v0 v1 v2
    exact ⟨h.cell 0,h.cell 1,h.cell 2⟩
   have HM : Hid (∀ V,Below X.heap.size X V -> V.cell? ⟨w.heap.size + 1,0,none⟩ = some (.bool false) /\ V.cell? ⟨w.heap.size + 1,1,none⟩ = some (.slice none 0 0) /\ V.cell? ⟨w.heap.size + 1,2,none⟩ = some (.slice none 0 0) /\ V.frozen? ⟨w.heap.size + 1,0,none⟩ = false /\ V.frozen? ⟨w.heap.size + 1,1,none⟩ = false /\ V.frozen? ⟨w.heap.size + 1,2,none⟩ = false):=fun V hv => by
    have h:=HX.out.2.1.later hv HX.out.2.1.lt
    exact ⟨h.cell 0,h.cell 1,h.cell 2,h.free 0,h.free 1,h.free 2⟩
   have hd0:=hid (Below.refl X.heap.size X).drew
   have hs0:=HK.out _ hd0.out
   clear sx sy hk hlen hE0
   go_enter Tryz.func104,Tryz.ntmps104
   go_wp2_with fail
   go_region_held3 (fun V : World => V.cell? ⟨w.heap.size,0,none⟩ = some (.bool n) /\ V.cell? ⟨w.heap.size,1,none⟩ = some (.slice a xs.length ca) /\ V.cell? ⟨w.heap.size,2,none⟩ = some (.slice b ys.length cb)) (first | exact hsB | exact hsA | exact hs0 | exact HKP.out _ hbB _ _ _ | exact HKP.out _ hbA _ _ _)
    (first
     | (refine step_copy rfl (.const (.slice none 0 0)) (.tmp 13) rfl (.slice a xs.length ca) xs rfl rfl (HSX.out _ hbB) hlx ?_; intro a1 c1 w1 o1 b1; have hbA:=bt hbB b1; have hsA:=HK.out _ hbA; obtain ⟨m0,m1,m2,f0,f1,f2⟩:=HM.out _ hbA; have HA:=hid (And.intro o1 b1))
     | (refine step_copy rfl (.const (.slice none 0 0)) (.tmp 13) rfl (.slice a xs.length ca) xs rfl rfl (HSX.out _ hd0.out) hlx ?_; intro a1 c1 w1 o1 b1; have hbA:=bt hd0.out b1; have hsA:=HK.out _ hbA; obtain ⟨m0,m1,m2,f0,f1,f2⟩:=HM.out _ hbA; have HA:=hid (And.intro o1 b1))
     | (refine step_copy rfl (.const (.slice none 0 0)) (.tmp 16) rfl (.slice b ys.length cb) ys rfl rfl (HSY.out _ hbA) hly ?_; intro a2 c2 w2 o2 b2; have hbB:=bt hbA b2; have hsB:=HK.out _ hbB; obtain ⟨m0,m1,m2,f0,f1,f2⟩:=HM.out _ hbB; have HB:=hid (And.intro o2 b2))
     | (refine step_copy rfl (.const (.slice none 0 0)) (.tmp 16) rfl (.slice b ys.length cb) ys rfl rfl (HSY.out _ hd0.out) hly ?_; intro a2 c2 w2 o2 b2; have hbB:=bt hd0.out b2; have hsB:=HK.out _ hbB; obtain ⟨m0,m1,m2,f0,f1,f2⟩:=HM.out _ hbB; have HB:=hid (And.intro o2 b2)))
   have HBX:=hid (HX.out.2.1.later hbB HX.out.2.1.lt)
   have HPX:=hid (HP.out.later hbB HP.out.lt)
   have HBW:=hid (bt HX.out.2.2 hbB)
   have HO1:=hid (owns_later o1 b2)
   have HO2:=hid o2
   have HL1 : Hid (Lies (.slice a1 xs.length c1) w.heap.size w1.heap.size):=fun g hg => ⟨Nat.le_trans HX.out.2.2.size (o1.lt g hg).1,(o1.lt g hg).2⟩
   have HL2 : Hid (Lies (.slice a2 ys.length c2) w1.heap.size w2.heap.size):=fun g hg => ⟨(o2.lt g hg).1,(o2.lt g hg).2⟩
   have hXs : w.heap.size + 1 < X.heap.size:=HX.out.2.1.lt
   have h1s : X.heap.size <= w1.heap.size:=hbA.size
   have h2s : w1.heap.size <= w2.heap.size:=b2.size
   have hwX : w.heap.size <= X.heap.size:=HX.out.2.2.size
   clear HA HB hs0 hsA hsB hd0 o1 o2 b1 b2 hbA hbB HK HKP HM HSX HSY
   go_wp2_with fail
   have hne : p ≠ w.heap.size + 1:=by omega
   have B1:=box_put3 (box_put3 HBX.out (.bool n) (.slice a1 xs.length c1) (.slice a2 ys.length c2)) (.bool n) (.slice a1 xs.length c1) (.slice a2 ys.length c2)
   have P1:=box_far3 (box_far3 HPX.out hne (.bool n) (.slice a1 xs.length c1) (.slice a2 ys.length c2)) hne (.bool n) (.slice a1 xs.length c1) (.slice a2 ys.length c2)
   have e1 : ∀ g,(Value.slice a1 xs.length c1).ownBlock = some g -> g ≠ w.heap.size + 1:=fun g hg => by have:=(HO1.out.lt g hg).1; have e : X.drew.heap.size = X.heap.size:=rfl; omega
   have e2 : ∀ g,(Value.slice a2 ys.length c2).ownBlock = some g -> g ≠ w.heap.size + 1:=fun g hg => by have:=(HO2.out.lt g hg).1; omega
   have V1:=own_put3' (own_put3' HO1.out _ e1 (.bool n) (.slice a1 xs.length c1) (.slice a2 ys.length c2)) _ e1 (.bool n) (.slice a1 xs.length c1) (.slice a2 ys.length c2)
   have U1:=own_put3' (own_put3' HO2.out _ e2 (.bool n) (.slice a1 xs.length c1) (.slice a2 ys.length c2)) _ e2 (.bool n) (.slice a1 xs.length c1) (.slice a2 ys.length c2)
   have G1:=grow_put3 (grow_put3 (grow_below HBW.out (some p)) (w.heap.size + 1) (.bool n) (.slice a1 xs.length c1) (.slice a2 ys.length c2) (.inl (by omega))) (w.heap.size + 1) (.bool n) (.slice a1 xs.length c1) (.slice a2 ys.length c2) (.inl (by omega))
   refine bodyPost_ret (results_cell_row (by rfl) _ _ (w.heap.size + 1) 24 _ (0,0) _ (by rfl) B1 Tryz.underlying24 rfl (by kernel_rfl)) rfl ?_
   refine ⟨n,_,xs,_,ys,0,rfl,owns_base V1 hwX,owns_base U1 (by omega),RTells.self HWX.out.1 HWX.out.2 HKC.out,P1,G1,?_⟩
   exact ⟨w1.heap.size,by omega,by simp [World.setCell]; omega,HL1.out,fun g hg => ⟨(HL2.out g hg).1,by have:=(HL2.out g hg).2; simp [World.setCell]; omega⟩⟩
 · have hE' : (E == 0) = false:=by simp [hE]
   have m0 : X.cell? ⟨w.heap.size + 1,0,none⟩ = some (.bool false):=HX.out.2.1.cell 0
   have m1 : X.cell? ⟨w.heap.size + 1,1,none⟩ = some (.slice none 0 0):=HX.out.2.1.cell 1
   have m2 : X.cell? ⟨w.heap.size + 1,2,none⟩ = some (.slice none 0 0):=HX.out.2.1.cell 2
   have n0:=HX.out.2.1.free 0
   have n1:=HX.out.2.1.free 1
   have n2:=HX.out.2.1.free 2
   clear hE0 sx sy
   go_enter Tryz.func104,Tryz.ntmps104
   go_wp2_with fail
   have B1:=box_put3 HX.out.2.1 (.bool false) (.slice none 0 0) (.slice none 0 0)
   have P1:=box_far3 HP.out (show p ≠ w.heap.size + 1 by omega) (.bool false) (.slice none 0 0) (.slice none 0 0)
   have G1:=grow_put3 (grow_below HX.out.2.2 (some p)) (w.heap.size + 1) (.bool false) (.slice none 0 0) (.slice none 0 0) (.inl (by omega))
   refine bodyPost_ret (results_cell_row (by rfl) _ _ (w.heap.size + 1) 24 _ (0,0) _ (by rfl) B1 Tryz.underlying24 rfl (by kernel_rfl)) rfl ?_
   refine ⟨false,_,[],_,[],E,rfl,World.ownsRow_nil _ _ _ _,World.ownsRow_nil _ _ _ _,RTells.err hE,P1,G1,?_⟩
   exact ⟨w.heap.size,Nat.le_refl _,G1.size,fun g hg => by simp [Value.ownBlock] at hg,fun g hg => by simp [Value.ownBlock] at hg⟩
end Go.Proofs.YtnhmaijmmkplkaaGreatDoor
namespace Go.Proofs.YtnhmaijmmkplkaaGreatDoor
set_option maxHeartbeats 6400000
open Go.RowKit Go.Lib
set_option linter.unusedVariables false
theorem t21 : ([45,50] : List UInt8) = rtext true [2] [1]:=by
 rw [rtext_eq,show val [2] = 2 by simp [val,valTo],show (2 : Int).toNat = 2 from rfl,decDigits_one (by decide)]
 decide
theorem rq_inj {n m : Bool} {xs ys us vs : List Int} (wx : Wd xs) (wy : Wd ys) (wu : Wd us) (wv : Wd vs) (h : rchk n xs ys = 0) (g : rchk m us vs = 0) (e : rq n xs ys = rq m us vs) : n = m /\ xs = us /\ ys = vs:=by
 have a:=RTells.self wx wy h
 rw [e] at a
 obtain ⟨b1,b2,b3,_⟩:=a.same (RTells.self wu wv g)
 exact ⟨b1,b2,b3⟩
end Go.Proofs.YtnhmaijmmkplkaaGreatDoor
namespace Go.Proofs.YtnhmaijmmkplkaaGreatDoor
set_option maxHeartbeats 6400000
open Go.RowKit
set_option linter.unusedVariables false
def Hgt (q : Rat) (B : Nat) : Prop:=q.num.natAbs <= B /\ q.den <= B
theorem hgt_divInt {n : Int} {d : Nat} {B : Nat} (hd : d ≠ 0) (h1 : n.natAbs <= B) (h2 : d <= B) : Hgt (Rat.divInt n d) B:=by
 have e : Rat.divInt n d = mkRat n d:=Rat.divInt_ofNat n d
 rw [e]
 have e2:=Rat.normalize_eq_mkRat (num:=n) (den:=d) hd
 rw [<- e2,Rat.normalize_eq]
 exact ⟨by
  show (n / _).natAbs <= B
  exact Nat.le_trans (by rw [Int.natAbs_ediv_of_dvd (Int.ofNat_dvd_left.2 (Nat.gcd_dvd_left _ _)),Int.natAbs_natCast]; exact Nat.div_le_self _ _) h1,Nat.le_trans (Nat.div_le_self _ _) h2⟩
theorem Hgt.neg {q : Rat} {B : Nat} (h : Hgt q B) : Hgt (-q) B:=⟨by show (-q).num.natAbs <= B; rw [Rat.neg_num,Int.natAbs_neg]; exact h.1,by show (-q).den <= B; rw [Rat.neg_den]; exact h.2⟩
theorem Hgt.mul {p q : Rat} {B C : Nat} (h : Hgt p B) (g : Hgt q C) : Hgt (p * q) (B * C):=by
 have e : p * q = Rat.divInt (p.num * q.num) ((p.den * q.den : Nat) : Int):=by
  have e1:=Rat.divInt_mul_divInt p.num q.num (d₁:=p.den) (d₂:=q.den)
  rw [Rat.num_divInt_den,Rat.num_divInt_den] at e1
  rw [e1]; norm_cast
 rw [e]
 exact hgt_divInt (Nat.mul_ne_zero p.den_nz q.den_nz) (by rw [Int.natAbs_mul]; exact Nat.mul_le_mul h.1 g.1) (Nat.mul_le_mul h.2 g.2)
theorem Hgt.add {p q : Rat} {B C : Nat} (h : Hgt p B) (g : Hgt q C) : Hgt (p + q) (2 * (B * C)):=by
 have e : p + q = Rat.divInt (p.num * q.den + q.num * p.den) ((p.den * q.den : Nat) : Int):=by
  have e1:=Rat.divInt_add_divInt p.num q.num (d₁:=p.den) (d₂:=q.den) (by have:=p.den_nz; omega) (by have:=q.den_nz; omega)
  rw [Rat.num_divInt_den,Rat.num_divInt_den] at e1
  rw [e1]; norm_cast
 rw [e]
 have h1 : (p.num * q.den).natAbs <= B * C:=by rw [Int.natAbs_mul,Int.natAbs_natCast]; exact Nat.mul_le_mul h.1 g.2
 have h2 : (q.num * p.den).natAbs <= B * C:=by rw [Int.natAbs_mul,Int.natAbs_natCast,Nat.mul_comm B C]; exact Nat.mul_le_mul g.1 h.2
 have h3 : p.den * q.den <= B * C:=Nat.mul_le_mul h.2 g.2
 exact hgt_divInt (Nat.mul_ne_zero p.den_nz q.den_nz) (Nat.le_trans (Int.natAbs_add_le _ _) (by omega)) (by omega)
theorem Hgt.sub {p q : Rat} {B C : Nat} (h : Hgt p B) (g : Hgt q C) : Hgt (p - q) (2 * (B * C)):=by
 rw [Rat.sub_eq_add_neg]
 exact h.add g.neg
theorem pw_nat (m : Nat) : (4294967296 : Int) ^ m = ((2 ^ (32 * m) : Nat) : Int):=by rw [Nat.pow_mul,Int.natCast_pow]; rfl
theorem hgt_val {xs : List Int} (wx : Wd xs) {k : Nat} (lx : xs.length <= k) : (val xs).natAbs <= 2 ^ (32 * k):=by
 have h:=val_lt wx
 have h0:=val_nonneg wx
 have e1 : (4294967296 : Int) ^ xs.length = ((4294967296 ^ xs.length : Nat) : Int):=by rw [Int.natCast_pow]; rfl
 have e2 : (2 : Nat) ^ (32 * k) = 4294967296 ^ k:=by rw [Nat.pow_mul]
 have e3 : (4294967296 : Nat) ^ xs.length <= 4294967296 ^ k:=Nat.pow_le_pow_right (by omega) lx
 rw [e1] at h
 rw [e2]
 omega
theorem hgt_words {n : Bool} {xs ys : List Int} (wx : Wd xs) (wy : Wd ys) (h : rchk n xs ys = 0) {k : Nat} (lx : xs.length <= k) (ly : ys.length <= k) : Hgt (rq n xs ys) (2 ^ (32 * k)):=by
 obtain ⟨_,_,_,ty,y0,_,_⟩:=rchk_ok h
 have hy:=val_pos' wy ty y0
 have b1:=hgt_val wx lx
 have b2:=hgt_val wy ly
 have e : val ys = (((val ys).natAbs : Nat) : Int):=by omega
 unfold rq
 rw [e]
 refine hgt_divInt (by omega) ?_ b2
 have e2 : (wval n xs).natAbs = (val xs).natAbs:=by cases n <;> simp [wval]
 rw [e2]
 exact b1
theorem Hgt.short {q : Rat} {k : Nat} (h : Hgt q (2 ^ k)) (hk : k < 65536) : ¬ rlong q:=by
 have e0 : ∀ m,m = 2048 -> wlim = ((2 ^ (32 * m) : Nat) : Int):=fun m hm => by rw [<- pw_nat,hm]; rfl
 obtain ⟨m,hm⟩ : ∃ m : Nat,m = 2048:=⟨_,rfl⟩
 have e1:=e0 m hm
 have e3 : 2 ^ k < 2 ^ (32 * m):=Nat.pow_lt_pow_right (by omega) (by omega)
 generalize 2 ^ (32 * m) = M at e1 e3
 generalize 2 ^ k = K at e3 h
 obtain ⟨h1,h2⟩:=h
 unfold rlong
 rw [e1]
 rintro (h | h) <;> omega
end Go.Proofs.YtnhmaijmmkplkaaGreatDoor
