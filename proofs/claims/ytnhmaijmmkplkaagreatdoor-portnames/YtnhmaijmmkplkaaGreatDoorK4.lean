/- My texts on the way to PortNames, one behind the other: contracts of the program and of the document's answers. -/
import Derived.Test.YtnhmaijmmkplkaaGreatDoorK1
import Derived.Test.YtnhmaijmmkplkaaGreatDoorK2
import Derived.Test.YtnhmaijmmkplkaaGreatDoorK3
import Derived.Test.YtnhmaijmmkplkaaGreatDoorChecked
import Derived.Handy
import Derived.RegionTactic
import Derived.ChangeAlike
import Derived.Deep.RegionHeld3
import Derived.Deep.QuietTactic
import Derived.BigQuiet
import Derived.DeepKeys5
import Derived.Maps.OwnSet
import Derived.LoopN
import Derived.Deep.Slices
import Derived.OpenShut
import Derived.ChangeArms
import Derived.Laws.AppendOwnNone
namespace Go.Proofs.YtnhmaijmmkplkaaGreatDoor
set_option maxHeartbeats 12800000
open Go.RowKit
set_option linter.unusedVariables false
theorem boxes1 (w : World) (t : Nat) (u : Array Value) : FBox (w.alloc (.cells u t)) w.heap.size t u /\ Below w.heap.size w (w.alloc (.cells u t)) :=
 ⟨FBox.made _ _ _,(Below.refl _ _).alloc (Nat.le_refl _) _⟩
theorem boxes2 (w : World) (t : Nat) (u v : Array Value) : FBox ((w.alloc (.cells u t)).alloc (.cells v t)) w.heap.size t u /\ FBox ((w.alloc (.cells u t)).alloc (.cells v t)) (w.heap.size + 1) t v /\ Below w.heap.size w ((w.alloc (.cells u t)).alloc (.cells v t)):=by
 have a:=boxes1 w t u
 have b:=boxes1 (w.alloc (.cells u t)) t v
 have es : (w.alloc (.cells u t)).heap.size = w.heap.size + 1:=World.size_alloc _ _
 exact ⟨a.1.later b.2 a.1.lt,es ▸ b.1,b2 a.2 b.2⟩
theorem bdrewN {B : Nat} {a w : World} (h : Below B a w) (n : Nat) : Below B a (w.drewN n):=by
 induction n with
 | zero => exact h
 | succ n ih => exact ih.drew
set_option linter.unusedSimpArgs false
def tlet (c : Int) : Bool:=decide (65 <= c) && decide (c <= 90) || decide (97 <= c) && decide (c <= 122)
def tdig (c : Int) : Bool:=decide (48 <= c) && decide (c <= 57)
set_option maxRecDepth 100000 in
theorem tletter_any (c : Int) (w : World) : Calls Tryz.prog 152 #[.int .u8 c] w fun e w' => e = .returned (.bool (tlet c)) /\ w = w':=by
 by_cases a : 65 <= c <;> by_cases b : c <= 90 <;> by_cases d : 97 <= c <;> by_cases f : c <= 122
 all_goals
  have HR : Hid (tlet c = (decide (65 <= c) && decide (c <= 90) || decide (97 <= c) && decide (c <= 122))):=rfl
  go_enter Tryz.func152,Tryz.ntmps152
  go_wp2_with fail
  go_ret
  exact ⟨by rw [HR.out]; simp [a,b,d,f],rfl⟩
set_option maxRecDepth 100000 in
theorem tdigit_any (c : Int) (w : World) : Calls Tryz.prog 153 #[.int .u8 c] w fun e w' => e = .returned (.bool (tdig c)) /\ w = w':=by
 by_cases a : 48 <= c <;> by_cases b : c <= 57
 all_goals
  have HR : Hid (tdig c = (decide (48 <= c) && decide (c <= 57))):=rfl
  go_enter Tryz.func153,Tryz.ntmps153
  go_wp2_with fail
  go_ret
  exact ⟨by rw [HR.out]; simp [a,b],rfl⟩
def tname (l : List UInt8) : Bool:=decide (1 <= l.length) && decide (l.length <= 20) && tlet ((l[0]?.getD 0).toNat : Int) && l.all (fun c => tlet (c.toNat : Int) || tdig (c.toNat : Int))
theorem tbyte_at (s : ByteArray) (k : Nat) (h : k < s.size) : s.data.toList[k]? = some s[k]:=by
 rw [List.getElem?_eq_getElem (by show k < s.data.toList.length; rw [Array.length_toList]; exact h)]
 rfl
theorem tsize_list (s : ByteArray) : s.data.toList.length = s.size:=Array.length_toList
theorem tname_size {l : List UInt8} (h : l.length < 1 \/ 20 < l.length) : tname l = false:=by
 unfold tname
 rcases h with h | h
 · rw [decide_eq_false (by omega)]; rfl
 · rw [decide_eq_false (p:=l.length <= 20) (by omega)]; simp
theorem tname_first {l : List UInt8} (h : tlet ((l[0]?.getD 0).toNat : Int) = false) : tname l = false:=by
 unfold tname
 rw [h]; simp
theorem tname_all {l : List UInt8} (h1 : 1 <= l.length) (h2 : l.length <= 20) (h3 : tlet ((l[0]?.getD 0).toNat : Int) = true) (h : ∀ j,j < l.length -> (tlet ((l[j]?.getD 0).toNat : Int) || tdig ((l[j]?.getD 0).toNat : Int)) = true) : tname l = true:=by
 unfold tname
 rw [decide_eq_true h1,decide_eq_true h2,h3]
 simp only [Bool.and_true,Bool.true_and,Bool.and_self]
 rw [List.all_eq_true]
 intro c hc
 obtain ⟨j,hj,e⟩:=List.getElem_of_mem hc
 have:=h j hj
 rw [List.getElem?_eq_getElem hj,e] at this
 exact this
theorem tname_bad {l : List UInt8} {k : Nat} {c : UInt8} (hk : l[k]? = some c) (h1 : tlet (c.toNat : Int) = false) (h2 : tdig (c.toNat : Int) = false) : tname l = false:=by
 unfold tname
 have : l.all (fun c => tlet (c.toNat : Int) || tdig (c.toNat : Int)) = false:=by
  rw [List.all_eq_false]
  exact ⟨c,List.mem_of_getElem? hk,by simp [h1,h2]⟩
 rw [this]; simp
set_option maxRecDepth 100000 in
theorem tName_any (s : ByteArray) (w : World) (hm : s.size <= 9223372036854775807) : Calls Tryz.prog 96 #[.string s] w fun e w' => e = .returned (.bool (tname s.data.toList)) /\ w = w':=by
 have hl:=tsize_list s
 by_cases h1 : (s.size : Int) < 1
 · have HF:=hid (tname_size (l:=s.data.toList) (.inl (by omega)))
   clear hl
   go_enter Tryz.func96,Tryz.ntmps96
   go_wp2_with fail
   go_ret
   exact ⟨ret_bool HF.out.symm,rfl⟩
 by_cases h2 : 20 < (s.size : Int)
 · have HF:=hid (tname_size (l:=s.data.toList) (.inr (by omega)))
   clear hl
   go_enter Tryz.func96,Tryz.ntmps96
   go_wp2_with fail
   go_ret
   exact ⟨ret_bool HF.out.symm,rfl⟩
 have hp : 0 < s.size:=by omega
 have b0:=tbyte_at s 0 hp
 have HL:=hid (fun c V => tletter_any c V)
 have HD:=hid (fun c V => tdigit_any c V)
 have hS:=hid (And.intro hl b0)
 have hz : (s.size : Int) <= 20:=by omega
 by_cases h3 : tlet (s[0].toNat : Int) = false
 · have HF:=hid (tname_first (l:=s.data.toList) (by rw [b0]; exact h3))
   clear hl b0
   go_enter Tryz.func96,Tryz.ntmps96
   go_wp2_with fail
   refine Calls.mono (HL.out _ _) ?_
   rintro e w' ⟨rfl,rfl⟩
   rw [h3]
   go_wp2_with fail
   go_ret
   exact ⟨ret_bool HF.out.symm,rfl⟩
 · have h3' : tlet (s[0].toNat : Int) = true:=by simpa using h3
   have HALL : Hid ((∀ j,j < s.size -> (tlet ((s.data.toList[j]?.getD 0).toNat : Int) || tdig ((s.data.toList[j]?.getD 0).toNat : Int)) = true) -> tname s.data.toList = true):=fun h => tname_all (by omega) (by omega) (by rw [b0]; exact h3') (by rw [hl]; exact h)
   clear hl b0 h3
   go_enter Tryz.func96,Tryz.ntmps96
   go_wp2_with fail
   refine Calls.mono (HL.out _ _) ?_
   rintro e w' ⟨rfl,rfl⟩
   rw [h3']
   go_wp2_with fail
   go_loop [20] (fun t => ∃ k : Nat,k <= s.size /\ t = .int .i64 k /\ Hid (∀ j : Nat,j < k -> (tlet ((s.data.toList[j]?.getD 0).toNat : Int) || tdig ((s.data.toList[j]?.getD 0).toNat : Int)) = true)) (fun t => s.size - (intOf t).toNat)
   case atStart => exact ⟨0,by omega,rfl,fun j hj => by omega⟩
   case round =>
    obtain ⟨k,hk,rfl,HJ⟩:=hrel
    by_cases hlt : k < s.size
    · have bk:=tbyte_at s k hlt
      by_cases d1 : tlet (s[k].toNat : Int) = true
      · have HJ' : Hid (∀ j : Nat,j < k + 1 -> (tlet ((s.data.toList[j]?.getD 0).toNat : Int) || tdig ((s.data.toList[j]?.getD 0).toNat : Int)) = true):=fun j hj => by
         by_cases e : j = k
         · rw [e,bk]; show (tlet (s[k].toNat : Int) || _) = true; rw [d1]; rfl
         · exact HJ.out j (by omega)
        clear bk
        go_wp2_with fail
        refine Calls.mono (HL.out _ _) ?_
        rintro e w1 ⟨rfl,rfl⟩
        rw [d1]
        go_wp2_with fail
        go_round
        case rel => exact ⟨k + 1,by omega,by go_num,HJ'⟩
        case measure => simp [intOf]; omega
      · have d1' : tlet (s[k].toNat : Int) = false:=by simpa using d1
        by_cases d2 : tdig (s[k].toNat : Int) = true
        · have HJ' : Hid (∀ j : Nat,j < k + 1 -> (tlet ((s.data.toList[j]?.getD 0).toNat : Int) || tdig ((s.data.toList[j]?.getD 0).toNat : Int)) = true):=fun j hj => by
           by_cases e : j = k
           · rw [e,bk]; show (_ || tdig (s[k].toNat : Int)) = true; rw [d2]; simp
           · exact HJ.out j (by omega)
          clear bk d1
          go_wp2_with fail
          refine Calls.mono (HL.out _ _) ?_
          rintro e w1 ⟨rfl,rfl⟩
          rw [d1']
          go_wp2_with fail
          refine Calls.mono (HD.out _ _) ?_
          rintro e w1 ⟨rfl,rfl⟩
          rw [d2]
          go_wp2_with fail
          go_round
          case rel => exact ⟨k + 1,by omega,by go_num,HJ'⟩
          case measure => simp [intOf]; omega
        · have d2' : tdig (s[k].toNat : Int) = false:=by simpa using d2
          have HF:=hid (tname_bad bk d1' d2')
          clear bk d1 d2
          go_wp2_with fail
          refine Calls.mono (HL.out _ _) ?_
          rintro e w1 ⟨rfl,rfl⟩
          rw [d1']
          go_wp2_with fail
          refine Calls.mono (HD.out _ _) ?_
          rintro e w1 ⟨rfl,rfl⟩
          rw [d2']
          go_wp2_with fail
          go_ret
          exact ⟨ret_bool HF.out.symm,rfl⟩
    · have HF:=hid (HALL.out (fun j hj => HJ.out j (by omega)))
      go_wp2_with fail
      go_ret
      exact ⟨ret_bool HF.out.symm,rfl⟩
def rOK (f n : Int) : Prop:=1 <= f /\ f <= 1000 /\ 1 <= n.natAbs /\ n.natAbs <= 1000 /\ f ≠ (n.natAbs : Int) /\ Nat.gcd f.toNat n.natAbs = 1
instance (f n : Int) : Decidable (rOK f n):=by unfold rOK; infer_instance
def ochk (f n : Int) : Int:=if rOK f n then 0 else 150
def in32 (f n : Int) : Prop:=(-2147483648 <= f /\ f <= 2147483647) /\ (-2147483648 <= n /\ n <= 2147483647)
theorem ochk_or (f n : Int) : ochk f n = 0 /\ rOK f n \/ ochk f n = 150 /\ ¬ rOK f n:=by
 unfold ochk
 by_cases h : rOK f n
 · rw [if_pos h]; exact .inl ⟨rfl,h⟩
 · rw [if_neg h]; exact .inr ⟨rfl,h⟩
set_option maxRecDepth 100000 in
theorem osize_any (n : Int) (w : World) (h0 : -9223372036854775808 < n) (h1 : n <= 9223372036854775807) :
 Calls Tryz.prog 154 #[.int .i64 n] w fun e w' => e = .returned (.int .i64 (n.natAbs : Int)) /\ w' = w:=by
 by_cases h : n < 0
 · go_enter Tryz.func154,Tryz.ntmps154
   go_wp2_with fail
   go_ret
   exact ⟨ret_int (by omega),rfl⟩
 · go_enter Tryz.func154,Tryz.ntmps154
   go_wp2_with fail
   go_ret
   exact ⟨ret_int (by omega),rfl⟩
set_option maxRecDepth 100000 in
theorem ocommon_any (a b : Nat) (w : World) (ha : a < 9223372036854775808) (hb : b < 9223372036854775808) :
 Calls Tryz.prog 155 #[.int .i64 (a : Int),.int .i64 (b : Int)] w fun e w' => e = .returned (.int .i64 (Nat.gcd a b : Nat)) /\ Below w.heap.size w w':=by
 go_enter Tryz.func155,Tryz.ntmps155
 go_wp2_with fail
 go_loopw [0,1] (fun x y wr => ∃ c d : Nat,x = .int .i64 (c : Int) /\ y = .int .i64 (d : Int) /\ c < 9223372036854775808 /\ d < 9223372036854775808 /\ Hid (Nat.gcd c d = Nat.gcd a b) /\ Below w.heap.size w wr) (fun _ y _ => (intOf y).toNat)
 case atStart => exact ⟨a,b,rfl,rfl,ha,hb,(rfl : Nat.gcd a b = Nat.gcd a b),Below.refl _ _⟩
 case round =>
  obtain ⟨c,d,rfl,rfl,hc,hd,hg,hX⟩:=hrel
  by_cases h0 : d = 0
  · subst h0
    have HG : Hid (c = Nat.gcd a b):=by have:=hg.out; rw [Nat.gcd_zero_right] at this; exact this
    clear hg
    go_wp2_with fail
    go_ret
    exact ⟨ret_int (by rw [HG.out]),hX⟩
  · have hm : c % d < d:=Nat.mod_lt _ (by omega)
    have HG : Hid (Nat.gcd d (c % d) = Nat.gcd a b):=by show _ = _; rw [<- hg.out,Nat.gcd_comm c d,Nat.gcd_rec d c,Nat.gcd_comm]
    have h0' : (d : Int) ≠ 0:=by omega
    have e2 : Int.tmod (c : Int) (d : Int) = ((c % d : Nat) : Int):=by
     rw [Int.tmod_eq_emod_of_nonneg (by omega)]; rfl
    clear hg
    go_wp2_with fail
    go_region
    all_goals
     go_wp2_with fail
     go_roundw
     case rel => exact ⟨d,c % d,rfl,by go_num,by omega,by omega,HG,hX.drew⟩
     case measure => simp [intOf]; omega
set_option maxRecDepth 100000 in
theorem ocheck_any (f n : Int) (w : World) (h : in32 f n) :
 Calls Tryz.prog 97 #[.agg #[.int .i32 f,.int .i32 n]] w fun e w' => e = .returned (.int .i64 (ochk f n)) /\ Below w.heap.size w w':=by
 obtain ⟨⟨f0,f1⟩,n0,n1⟩:=h
 have hb0 : Below w.heap.size w (w.alloc (.cells #[.int .i32 f,.int .i32 n] 33)):=(Below.refl _ _).alloc (Nat.le_refl _) _
 have HN : Hid (¬ (1 <= f /\ f <= 1000 /\ 1 <= (n.natAbs : Int) /\ (n.natAbs : Int) <= 1000 /\ f ≠ (n.natAbs : Int)) -> ochk f n = 150):=fun h => by unfold ochk; rw [if_neg]; unfold rOK; omega
 have HY : Hid ((1 <= f /\ f <= 1000 /\ 1 <= (n.natAbs : Int) /\ (n.natAbs : Int) <= 1000 /\ f ≠ (n.natAbs : Int)) -> Nat.gcd f.toNat n.natAbs = 1 -> ochk f n = 0):=fun h g => by unfold ochk; rw [if_pos]; unfold rOK; omega
 have HY' : Hid (¬ Nat.gcd f.toNat n.natAbs = 1 -> ochk f n = 150):=fun g => by unfold ochk; rw [if_neg]; unfold rOK; omega
 have HD : Hid (1 <= f -> 1 <= Nat.gcd f.toNat n.natAbs):=fun g => Nat.gcd_pos_of_pos_left _ (by omega)
 have HS:=hid (fun V => osize_any n V (by omega) (by omega))
 have HC : Hid (∀ V : World,1 <= f -> Calls Tryz.prog 155 #[.int .i64 f,.int .i64 (n.natAbs : Int)] V fun e w' => e = .returned (.int .i64 (Nat.gcd f.toNat n.natAbs : Nat)) /\ Below V.heap.size V w'):=fun V h1 => by
  have:=ocommon_any f.toNat n.natAbs V (by omega) (by omega)
  rw [show ((f.toNat : Nat) : Int) = f by omega] at this
  exact this
 obtain ⟨d,hD⟩ : ∃ d,Nat.gcd f.toNat n.natAbs = d:=⟨_,rfl⟩
 rw [hD] at HY HY' HC HD
 clear hD
 have m1 : n.natAbs <= 2147483648:=by omega
 generalize n.natAbs = N at *
 go_enter Tryz.func97,Tryz.ntmps97
 go_wp2_with fail
 go_quiet ((go_at_call 154; exact Calls.quiet_of_same (HS.out _)))
 clear HS
 have HB0 : Hid (Below w.heap.size w ((w.alloc (.cells #[.int .i32 f,.int .i32 n] 33)).drewN nq)):=bdrewN hb0 nq
 generalize (w.alloc (.cells #[.int .i32 f,.int .i32 n] 33)).drewN nq = X at *
 clear hb0
 go_wp2_with fail
 all_goals try (go_ret; exact ⟨ret_int (HN.out (by omega)).symm,HB0.out⟩)
 refine Calls.mono (HC.out _ (by omega)) ?_
 rintro e w1 ⟨rfl,hb1⟩
 by_cases h1 : d = 1
 · subst h1
   go_wp2_with fail
   go_ret
   exact ⟨ret_int (HY.out (by omega) (by trivial)).symm,b2 HB0.out hb1⟩
 · have h1' : (1 : Int) < (d : Int):=by have:=HD.out (by omega); omega
   go_wp2_with fail
   go_ret
   exact ⟨ret_int (HY'.out h1).symm,b2 HB0.out hb1⟩
def tchk (l : List UInt8) (f n : Int) (g : Int) : Int:=if tname l = true then fstE (ochk f n) g else 4
theorem tchk_name {l : List UInt8} (f n g : Int) (h : tname l = false) : tchk l f n g = 4:=by unfold tchk; rw [if_neg (by rw [h]; decide)]
theorem tchk_rest {l : List UInt8} (f n g : Int) (h : tname l = true) : tchk l f n g = fstE (ochk f n) g:=by unfold tchk; rw [if_pos h]
set_option maxRecDepth 100000 in
theorem tCheck_any (s : ByteArray) (f r : Int) (n : Bool) (a : Option Addr) (ca : Nat) (xs : List Int) (b : Option Addr) (cb : Nat) (ys : List Int) (m : Bool) (c : Option Addr) (cc : Nat) (us : List Int) (d : Option Addr) (cd : Nat) (vs : List Int) (w : World) (hz : s.size <= 9223372036854775807) (hr : in32 f r) (sx : Sl w (.slice a xs.length ca) xs) (sy : Sl w (.slice b ys.length cb) ys) (su : Sl w (.slice c us.length cc) us) (sv : Sl w (.slice d vs.length cd) vs) :
 Calls Tryz.prog 41 #[.agg #[.string s,.int .i32 f,.int .i32 r,.bool n,.slice a xs.length ca,.slice b ys.length cb,.bool m,.slice c us.length cc,.slice d vs.length cd]] w fun e w' => e = .returned (.int .i64 (tchk s.data.toList f r (gchk n xs ys m us vs))) /\ Below w.heap.size w w':=by
 have HX:=hid (Box.made w 37 #[.string s,.int .i32 f,.int .i32 r,.bool n,.slice a xs.length ca,.slice b ys.length cb,.bool m,.slice c us.length cc,.slice d vs.length cd])
 have HB:=hid (alloc_later w (.cells #[.string s,.int .i32 f,.int .i32 r,.bool n,.slice a xs.length ca,.slice b ys.length cb,.bool m,.slice c us.length cc,.slice d vs.length cd] 37))
 obtain ⟨X,hX⟩ : ∃ X,w.alloc (.cells #[.string s,.int .i32 f,.int .i32 r,.bool n,.slice a xs.length ca,.slice b ys.length cb,.bool m,.slice c us.length cc,.slice d vs.length cd] 37) = X:=⟨_,rfl⟩
 rw [hX] at HX HB
 have HN:=hid (tName_any s X hz)
 have HR:=hid (ocheck_any f r X hr)
 have HG : Hid (∀ V,Below w.heap.size w V -> Calls Tryz.prog 98 #[.agg #[.bool n,.slice a xs.length ca,.slice b ys.length cb,.bool m,.slice c us.length cc,.slice d vs.length cd]] V fun e w' => e = .returned (.int .i64 (gchk n xs ys m us vs)) /\ Below V.heap.size V w'):=fun V hv => gcheck_any n _ xs _ ys m _ us _ vs V (sx.later hv) (sy.later hv) (su.later hv) (sv.later hv)
 generalize gchk n xs ys m us vs = G at *
 have HK1:=hid (tchk_name (l:=s.data.toList) f r G)
 have HK2:=hid (tchk_rest (l:=s.data.toList) f r G)
 generalize tchk s.data.toList f r G = T at *
 generalize tname s.data.toList = NM at *
 generalize ochk f r = E at *
 clear sx sy su sv hr
 have k0 : X.cell? ⟨w.heap.size,0,none⟩ = some (.string s):=HX.out.cell 0
 have k1 : X.cell? ⟨w.heap.size,1,none⟩ = some (.int .i32 f):=HX.out.cell 1
 have k2 : X.cell? ⟨w.heap.size,2,none⟩ = some (.int .i32 r):=HX.out.cell 2
 have k3 : X.cell? ⟨w.heap.size,3,none⟩ = some (.bool n):=HX.out.cell 3
 have k4 : X.cell? ⟨w.heap.size,4,none⟩ = some (.slice a xs.length ca):=HX.out.cell 4
 have k5 : X.cell? ⟨w.heap.size,5,none⟩ = some (.slice b ys.length cb):=HX.out.cell 5
 have k6 : X.cell? ⟨w.heap.size,6,none⟩ = some (.bool m):=HX.out.cell 6
 have k7 : X.cell? ⟨w.heap.size,7,none⟩ = some (.slice c us.length cc):=HX.out.cell 7
 have k8 : X.cell? ⟨w.heap.size,8,none⟩ = some (.slice d vs.length cd):=HX.out.cell 8
 cases NM with
 | false =>
  have HT:=hid (HK1.out rfl)
  go_enter Tryz.func41,Tryz.ntmps41
  go_wp2_with fail
  refine Calls.mono HN.out ?_
  rintro e w1 ⟨rfl,rfl⟩
  go_wp2_with fail
  go_ret
  exact ⟨ret_int HT.out.symm,HB.out⟩
 | true =>
  have HT:=hid (HK2.out rfl)
  by_cases hE : E = 0
  · subst hE
    have HT2:=hid (HT.out.trans (fstE_zero G))
    clear HT
    go_enter Tryz.func41,Tryz.ntmps41
    go_wp2_with fail
    refine Calls.mono HN.out ?_
    rintro e w1 ⟨rfl,rfl⟩
    go_wp2_with fail
    refine Calls.mono HR.out ?_
    rintro e w1 ⟨rfl,hb1⟩
    have HX1:=hid (HX.out.later hb1 HX.out.lt)
    have HB1:=hid (bt HB.out hb1)
    clear k0 k1 k2 k3 k4 k5 k6 k7 k8 hb1
    have k3 : w1.cell? ⟨w.heap.size,3,none⟩ = some (.bool n):=HX1.out.cell 3
    have k4 : w1.cell? ⟨w.heap.size,4,none⟩ = some (.slice a xs.length ca):=HX1.out.cell 4
    have k5 : w1.cell? ⟨w.heap.size,5,none⟩ = some (.slice b ys.length cb):=HX1.out.cell 5
    have k6 : w1.cell? ⟨w.heap.size,6,none⟩ = some (.bool m):=HX1.out.cell 6
    have k7 : w1.cell? ⟨w.heap.size,7,none⟩ = some (.slice c us.length cc):=HX1.out.cell 7
    have k8 : w1.cell? ⟨w.heap.size,8,none⟩ = some (.slice d vs.length cd):=HX1.out.cell 8
    go_wp2_with fail
    refine Calls.mono (HG.out _ HB1.out) ?_
    rintro e w2 ⟨rfl,hb2⟩
    have HB2:=hid (bt HB1.out hb2)
    clear hb2 k3 k4 k5 k6 k7 k8
    go_wp2_with fail
    go_ret
    exact ⟨ret_int HT2.out.symm,HB2.out⟩
  · have HT2:=hid (HT.out.trans (fstE_err G hE))
    have hE' : (E == 0) = false:=by simp [hE]
    have hE2 : (E != 0) = true:=by simp [hE]
    clear HT
    go_enter Tryz.func41,Tryz.ntmps41
    go_wp2_with fail
    refine Calls.mono HN.out ?_
    rintro e w1 ⟨rfl,rfl⟩
    go_wp2_with fail
    refine Calls.mono HR.out ?_
    rintro e w1 ⟨rfl,hb1⟩
    have HB1:=hid (bt HB.out hb1)
    clear hb1 k0 k1 k2 k3 k4 k5 k6 k7 k8
    go_wp2_with fail
    go_ret
    exact ⟨ret_int HT2.out.symm,HB1.out⟩
def rConj (f n : Int) : Int × Int × Int:=if rOK f n then (f,-n,0) else (0,0,150)
set_option maxRecDepth 100000 in
theorem rconj_any (f n : Int) (w : World) (h : in32 f n) :
 Calls Tryz.prog 48 #[.agg #[.int .i32 f,.int .i32 n]] w fun e w' => e = .returned (.tuple #[.agg #[.int .i32 (rConj f n).1,.int .i32 (rConj f n).2.1],.int .i64 (rConj f n).2.2]) /\ Below w.heap.size w w':=by
 have HX:=hid (boxes2 w 33 #[.int .i32 f,.int .i32 n] #[.int .i32 0,.int .i32 0])
 have HC:=hid (fun V => ocheck_any f n V h)
 rcases ochk_or f n with ⟨e0,h0⟩ | ⟨e0,h0⟩
 · have hR : rConj f n = (f,-n,0):=if_pos h0
   rw [hR]
   rw [e0] at HC
   have hn1 : -1000 <= n:=by have:=h0.2.2.2.1; omega
   have hn2 : n <= 1000:=by have:=h0.2.2.2.1; omega
   obtain ⟨⟨f0,f1⟩,_⟩:=h
   clear h0 hR e0
   go_enter Tryz.func48,Tryz.ntmps48
   go_wp2_with fail
   generalize (w.alloc (.cells #[.int .i32 f,.int .i32 n] 33)).alloc (.cells #[.int .i32 0,.int .i32 0] 33) = X at *
   refine Calls.mono (HC.out X) ?_
   rintro e w1 ⟨rfl,hb1⟩
   obtain ⟨c0,c1,g0,g1⟩:=fbox_facts HX.out.1 hb1
   obtain ⟨c2,c3,g2,g3⟩:=fbox_facts HX.out.2.1 hb1
   have HB:=hid (b2 HX.out.2.2 hb1)
   clear HX HC hb1
   go_wp2_with fail
   refine bodyPost_ret (v:=.tuple #[.agg #[.int .i32 f,.int .i32 (-n)],.int .i64 0]) (by simp [results,Tryz.results48,go_sem,c2,c3]) rfl ?_
   exact ⟨rfl,fput2 HB.out _ (by omega) _ _⟩
 · have hR : rConj f n = (0,0,150):=if_neg h0
   rw [hR]
   rw [e0] at HC
   clear h0 hR e0 h
   go_enter Tryz.func48,Tryz.ntmps48
   go_wp2_with fail
   generalize (w.alloc (.cells #[.int .i32 f,.int .i32 n] 33)).alloc (.cells #[.int .i32 0,.int .i32 0] 33) = X at *
   refine Calls.mono (HC.out X) ?_
   rintro e w1 ⟨rfl,hb1⟩
   obtain ⟨c0,c1,g0,g1⟩:=fbox_facts HX.out.1 hb1
   obtain ⟨c2,c3,g2,g3⟩:=fbox_facts HX.out.2.1 hb1
   have HB:=hid (b2 HX.out.2.2 hb1)
   clear HX HC hb1
   go_wp2_with fail
   refine bodyPost_ret (v:=.tuple #[.agg #[.int .i32 0,.int .i32 0],.int .i64 150]) (by simp [results,Tryz.results48,go_sem,c2,c3]) rfl ?_
   first | exact ⟨rfl,HB.out⟩ | exact ⟨rfl,fput2 HB.out _ (by omega) _ _⟩
def xO (xs : List (Int × Int)) (j : Nat) : Int × Int:=xs[j]?.getD (0,0)
def Met (xs : List (Int × Int)) (i : Nat) : Prop:=∃ k,k < i /\ xO xs k = xO xs i
end Go.Proofs.YtnhmaijmmkplkaaGreatDoor
namespace Go.Proofs.YtnhmaijmmkplkaaGreatDoor
set_option maxHeartbeats 12800000
open Go.RowKit Go.Maps
set_option linter.unusedVariables false
theorem rolaw : Keyed Tryz.prog 33:=Keyed.of_law (deep_law_gate (by kernel_rfl) (of_decide_eq_true (by kernel_rfl)) (of_decide_eq_true (by kernel_rfl)) (by kernel_rfl) (by kernel_rfl))
theorem rozero (w : World) : (zeroValue 73).run Tryz.prog w = .ok (.agg #[]) w:=by kernel_rfl
noncomputable def rokey (p : Int × Int) : Lit:=(keyOf Tryz.prog 33 (.agg #[.int .i32 p.1,.int .i32 p.2])).getD (.bool true)
theorem rokey_of {p : Int × Int} (h : in32 p.1 p.2) : keyOf Tryz.prog 33 (.agg #[.int .i32 p.1,.int .i32 p.2]) = some (rokey p):=by
 have : (keyOf Tryz.prog 33 (.agg #[.int .i32 p.1,.int .i32 p.2])).isSome = true:=by
  have hk : Tryz.prog.keyType 33 = true:=by kernel_rfl
  have c1 : Tryz.prog.cellsOf 33 = 2:=by kernel_rfl
  have c2 : Tryz.prog.cellsOf 21 = 1:=by kernel_rfl
  have m1 : IntKind.i32.min = -2147483648:=by decide
  have m2 : IntKind.i32.max = 2147483647:=by decide
  have w1 : (Lit.int .i32 p.1).wf = true:=by obtain ⟨⟨a,b⟩,_⟩:=h; simp [Lit.wf,m1,m2]; omega
  have w2 : (Lit.int .i32 p.2).wf = true:=by obtain ⟨_,a,b⟩:=h; simp [Lit.wf,m1,m2]; omega
  have hf : Value.formed Tryz.prog 33 (.agg #[.int .i32 p.1,.int .i32 p.2]) = true:=by simp [Value.formed,Tryz.underlying33,c1]
  have hs : ∀ d,(Tryz.prog.keyLits (d + 1 + 1) 33 [.int .i32 p.1,.int .i32 p.2]).isSome = true:=fun d => by
   simp [Program.keyLits,Tryz.underlying33,Tryz.underlying21,c1,c2,w1,w2]
  obtain ⟨d,hd⟩ : ∃ d,Tryz.prog.types.size + 1 = d + 1 + 1:=⟨Tryz.prog.types.size - 1,by kernel_rfl⟩
  unfold keyOf
  rw [hd]
  have q:=hs d
  simp [Tryz.underlying33,hk,hf,Value.cells]
  exact q
 unfold rokey
 cases e : keyOf Tryz.prog 33 (.agg #[.int .i32 p.1,.int .i32 p.2]) with
 | none => rw [e] at this; simp at this
 | some l => rfl
def RoK (K : Int × Int -> Lit) : Prop:=(∀ p : Int × Int,in32 p.1 p.2 -> keyOf Tryz.prog 33 (.agg #[.int .i32 p.1,.int .i32 p.2]) = some (K p)) /\ (∀ p : Int × Int,in32 p.1 p.2 -> WideAt.IsKeyLit (K p)) /\ ∀ p q : Int × Int,in32 p.1 p.2 -> in32 q.1 q.2 -> K p = K q -> p = q
set_option maxRecDepth 100000 in
theorem ro_keys : ∃ K,RoK K:=by
 refine ⟨rokey,fun p h => rokey_of h,fun p h => Keyed.key rolaw (rokey_of h),fun p q hp hq h => ?_⟩
 have a:=rokey_of hp
 have b:=rokey_of hq
 rw [h] at a
 have e:=Keyed.inj rolaw a b
 simp only [Value.agg.injEq,Array.mk.injEq,List.cons.injEq,Value.int.injEq,true_and,and_true] at e
 exact Prod.ext e.1 e.2
def roSet (K : Int × Int -> Lit) (xs : List (Int × Int)) (k : Nat) : DataW Unit:=setOf (.agg []) ((List.range k).map fun j => K (xO xs j))
theorem roSet_zero (K : Int × Int -> Lit) (xs : List (Int × Int)) : roSet K xs 0 = .map []:=rfl
theorem roSet_succ (K : Int × Int -> Lit) (xs : List (Int × Int)) (k : Nat) : roSet K xs (k + 1) = (roSet K xs k).put (K (xO xs k)) (.agg []):=by
 unfold roSet
 rw [List.range_succ,List.map_append]
 exact setOf_snoc _ _ _
theorem roSet_has {K : Int × Int -> Lit} (hK : RoK K) (xs : List (Int × Int)) (h32 : ∀ j,in32 (xO xs j).1 (xO xs j).2) (k : Nat) : Maps.has (roSet K xs k) (K (xO xs k)) = true ↔ Met xs k:=by
 unfold roSet
 rw [has_setOf _ _ _ (fun y hy => by obtain ⟨j,_,rfl⟩:=List.mem_map.1 hy; exact hK.2.1 _ (h32 j))]
 rw [List.any_eq_true]
 constructor
 · rintro ⟨y,hy,hs⟩
   obtain ⟨j,hj,rfl⟩:=List.mem_map.1 hy
   exact ⟨j,List.mem_range.1 hj,hK.2.2 _ _ (h32 j) (h32 k) (WideAt.sameKey_eq hs)⟩
 · rintro ⟨j,hj,e⟩
   refine ⟨K (xO xs j),List.mem_map.2 ⟨j,List.mem_range.2 hj,rfl⟩,?_⟩
   rw [e]
   exact WideAt.sameKey_self (hK.2.1 _ (h32 k))
set_option linter.unusedSimpArgs false
theorem roMap_later {w w' : World} {k : TypeId} {R : Value -> Option (DataW Unit × List MemPlace)} {b n : Nat} {D : DataW Unit} (h : w.ownsMap Tryz.prog k R b n D) (hb : Below w.heap.size w w') : w'.ownsMap Tryz.prog k R b n D:=by
 have hlt:=h.lt
 obtain ⟨es,clock,h1,F,hs,hD⟩:=h
 exact ⟨es,clock,(hb.block _ hlt).trans h1,F,hs,hD⟩
end Go.Proofs.YtnhmaijmmkplkaaGreatDoor
namespace Go.Proofs.YtnhmaijmmkplkaaGreatDoor
set_option maxHeartbeats 12800000
open Go.RowKit Go.ChangeShapes Go.WideShapes Go.Deep
set_option linter.unusedVariables false
end Go.Proofs.YtnhmaijmmkplkaaGreatDoor
namespace Go.Proofs.YtnhmaijmmkplkaaGreatDoor
set_option maxHeartbeats 12800000
open Go.RowKit
set_option linter.unusedVariables false
set_option linter.unusedSimpArgs false
set_option maxRecDepth 100000 in
theorem ocopied_any (a : Option Addr) (cap : Nat) (xs : List Int) (w : World) (h : Sl w (.slice a xs.length cap) xs) (hn : xs.length <= 1099511627776) :
 Calls Tryz.prog 235 #[.slice a xs.length cap] w fun e w' => ∃ a' c',e = .returned (.slice a' xs.length c') /\ w'.ownsRow w.heap.size 69 1 (.slice a' xs.length c') xs.length (xs.map (Value.int .u32)) /\ Below w.heap.size w w':=by
 obtain ⟨i0,hi,hz0,hz1,hz2⟩:=info_parts Tryz.infoW
 have hown : w.ownsRow w.heap.size 69 1 (.slice none 0 0) 0 []:=World.ownsRow_nil _ _ _ _
 obtain ⟨ad,c0,e0,hr⟩:=h
 cases e0
 cases a with
 | none =>
  have h0 : cap = 0:=hr.2.2.2.2.2 rfl
  subst h0
  have h1 : xs.length = 0:=by have:=hr.2.2.2.1; omega
  have h2 : xs = []:=List.eq_nil_of_length_eq_zero h1
  subst h2
  clear hr
  go_enter Tryz.func235,Tryz.ntmps235
  go_wp2_with (at_builtin; refine wpList_append_own_none rfl _ _ 22 rfl w.heap.size 69 i0 1 Tryz.underlying22 hi _ 0 [] rfl hown rfl ?_)
  go_ret
  exact ⟨none,0,rfl,hown,Below.refl _ _⟩
 | some ad =>
  have HN:=hid (copy_news hr)
  have HLn : Hid ((xs.map (Value.int .u32)).length = xs.length * 1):=by show _ = _; simp
  clear hr
  go_enter Tryz.func235,Tryz.ntmps235
  go_wp2_with (at_builtin; refine wpList_append_own _ rfl _ _ 22 rfl w.heap.size 69 i0 (.int .u32 0) 1 4 Tryz.underlying22 hi hz0 hz1 hz2 rfl (by decide) _ 0 [] rfl hown ad xs.length cap (xs.map (Value.int .u32)) rfl HLn.out HN.out (ints_oneCell _ _) (by unfold maxLen; omega) (by omega) (Nat.le_refl _) ?_)
  intro v' w1 hown' hgrow _
  have hb2 : Below w.heap.size w w1:=(Below.refl w.heap.size w).grown hgrow (Nat.le_refl _) (fun k hk => by simp [Value.ownBlock] at hk)
  have r3 : w1.ownsRow w.heap.size 69 1 v' xs.length (xs.map (Value.int .u32)):=by simpa using hown'
  obtain ⟨a',c',rfl⟩:=own_slice' r3
  clear hown' hgrow
  go_wp2
  go_ret
  exact ⟨a',c',rfl,r3,hb2⟩
set_option maxRecDepth 100000 in
theorem oover_any (n : Bool) (a : Option Addr) (ca : Nat) (xs : List Int) (b : Option Addr) (lb cb : Nat) (m : Bool) (c : Option Addr) (cc : Nat) (us : List Int) (d : Option Addr) (ld cd : Nat) (w : World) (sx : Sl w (.slice a xs.length ca) xs) (su : Sl w (.slice c us.length cc) us) (lx : xs.length <= 1099511627776) (lu : us.length <= 1099511627776) :
 Calls Tryz.prog 205 #[.agg #[.bool n,.slice a xs.length ca,.slice b lb cb],.agg #[.bool m,.slice c us.length cc,.slice d ld cd]] w fun e w' => ∃ a1 c1 a2 c2,e = .returned (.agg #[.bool n,.slice a1 xs.length c1,.slice a2 us.length c2]) /\ (w'.ownsRow w.heap.size 69 1 (.slice a1 xs.length c1) xs.length (xs.map (Value.int .u32)) /\ w'.ownsRow w.heap.size 69 1 (.slice a2 us.length c2) us.length (us.map (Value.int .u32))) /\ Below w.heap.size w w' /\ Cut w (.slice a1 xs.length c1) (.slice a2 us.length c2) w':=by
 have HX:=hid (boxes3r w 24 #[.bool n,.slice a xs.length ca,.slice b lb cb] #[.bool m,.slice c us.length cc,.slice d ld cd] #[.bool false,.slice none 0 0,.slice none 0 0])
 obtain ⟨X,hX⟩ : ∃ X,((w.alloc (.cells #[.bool n,.slice a xs.length ca,.slice b lb cb] 24)).alloc (.cells #[.bool m,.slice c us.length cc,.slice d ld cd] 24)).alloc (.cells #[.bool false,.slice none 0 0,.slice none 0 0] 24) = X:=⟨_,rfl⟩
 rw [hX] at HX
 have HC1 : Hid (∀ V,Below X.heap.size X V -> Calls Tryz.prog 235 #[.slice a xs.length ca] V fun e w' => ∃ a' c',e = .returned (.slice a' xs.length c') /\ Hid (w'.ownsRow V.heap.size 69 1 (.slice a' xs.length c') xs.length (xs.map (Value.int .u32))) /\ Hid (Below V.heap.size V w')):=fun V hv => ocopied_any a ca xs V (sx.later (bt HX.out.2.2.2 hv)) lx
 have HC2 : Hid (∀ V,Below X.heap.size X V -> Calls Tryz.prog 235 #[.slice c us.length cc] V fun e w' => ∃ a' c',e = .returned (.slice a' us.length c') /\ Hid (w'.ownsRow V.heap.size 69 1 (.slice a' us.length c') us.length (us.map (Value.int .u32))) /\ Hid (Below V.heap.size V w')):=fun V hv => ocopied_any c cc us V (su.later (bt HX.out.2.2.2 hv)) lu
 have HK : Hid (∀ V,Below X.heap.size X V -> V.cell? ⟨w.heap.size,0,none⟩ = some (.bool n) /\ V.cell? ⟨w.heap.size,1,none⟩ = some (.slice a xs.length ca) /\ V.cell? ⟨w.heap.size + 1,1,none⟩ = some (.slice c us.length cc)):=fun V hv => ⟨(HX.out.1.later hv HX.out.1.lt).cell 0,(HX.out.1.later hv HX.out.1.lt).cell 1,(HX.out.2.1.later hv HX.out.2.1.lt).cell 1⟩
 have HKP : Hid (∀ V,Below X.heap.size X V -> ∀ (v0 v1 v2 : Value),((((V.setCell ⟨w.heap.size + 1 + 1,0,none⟩ v0).setCell ⟨w.heap.size + 1 + 1,1,none⟩ v1).setCell ⟨w.heap.size + 1 + 1,2,none⟩ v2).cell? ⟨w.heap.size,0,none⟩ = some (.bool n) /\ (((V.setCell ⟨w.heap.size + 1 + 1,0,none⟩ v0).setCell ⟨w.heap.size + 1 + 1,1,none⟩ v1).setCell ⟨w.heap.size + 1 + 1,2,none⟩ v2).cell? ⟨w.heap.size,1,none⟩ = some (.slice a xs.length ca) /\ (((V.setCell ⟨w.heap.size + 1 + 1,0,none⟩ v0).setCell ⟨w.heap.size + 1 + 1,1,none⟩ v1).setCell ⟨w.heap.size + 1 + 1,2,none⟩ v2).cell? ⟨w.heap.size + 1,1,none⟩ = some (.slice c us.length cc))):=fun V hv v0 v1 v2 => by
  have h:=box_far3 (HX.out.1.later hv HX.out.1.lt) (show w.heap.size ≠ w.heap.size + 1 + 1 by omega) v0 v1 v2
  have h':=box_far3 (HX.out.2.1.later hv HX.out.2.1.lt) (show w.heap.size + 1 ≠ w.heap.size + 1 + 1 by omega) v0 v1 v2
  exact ⟨h.cell 0,h.cell 1,h'.cell 1⟩
 have HM : Hid (∀ V,Below X.heap.size X V -> V.cell? ⟨w.heap.size + 1 + 1,0,none⟩ = some (.bool false) /\ V.cell? ⟨w.heap.size + 1 + 1,1,none⟩ = some (.slice none 0 0) /\ V.cell? ⟨w.heap.size + 1 + 1,2,none⟩ = some (.slice none 0 0) /\ V.frozen? ⟨w.heap.size + 1 + 1,0,none⟩ = false /\ V.frozen? ⟨w.heap.size + 1 + 1,1,none⟩ = false /\ V.frozen? ⟨w.heap.size + 1 + 1,2,none⟩ = false):=fun V hv => by
  have h:=HX.out.2.2.1.later hv HX.out.2.2.1.lt
  exact ⟨h.cell 0,h.cell 1,h.cell 2,h.free 0,h.free 1,h.free 2⟩
 have hd0:=hid (Below.refl X.heap.size X).drew
 have hs0:=HK.out _ hd0.out
 clear sx su lx lu
 go_enter Tryz.func205,Tryz.ntmps205
 go_wp2_with fail
 go_region_held3 (fun V : World => V.cell? ⟨w.heap.size,0,none⟩ = some (.bool n) /\ V.cell? ⟨w.heap.size,1,none⟩ = some (.slice a xs.length ca) /\ V.cell? ⟨w.heap.size + 1,1,none⟩ = some (.slice c us.length cc)) (first | exact hsB | exact hsA | exact hs0 | exact HKP.out _ hbB.out _ _ _)
  (first
   | (go_at_call 235; (with_reducible refine Calls.mono (HC2.out _ hbA.out) ?_); rintro e w2 ⟨a2,c2,rfl,o2,b2⟩; have hbB:=hid (bt hbA.out b2.out); have hsB:=HK.out _ hbB.out; obtain ⟨m0,m1,m2,f0,f1,f2⟩:=HM.out _ hbB.out)
   | (go_at_call 235; (with_reducible refine Calls.mono (HC1.out _ hd0.out) ?_); rintro e w1 ⟨a1,c1,rfl,o1,b1⟩; have hbA:=hid (bt hd0.out b1.out); have hsA:=HK.out _ hbA.out))
 have HBX:=hid (HX.out.2.2.1.later hbB.out HX.out.2.2.1.lt)
 have HBW:=hid (bt HX.out.2.2.2 hbB.out)
 have HO1:=hid (owns_later o1.out b2.out)
 have HO2:=hid o2.out
 have HL1 : Hid (Lies (.slice a1 xs.length c1) w.heap.size w1.heap.size):=fun g hg => ⟨Nat.le_trans HX.out.2.2.2.size (o1.out.lt g hg).1,(o1.out.lt g hg).2⟩
 have HL2 : Hid (Lies (.slice a2 us.length c2) w1.heap.size w2.heap.size):=fun g hg => ⟨(o2.out.lt g hg).1,(o2.out.lt g hg).2⟩
 have hXs : w.heap.size + 1 + 1 < X.heap.size:=HX.out.2.2.1.lt
 have h1s : X.heap.size <= w1.heap.size:=hbA.out.size
 have h2s : w1.heap.size <= w2.heap.size:=b2.out.size
 have hwX : w.heap.size <= X.heap.size:=HX.out.2.2.2.size
 clear hs0 hsA hsB hd0 o1 o2 b1 b2 hbA hbB HK HKP HM HC1 HC2
 go_wp2_with fail
 have B1:=box_put3 HBX.out (.bool n) (.slice a1 xs.length c1) (.slice a2 us.length c2)
 have e1 : ∀ g,(Value.slice a1 xs.length c1).ownBlock = some g -> g ≠ w.heap.size + 1 + 1:=fun g hg => by have:=(HO1.out.lt g hg).1; have e : X.drew.heap.size = X.heap.size:=rfl; omega
 have e2 : ∀ g,(Value.slice a2 us.length c2).ownBlock = some g -> g ≠ w.heap.size + 1 + 1:=fun g hg => by have:=(HO2.out.lt g hg).1; omega
 have V1:=own_put3' HO1.out _ e1 (.bool n) (.slice a1 xs.length c1) (.slice a2 us.length c2)
 have U1:=own_put3' HO2.out _ e2 (.bool n) (.slice a1 xs.length c1) (.slice a2 us.length c2)
 refine bodyPost_ret (results_cell_row (by rfl) _ _ (w.heap.size + 1 + 1) 24 _ (0,0) _ (by rfl) B1 Tryz.underlying24 rfl (by kernel_rfl)) rfl ?_
 refine ⟨a1,c1,a2,c2,rfl,⟨owns_base V1 hwX,owns_base U1 (by omega)⟩,below_put3 HBW.out _ (by omega) _ _ _,?_⟩
 exact ⟨w1.heap.size,by omega,by simp [World.setCell]; omega,HL1.out,fun g hg => ⟨(HL2.out g hg).1,by have:=(HL2.out g hg).2; simp [World.setCell]; omega⟩⟩
def ONum (w : World) (g h : G6) (x : Ending) (w' : World) : Prop:=∃ a1 c1 a2 c2 a3 c3 a4 c4,x = .returned (.agg #[.bool g.n,.slice a1 g.xs.length c1,.slice a2 h.xs.length c2,.bool g.m,.slice a3 g.us.length c3,.slice a4 h.xs.length c4]) /\ Hid (w'.ownsRow w.heap.size 69 1 (.slice a1 g.xs.length c1) g.xs.length (g.xs.map (Value.int .u32)) /\ w'.ownsRow w.heap.size 69 1 (.slice a2 h.xs.length c2) h.xs.length (h.xs.map (Value.int .u32)) /\ w'.ownsRow w.heap.size 69 1 (.slice a3 g.us.length c3) g.us.length (g.us.map (Value.int .u32)) /\ w'.ownsRow w.heap.size 69 1 (.slice a4 h.xs.length c4) h.xs.length (h.xs.map (Value.int .u32))) /\ Hid (Below w.heap.size w w') /\ Hid (∃ W1,Cut w (.slice a1 g.xs.length c1) (.slice a2 h.xs.length c2) W1 /\ Cut W1 (.slice a3 g.us.length c3) (.slice a4 h.xs.length c4) w')
set_option maxRecDepth 100000 in
theorem onumber_any (g h : G6) (w : World) (sg1 : Sl w (.slice g.a g.xs.length g.ca) g.xs) (sg2 : Sl w (.slice g.c g.us.length g.cc) g.us) (sh : Sl w (.slice h.a h.xs.length h.ca) h.xs) (lg1 : g.xs.length <= 1099511627776) (lg2 : g.us.length <= 1099511627776) (lh : h.xs.length <= 1099511627776) :
 Calls Tryz.prog 163 #[.agg #[.bool g.n,.slice g.a g.xs.length g.ca,.slice g.b g.ys.length g.cb,.bool g.m,.slice g.c g.us.length g.cc,.slice g.d g.vs.length g.cd,.bool h.n,.slice h.a h.xs.length h.ca,.slice h.b h.ys.length h.cb,.bool h.m,.slice h.c h.us.length h.cc,.slice h.d h.vs.length h.cd]] w (ONum w g h):=by
 obtain ⟨X,hX⟩ : ∃ X,(w.alloc (.cells #[.bool g.n,.slice g.a g.xs.length g.ca,.slice g.b g.ys.length g.cb,.bool g.m,.slice g.c g.us.length g.cc,.slice g.d g.vs.length g.cd,.bool h.n,.slice h.a h.xs.length h.ca,.slice h.b h.ys.length h.cb,.bool h.m,.slice h.c h.us.length h.cc,.slice h.d h.vs.length h.cd] 179)).alloc (.cells #[.bool false,.slice none 0 0,.slice none 0 0,.bool false,.slice none 0 0,.slice none 0 0] 35) = X:=⟨_,rfl⟩
 have HB : Hid (Below w.heap.size w X):=by rw [<- hX]; exact bt (alloc_later _ _) (alloc_later _ _)
 have HP : Hid (Box X w.heap.size 179 #[.bool g.n,.slice g.a g.xs.length g.ca,.slice g.b g.ys.length g.cb,.bool g.m,.slice g.c g.us.length g.cc,.slice g.d g.vs.length g.cd,.bool h.n,.slice h.a h.xs.length h.ca,.slice h.b h.ys.length h.cb,.bool h.m,.slice h.c h.us.length h.cc,.slice h.d h.vs.length h.cd]):=by rw [<- hX]; exact (Box.made w _ _).later (alloc_later _ _) (Box.made w _ _).lt
 have HZ : Hid (Box X (w.heap.size + 1) 35 #[.bool false,.slice none 0 0,.slice none 0 0,.bool false,.slice none 0 0,.slice none 0 0]):=by
  have q:=Box.made (w.alloc (.cells #[.bool g.n,.slice g.a g.xs.length g.ca,.slice g.b g.ys.length g.cb,.bool g.m,.slice g.c g.us.length g.cc,.slice g.d g.vs.length g.cd,.bool h.n,.slice h.a h.xs.length h.ca,.slice h.b h.ys.length h.cb,.bool h.m,.slice h.c h.us.length h.cc,.slice h.d h.vs.length h.cd] 179)) 35 #[.bool false,.slice none 0 0,.slice none 0 0,.bool false,.slice none 0 0,.slice none 0 0]
  rw [show (w.alloc (.cells #[.bool g.n,.slice g.a g.xs.length g.ca,.slice g.b g.ys.length g.cb,.bool g.m,.slice g.c g.us.length g.cc,.slice g.d g.vs.length g.cd,.bool h.n,.slice h.a h.xs.length h.ca,.slice h.b h.ys.length h.cb,.bool h.m,.slice h.c h.us.length h.cc,.slice h.d h.vs.length h.cd] 179)).heap.size = w.heap.size + 1 by simp,hX] at q
  exact q
 have HK : Hid (∀ V,Below X.heap.size X V -> V.cell? ⟨w.heap.size,0,none⟩ = some (.bool g.n) /\ V.cell? ⟨w.heap.size,1,none⟩ = some (.slice g.a g.xs.length g.ca) /\ V.cell? ⟨w.heap.size,2,none⟩ = some (.slice g.b g.ys.length g.cb) /\ V.cell? ⟨w.heap.size,3,none⟩ = some (.bool g.m) /\ V.cell? ⟨w.heap.size,4,none⟩ = some (.slice g.c g.us.length g.cc) /\ V.cell? ⟨w.heap.size,5,none⟩ = some (.slice g.d g.vs.length g.cd) /\ V.cell? ⟨w.heap.size,6,none⟩ = some (.bool h.n) /\ V.cell? ⟨w.heap.size,7,none⟩ = some (.slice h.a h.xs.length h.ca) /\ V.cell? ⟨w.heap.size,8,none⟩ = some (.slice h.b h.ys.length h.cb)):=fun V hv => by
  have q:=HP.out.later hv HP.out.lt
  exact ⟨q.cell 0,q.cell 1,q.cell 2,q.cell 3,q.cell 4,q.cell 5,q.cell 6,q.cell 7,q.cell 8⟩
 have HKB : Hid (∀ V,Box V w.heap.size 179 #[.bool g.n,.slice g.a g.xs.length g.ca,.slice g.b g.ys.length g.cb,.bool g.m,.slice g.c g.us.length g.cc,.slice g.d g.vs.length g.cd,.bool h.n,.slice h.a h.xs.length h.ca,.slice h.b h.ys.length h.cb,.bool h.m,.slice h.c h.us.length h.cc,.slice h.d h.vs.length h.cd] -> V.cell? ⟨w.heap.size,0,none⟩ = some (.bool g.n) /\ V.cell? ⟨w.heap.size,1,none⟩ = some (.slice g.a g.xs.length g.ca) /\ V.cell? ⟨w.heap.size,2,none⟩ = some (.slice g.b g.ys.length g.cb) /\ V.cell? ⟨w.heap.size,3,none⟩ = some (.bool g.m) /\ V.cell? ⟨w.heap.size,4,none⟩ = some (.slice g.c g.us.length g.cc) /\ V.cell? ⟨w.heap.size,5,none⟩ = some (.slice g.d g.vs.length g.cd) /\ V.cell? ⟨w.heap.size,6,none⟩ = some (.bool h.n) /\ V.cell? ⟨w.heap.size,7,none⟩ = some (.slice h.a h.xs.length h.ca) /\ V.cell? ⟨w.heap.size,8,none⟩ = some (.slice h.b h.ys.length h.cb)):=fun V q => ⟨q.cell 0,q.cell 1,q.cell 2,q.cell 3,q.cell 4,q.cell 5,q.cell 6,q.cell 7,q.cell 8⟩
 have HV1 : Hid (∀ V,Below X.heap.size X V -> Calls Tryz.prog 205 #[.agg #[.bool g.n,.slice g.a g.xs.length g.ca,.slice g.b g.ys.length g.cb],.agg #[.bool h.n,.slice h.a h.xs.length h.ca,.slice h.b h.ys.length h.cb]] V fun e w' => ∃ a1 c1 a2 c2,e = .returned (.agg #[.bool g.n,.slice a1 g.xs.length c1,.slice a2 h.xs.length c2]) /\ Hid ((w'.ownsRow V.heap.size 69 1 (.slice a1 g.xs.length c1) g.xs.length (g.xs.map (Value.int .u32)) /\ w'.ownsRow V.heap.size 69 1 (.slice a2 h.xs.length c2) h.xs.length (h.xs.map (Value.int .u32))) /\ Below V.heap.size V w' /\ Cut V (.slice a1 g.xs.length c1) (.slice a2 h.xs.length c2) w')):=fun V hv => by
  refine Calls.mono (oover_any _ _ _ _ _ _ _ _ _ _ _ _ _ _ V (sg1.later (bt HB.out hv)) (sh.later (bt HB.out hv)) lg1 lh) ?_
  rintro e w' ⟨a1,c1,a2,c2,rfl,ho,hb,hc⟩
  exact ⟨a1,c1,a2,c2,rfl,ho,hb,hc⟩
 have HV2 : Hid (∀ V,Below X.heap.size X V -> Calls Tryz.prog 205 #[.agg #[.bool g.m,.slice g.c g.us.length g.cc,.slice g.d g.vs.length g.cd],.agg #[.bool h.n,.slice h.a h.xs.length h.ca,.slice h.b h.ys.length h.cb]] V fun e w' => ∃ a1 c1 a2 c2,e = .returned (.agg #[.bool g.m,.slice a1 g.us.length c1,.slice a2 h.xs.length c2]) /\ Hid ((w'.ownsRow V.heap.size 69 1 (.slice a1 g.us.length c1) g.us.length (g.us.map (Value.int .u32)) /\ w'.ownsRow V.heap.size 69 1 (.slice a2 h.xs.length c2) h.xs.length (h.xs.map (Value.int .u32))) /\ Below V.heap.size V w' /\ Cut V (.slice a1 g.us.length c1) (.slice a2 h.xs.length c2) w')):=fun V hv => by
  refine Calls.mono (oover_any _ _ _ _ _ _ _ _ _ _ _ _ _ _ V (sg2.later (bt HB.out hv)) (sh.later (bt HB.out hv)) lg2 lh) ?_
  rintro e w' ⟨a1,c1,a2,c2,rfl,ho,hb,hc⟩
  exact ⟨a1,c1,a2,c2,rfl,ho,hb,hc⟩
 have hd0:=hid (Below.refl X.heap.size X).drew
 have hs0:=HK.out _ hd0.out
 have hsz:=HB.out.size
 clear sg1 sg2 sh lg1 lg2 lh
 go_enter Tryz.func163,Tryz.ntmps163
 go_wp2_with fail
 go_region_held3 (fun V : World => V.cell? ⟨w.heap.size,0,none⟩ = some (.bool g.n) /\ V.cell? ⟨w.heap.size,1,none⟩ = some (.slice g.a g.xs.length g.ca) /\ V.cell? ⟨w.heap.size,2,none⟩ = some (.slice g.b g.ys.length g.cb) /\ V.cell? ⟨w.heap.size,3,none⟩ = some (.bool g.m) /\ V.cell? ⟨w.heap.size,4,none⟩ = some (.slice g.c g.us.length g.cc) /\ V.cell? ⟨w.heap.size,5,none⟩ = some (.slice g.d g.vs.length g.cd) /\ V.cell? ⟨w.heap.size,6,none⟩ = some (.bool h.n) /\ V.cell? ⟨w.heap.size,7,none⟩ = some (.slice h.a h.xs.length h.ca) /\ V.cell? ⟨w.heap.size,8,none⟩ = some (.slice h.b h.ys.length h.cb)) (first | exact hsC | exact hsB | exact hsA | exact hs0)
  (first
   | (go_at_call 205; (with_reducible refine Calls.mono (HV2.out _ hbA.out) ?_); rintro e w2 ⟨a3,c3,a4,c4,rfl,ho2⟩; have hbB:=hid (bt hbA.out ho2.out.2.1); have hsB:=HK.out _ hbB.out; obtain ⟨A0,A1,A2,A3,A4,A5,k0,k1,k2,k3,k4,k5,⟨r0,r1,r2,r3,r4,r5⟩,⟨f0,f1,f2,f3,f4,f5⟩,HA5⟩:=rchain6 (HZ.out.later hbB.out HZ.out.lt) (by decide) (.bool g.n) (.slice a1 g.xs.length c1) (.slice a2 h.xs.length c2) (.bool g.m) (.slice a3 g.us.length c3) (.slice a4 h.xs.length c4); have hsC:=HKB.out _ (HA5.out.2.1 _ _ _ (by omega) (HP.out.later hbB.out HP.out.lt)))
   | (go_at_call 205; (with_reducible refine Calls.mono (HV1.out _ hd0.out) ?_); rintro e w1 ⟨a1,c1,a2,c2,rfl,ho1⟩; have hbA:=hid (bt hd0.out ho1.out.2.1); have hsA:=HK.out _ hbA.out))
 have h1:=hbA.out.size
 have h2:=ho2.out.2.1.size
 have h3:=HA5.out.2.2.2.2
 go_wp2_with fail
 refine bodyPost_ret (results_cell_row (by rfl) _ _ (w.heap.size + 1) 35 _ (0,0) _ (by rfl) HA5.out.1 Tryz.underlying35 rfl (by kernel_rfl)) rfl ?_
 have b12:=ho2.out.2.1
 have ho2':=ho2.out.1
 refine ⟨a1,c1,a2,c2,a3,c3,a4,c4,rfl,⟨HA5.out.2.2.1 _ _ _ _ (owns_base (owns_later ho1.out.1.1 b12) hsz),HA5.out.2.2.1 _ _ _ _ (owns_base (owns_later ho1.out.1.2 b12) hsz),HA5.out.2.2.1 _ _ _ _ (owns_base ho2'.1 (by omega)),HA5.out.2.2.1 _ _ _ _ (owns_base ho2'.2 (by omega))⟩,HA5.out.2.2.2.1 _ _ (by omega) (bt HB.out hbB.out),w1,ho1.out.2.2.up hsz (Nat.le_refl _),ho2.out.2.2.up (Nat.le_refl _) (by omega)⟩
theorem osq (f : Int) (h : f.natAbs <= 1000) : 0 <= f * f /\ f * f <= 1000000:=by
 have h1 : -1000 <= f:=by omega
 have h2 : f <= 1000:=by omega
 have e : ((f.natAbs * f.natAbs : Nat) : Int) = f * f:=Int.natAbs_mul_self
 have h3 : f.natAbs * f.natAbs <= 1000 * 1000:=Nat.mul_le_mul h h
 rw [<- e]
 omega
theorem opr (f n : Int) (h : f.natAbs <= 1000) (g : n.natAbs <= 1000) : -1000000 <= f * n /\ f * n <= 1000000:=by
 have h3 : (f * n).natAbs <= 1000 * 1000:=by rw [Int.natAbs_mul]; exact Nat.mul_le_mul h g
 omega
def oRe (f n : Int) : Int:=if (f * f + n * n) % 2 = 0 then (f * f - n * n) / 2 else f * f - n * n
def oIm (f n : Int) : Int:=if (f * f + n * n) % 2 = 0 then f * n else 2 * (f * n)
def oNm (f n : Int) : Int:=if (f * f + n * n) % 2 = 0 then (f * f + n * n) / 2 else f * f + n * n
def OFst (w : World) (f n : Int) (x : Ending) (w' : World) : Prop:=∃ g h : G6,x = .returned (.agg #[.bool g.n,.slice g.a g.xs.length g.ca,.slice g.b g.ys.length g.cb,.bool g.m,.slice g.c g.us.length g.cc,.slice g.d g.vs.length g.cd,.bool h.n,.slice h.a h.xs.length h.ca,.slice h.b h.ys.length h.cb,.bool h.m,.slice h.c h.us.length h.cc,.slice h.d h.vs.length h.cd]) /\ Hid (g.Ow w' w.heap.size /\ h.Ow w' w.heap.size) /\ Hid (g.Is (Rat.divInt (oRe f n) 1) (Rat.divInt (oIm f n) 1)) /\ Hid (h.Is (Rat.divInt (oNm f n) 1) (Rat.divInt 0 1)) /\ Hid (Below w.heap.size w w')
set_option maxRecDepth 100000 in
theorem ofirst_any (f n : Int) (w : World) (hf : 1 <= f /\ f <= 1000) (hn : n.natAbs <= 1000) :
 Calls Tryz.prog 161 #[.agg #[.int .i32 f,.int .i32 n]] w (OFst w f n):=by
 obtain ⟨X,hX⟩ : ∃ X,(w.alloc (.cells #[.int .i32 f,.int .i32 n] 33)).alloc (.cells #[.bool false,.slice none 0 0,.slice none 0 0,.bool false,.slice none 0 0,.slice none 0 0,.bool false,.slice none 0 0,.slice none 0 0,.bool false,.slice none 0 0,.slice none 0 0] 179) = X:=⟨_,rfl⟩
 have HB : Hid (Below w.heap.size w X):=by rw [<- hX]; exact bt (alloc_later _ _) (alloc_later _ _)
 have HR : Hid (Box X w.heap.size 33 #[.int .i32 f,.int .i32 n]):=by rw [<- hX]; exact (Box.made w _ _).later (alloc_later _ _) (Box.made w _ _).lt
 have HZ : Hid (Box X (w.heap.size + 1) 179 #[.bool false,.slice none 0 0,.slice none 0 0,.bool false,.slice none 0 0,.slice none 0 0,.bool false,.slice none 0 0,.slice none 0 0,.bool false,.slice none 0 0,.slice none 0 0]):=by
  have q:=Box.made (w.alloc (.cells #[.int .i32 f,.int .i32 n] 33)) 179 #[.bool false,.slice none 0 0,.slice none 0 0,.bool false,.slice none 0 0,.slice none 0 0,.bool false,.slice none 0 0,.slice none 0 0,.bool false,.slice none 0 0,.slice none 0 0]
  rw [show (w.alloc (.cells #[.int .i32 f,.int .i32 n] 33)).heap.size = w.heap.size + 1 by simp,hX] at q
  exact q
 have k0 : X.cell? ⟨w.heap.size,0,none⟩ = some (.int .i32 f):=HR.out.cell 0
 have k1 : X.cell? ⟨w.heap.size,1,none⟩ = some (.int .i32 n):=HR.out.cell 1
 have hF:=osq f (by omega)
 have hN:=osq n hn
 have hP:=opr f n (by omega) hn
 have hn0 : -1000 <= n:=by omega
 have hn1 : n <= 1000:=by omega
 have hQ : 2 * f * n = 2 * (f * n):=Int.mul_assoc 2 f n
 clear hn
 go_enter Tryz.func161,Tryz.ntmps161
 go_wp2_with fail
 go_quiet (fail)
 have HBN:=hid (bdrewN (Below.refl X.heap.size X) nq)
 generalize X.drewN nq = Y at *
 by_cases hpar : (f * f + n * n) % 2 = 0
 · have hpt : Int.tmod (f * f + n * n) 2 = 0:=by rw [Int.tmod_eq_emod_of_nonneg (by omega)]; exact hpar
   have ht1 : Int.tdiv (f * f - n * n) 2 = (f * f - n * n) / 2:=by
    obtain ⟨k,hk⟩ : ∃ k,f * f - n * n = 2 * k:=⟨(f * f - n * n) / 2,by omega⟩
    rw [hk,Int.mul_tdiv_cancel_left _ (by decide),Int.mul_ediv_cancel_left _ (by decide)]
   have ht2 : Int.tdiv (2 * f * n) 2 = f * n:=by rw [hQ,Int.mul_tdiv_cancel_left _ (by decide)]
   have ht3 : Int.tdiv (f * f + n * n) 2 = (f * f + n * n) / 2:=by rw [Int.tdiv_eq_ediv_of_nonneg (by omega)]
   have HC1:=hid (oInt_any ((f * f - n * n) / 2) (f * n) Y (by omega) (by omega) (by omega) (by omega))
   have HC2:=hid (fun V => oInt_any ((f * f + n * n) / 2) 0 V (by omega) (by omega) (by omega) (by omega))
   have E1 : Hid (oRe f n = (f * f - n * n) / 2 /\ oIm f n = f * n /\ oNm f n = (f * f + n * n) / 2):=by
    unfold oRe oIm oNm
    exact ⟨by rw [if_pos hpar],by rw [if_pos hpar],by rw [if_pos hpar]⟩
   go_wp2_with fail
   refine Calls.mono HC1.out ?_
   rintro e w1 ⟨g,rfl,hog,hig,hb1⟩
   have HD:=hid (HC2.out w1)
   clear HC1 HC2
   go_wp2_with fail
   refine Calls.mono HD.out ?_
   rintro e w2 ⟨h,rfl,hoh,hih,hb2⟩
   clear HD
   have HBB:=hid (bt HBN.out (bt hb1.out hb2.out))
   obtain ⟨A0,A1,A2,A3,A4,A5,A6,A7,A8,A9,A10,A11,q0,q1,q2,q3,q4,q5,q6,q7,q8,q9,q10,q11,⟨r0,r1,r2,r3,r4,r5,r6,r7,r8,r9,r10,r11⟩,⟨f0,f1,f2,f3,f4,f5,f6,f7,f8,f9,f10,f11⟩,HA⟩:=rchain12 (HZ.out.later HBB.out HZ.out.lt) (by decide) (.bool g.n) (.slice g.a g.xs.length g.ca) (.slice g.b g.ys.length g.cb) (.bool g.m) (.slice g.c g.us.length g.cc) (.slice g.d g.vs.length g.cd) (.bool h.n) (.slice h.a h.xs.length h.ca) (.slice h.b h.ys.length h.cb) (.bool h.m) (.slice h.c h.us.length h.cc) (.slice h.d h.vs.length h.cd)
   go_wp2_with fail
   refine bodyPost_ret (results_cell_row (by rfl) _ _ (w.heap.size + 1) 179 _ (0,0) _ (by rfl) HA.out.1 Tryz.underlying179 rfl (by kernel_rfl)) rfl ?_
   have z1:=HB.out.size
   have z2:=HBN.out.size
   have z3:=hb1.out.size
   have P:=HA.out.2.2.1
   have o1:=(hog.out.later hb2.out).base (show w.heap.size <= Y.heap.size by omega)
   have o2:=hoh.out.base (show w.heap.size <= w1.heap.size by omega)
   refine ⟨g,h,rfl,⟨⟨P _ _ _ _ o1.1,P _ _ _ _ o1.2.1,P _ _ _ _ o1.2.2.1,P _ _ _ _ o1.2.2.2⟩,⟨P _ _ _ _ o2.1,P _ _ _ _ o2.2.1,P _ _ _ _ o2.2.2.1,P _ _ _ _ o2.2.2.2⟩⟩,?_,?_,HA.out.2.2.2.1 _ _ (by omega) (bt HB.out HBB.out)⟩
   · rw [E1.out.1,E1.out.2.1]; exact hig
   · rw [E1.out.2.2]; exact hih
 · have hpt : Int.tmod (f * f + n * n) 2 = 1:=by rw [Int.tmod_eq_emod_of_nonneg (by omega)]; omega
   have HC1:=hid (oInt_any (f * f - n * n) (2 * (f * n)) Y (by omega) (by omega) (by omega) (by omega))
   have HC2:=hid (fun V => oInt_any (f * f + n * n) 0 V (by omega) (by omega) (by omega) (by omega))
   have E1 : Hid (oRe f n = f * f - n * n /\ oIm f n = 2 * (f * n) /\ oNm f n = f * f + n * n):=by
    unfold oRe oIm oNm
    exact ⟨by rw [if_neg hpar],by rw [if_neg hpar],by rw [if_neg hpar]⟩
   go_wp2_with fail
   refine Calls.mono HC1.out ?_
   rintro e w1 ⟨g,rfl,hog,hig,hb1⟩
   have HD:=hid (HC2.out w1)
   clear HC1 HC2
   go_wp2_with fail
   refine Calls.mono HD.out ?_
   rintro e w2 ⟨h,rfl,hoh,hih,hb2⟩
   clear HD
   have HBB:=hid (bt HBN.out (bt hb1.out hb2.out))
   obtain ⟨A0,A1,A2,A3,A4,A5,A6,A7,A8,A9,A10,A11,q0,q1,q2,q3,q4,q5,q6,q7,q8,q9,q10,q11,⟨r0,r1,r2,r3,r4,r5,r6,r7,r8,r9,r10,r11⟩,⟨f0,f1,f2,f3,f4,f5,f6,f7,f8,f9,f10,f11⟩,HA⟩:=rchain12 (HZ.out.later HBB.out HZ.out.lt) (by decide) (.bool g.n) (.slice g.a g.xs.length g.ca) (.slice g.b g.ys.length g.cb) (.bool g.m) (.slice g.c g.us.length g.cc) (.slice g.d g.vs.length g.cd) (.bool h.n) (.slice h.a h.xs.length h.ca) (.slice h.b h.ys.length h.cb) (.bool h.m) (.slice h.c h.us.length h.cc) (.slice h.d h.vs.length h.cd)
   go_wp2_with fail
   refine bodyPost_ret (results_cell_row (by rfl) _ _ (w.heap.size + 1) 179 _ (0,0) _ (by rfl) HA.out.1 Tryz.underlying179 rfl (by kernel_rfl)) rfl ?_
   have z1:=HB.out.size
   have z2:=HBN.out.size
   have z3:=hb1.out.size
   have P:=HA.out.2.2.1
   have o1:=(hog.out.later hb2.out).base (show w.heap.size <= Y.heap.size by omega)
   have o2:=hoh.out.base (show w.heap.size <= w1.heap.size by omega)
   refine ⟨g,h,rfl,⟨⟨P _ _ _ _ o1.1,P _ _ _ _ o1.2.1,P _ _ _ _ o1.2.2.1,P _ _ _ _ o1.2.2.2⟩,⟨P _ _ _ _ o2.1,P _ _ _ _ o2.2.1,P _ _ _ _ o2.2.2.1,P _ _ _ _ o2.2.2.2⟩⟩,?_,?_,HA.out.2.2.2.1 _ _ (by omega) (bt HB.out HBB.out)⟩
   · rw [E1.out.1,E1.out.2.1]; exact hig
   · rw [E1.out.2.2]; exact hih
end Go.Proofs.YtnhmaijmmkplkaaGreatDoor
namespace Go.Proofs.YtnhmaijmmkplkaaGreatDoor
set_option maxHeartbeats 12800000
set_option linter.unusedVariables false
def zmul (p q : Int × Int) : Int × Int:=(p.1 * q.1 - p.2 * q.2,p.1 * q.2 + p.2 * q.1)
def zpow (p : Int × Int) : Nat -> Int × Int
 | 0 => (1,0)
 | t + 1 => zmul (zpow p t) p
theorem zmul_assoc (p q r : Int × Int) : zmul (zmul p q) r = zmul p (zmul q r):=by
 unfold zmul
 apply Prod.ext
 · show (p.1 * q.1 - p.2 * q.2) * r.1 - (p.1 * q.2 + p.2 * q.1) * r.2 = p.1 * (q.1 * r.1 - q.2 * r.2) - p.2 * (q.1 * r.2 + q.2 * r.1)
   grind
 · show (p.1 * q.1 - p.2 * q.2) * r.2 + (p.1 * q.2 + p.2 * q.1) * r.1 = p.1 * (q.1 * r.2 + q.2 * r.1) + p.2 * (q.1 * r.1 - q.2 * r.2)
   grind
theorem zmul_one (p : Int × Int) : zmul p (1,0) = p:=by
 unfold zmul
 apply Prod.ext
 · show p.1 * 1 - p.2 * 0 = p.1
   omega
 · show p.1 * 0 + p.2 * 1 = p.2
   omega
theorem zpow_add (p : Int × Int) (s t : Nat) : zpow p (s + t) = zmul (zpow p s) (zpow p t):=by
 induction t with
 | zero => exact (zmul_one _).symm
 | succ t ih =>
  show zmul (zpow p (s + t)) p = zmul (zpow p s) (zmul (zpow p t) p)
  rw [ih,zmul_assoc]
theorem zpow_norm (p : Int × Int) (t : Nat) : (zpow p t).1 * (zpow p t).1 + (zpow p t).2 * (zpow p t).2 = (p.1 * p.1 + p.2 * p.2) ^ t:=by
 induction t with
 | zero => rw [Int.pow_zero]; rfl
 | succ t ih =>
  rw [Int.pow_succ,<- ih]
  show ((zpow p t).1 * p.1 - (zpow p t).2 * p.2) * ((zpow p t).1 * p.1 - (zpow p t).2 * p.2) + ((zpow p t).1 * p.2 + (zpow p t).2 * p.1) * ((zpow p t).1 * p.2 + (zpow p t).2 * p.1) = _
  generalize (zpow p t).1 = x
  generalize (zpow p t).2 = y
  grind
def zconj (p : Int × Int) : Int × Int:=(p.1,-p.2)
theorem zpow_conj (p : Int × Int) (t : Nat) : zpow (zconj p) t = zconj (zpow p t):=by
 induction t with
 | zero => rfl
 | succ t ih =>
  show zmul (zpow (zconj p) t) (zconj p) = zconj (zmul (zpow p t) p)
  rw [ih]
  unfold zmul zconj
  apply Prod.ext
  · show (zpow p t).1 * p.1 - -(zpow p t).2 * -p.2 = (zpow p t).1 * p.1 - (zpow p t).2 * p.2
    rw [Int.neg_mul_neg]
  · show (zpow p t).1 * -p.2 + -(zpow p t).2 * p.1 = -((zpow p t).1 * p.2 + (zpow p t).2 * p.1)
    rw [Int.mul_neg,Int.neg_mul]
    omega
theorem z_mod (f n e M re im : Int) (h : e * (f * f + n * n) = 2 * M) (hre : re = e * (f * f) - M) (him : im = e * (f * n)) (t : Nat) : ∃ u v,(zpow (re,im) (t + 1)).1 = e * f * (2 * e * (f * f)) ^ t * f + M * u /\ (zpow (re,im) (t + 1)).2 = e * f * (2 * e * (f * f)) ^ t * n + M * v:=by
 induction t with
 | zero =>
  refine ⟨-1,0,?_,?_⟩
  · show 1 * re - 0 * im = _
    rw [hre,Int.pow_zero]
    grind
  · show 1 * im + 0 * re = _
    rw [him,Int.pow_zero]
    grind
 | succ t ih =>
  obtain ⟨u,v,h1,h2⟩:=ih
  rw [Int.pow_succ]
  generalize hc : e * f * (2 * e * (f * f)) ^ t = c at h1 h2
  have hc' : e * f * ((2 * e * (f * f)) ^ t * (2 * e * (f * f))) = c * (2 * e * (f * f)):=by rw [<- hc,Int.mul_assoc (e * f)]
  rw [hc']
  refine ⟨u * re - v * im - 3 * (c * f),u * im + v * re - c * n,?_,?_⟩
  · show (zpow (re,im) (t + 1)).1 * re - (zpow (re,im) (t + 1)).2 * im = _
    rw [h1,h2]
    have k : c * f * (e * (f * f + n * n)) = c * f * (2 * M):=by rw [h]
    have e1 : (c * f + M * u) * re - (c * n + M * v) * im = c * f * re - c * n * im + M * (u * re - v * im):=by grind
    rw [e1,show c * f * re - c * n * im = c * f * (e * (f * f) - M) - c * n * (e * (f * n)) by rw [hre,him]]
    grind
  · show (zpow (re,im) (t + 1)).1 * im + (zpow (re,im) (t + 1)).2 * re = _
    rw [h1,h2]
    have e1 : (c * f + M * u) * im + (c * n + M * v) * re = c * f * im + c * n * re + M * (u * im + v * re):=by grind
    rw [e1,show c * f * im + c * n * re = c * f * (e * (f * n)) + c * n * (e * (f * f) - M) by rw [hre,him]]
    grind
theorem gcd_mul_one {x y z : Int} (h : Int.gcd x z = 1) (g : Int.gcd y z = 1) : Int.gcd (x * y) z = 1:=by
 show Nat.gcd (x * y).natAbs z.natAbs = 1
 rw [Int.natAbs_mul]
 exact Nat.Coprime.mul_left h g
theorem gcd_pow_one {x z : Int} (t : Nat) (h : Int.gcd x z = 1) : Int.gcd (x ^ t) z = 1:=by
 show Nat.gcd (x ^ t).natAbs z.natAbs = 1
 rw [Int.natAbs_pow]
 exact Nat.Coprime.pow_left t h
theorem gcd_one_pow {x z : Int} (t : Nat) (h : Int.gcd x z = 1) : Int.gcd x (z ^ t) = 1:=by
 rw [Int.gcd_comm]
 exact gcd_pow_one t (by rw [Int.gcd_comm]; exact h)
theorem gcd_two_odd {M : Int} (h : M % 2 = 1) : Int.gcd 2 M = 1:=by
 obtain ⟨k,hk⟩ : ∃ k,M = 1 + 2 * k:=⟨M / 2,by omega⟩
 rw [Int.gcd_comm,hk,Int.gcd_add_mul_left_left]
 rfl
theorem o_parts {f n : Int} (h : rOK f n) : ∃ e : Int,(e = 1 \/ e = 2) /\ e * (f * f + n * n) = 2 * oNm f n /\ oRe f n = e * (f * f) - oNm f n /\ oIm f n = e * (f * n) /\ oNm f n % 2 = 1 /\ 5 <= oNm f n /\ oNm f n <= 2000000 /\ Int.gcd f (oNm f n) = 1 /\ Int.gcd n (oNm f n) = 1:=by
 obtain ⟨h1,h2,h3,h4,h5,h6⟩:=h
 have hF:=osq f (by omega)
 have hN:=osq n h4
 have hg : Int.gcd f n = 1:=by
  show Nat.gcd f.natAbs n.natAbs = 1
  rw [show f.natAbs = f.toNat by omega]; exact h6
 have gf : Int.gcd f (f * f + n * n) = 1:=by
  rw [Int.gcd_comm,Int.add_comm,Int.gcd_add_mul_left_left,Int.gcd_comm]
  rw [Int.gcd_comm]
  exact gcd_mul_one (by rw [Int.gcd_comm]; exact hg) (by rw [Int.gcd_comm]; exact hg)
 have gn : Int.gcd n (f * f + n * n) = 1:=by
  rw [Int.gcd_comm,Int.gcd_add_mul_left_left]
  exact gcd_mul_one hg hg
 have hbig : 5 <= f * f + n * n /\ ((f * f + n * n) % 2 = 0 -> 10 <= f * f + n * n):=by
  have e2 : ((n.natAbs * n.natAbs : Nat) : Int) = n * n:=Int.natAbs_mul_self
  obtain ⟨a,ha⟩ : ∃ a : Nat,f = a:=⟨f.toNat,by omega⟩
  obtain ⟨b,hb⟩ : ∃ b : Nat,n.natAbs = b:=⟨_,rfl⟩
  rw [hb] at e2 h3 h4 h5 h6
  rw [<- e2,ha,show (a : Int) * a + ((b * b : Nat) : Int) = ((a * a + b * b : Nat) : Int) by simp]
  rw [ha] at h1 h2 h5 h6
  have h5' : a ≠ b:=fun e => h5 (by rw [e])
  have ha1 : 1 <= a:=by omega
  rcases Nat.lt_or_ge a 2 with q | q
  · have : a = 1:=by omega
    subst this
    have hb2 : 2 <= b:=by omega
    rcases Nat.lt_or_ge b 3 with r | r
    · have : b = 2:=by omega
      subst this
      decide
    · have:=Nat.mul_le_mul r r
      omega
  · rcases Nat.lt_or_ge b 2 with r | r
    · have : b = 1:=by omega
      subst this
      rcases Nat.lt_or_ge a 3 with s | s
      · have : a = 2:=by omega
        subst this
        decide
      · have:=Nat.mul_le_mul s s
        omega
    · rcases Nat.lt_or_ge a b with s | s
      · have q1:=Nat.mul_le_mul q q
        have q2 : 3 * 3 <= b * b:=Nat.mul_le_mul (by omega) (by omega)
        omega
      · have q1:=Nat.mul_le_mul r r
        have q2 : 3 * 3 <= a * a:=Nat.mul_le_mul (by omega) (by omega)
        omega
 by_cases hp : (f * f + n * n) % 2 = 0
 · have eN : oNm f n = (f * f + n * n) / 2:=by unfold oNm; rw [if_pos hp]
   have eR : oRe f n = (f * f - n * n) / 2:=by unfold oRe; rw [if_pos hp]
   have eI : oIm f n = f * n:=by unfold oIm; rw [if_pos hp]
   have odd : f % 2 = 1 /\ n % 2 = 1:=by
    have m1 : (f * f) % 2 = (f % 2) * (f % 2) % 2:=Int.mul_emod f f 2
    have m2 : (n * n) % 2 = (n % 2) * (n % 2) % 2:=Int.mul_emod n n 2
    have f0 : f % 2 = 0 \/ f % 2 = 1:=by omega
    have n0 : n % 2 = 0 \/ n % 2 = 1:=by omega
    rcases f0 with f0 | f0 <;> rcases n0 with n0 | n0 <;> rw [f0] at m1 <;> rw [n0] at m2
    · exfalso
      have d : (2 : Int) ∣ (Int.gcd f n : Int):=Int.dvd_coe_gcd (by omega) (by omega)
      rw [hg] at d
      omega
    · omega
    · omega
    · exact ⟨f0,n0⟩
   obtain ⟨a,ha⟩ : ∃ a,f = 2 * a + 1:=⟨f / 2,by omega⟩
   obtain ⟨b,hb⟩ : ∃ b,n = 2 * b + 1:=⟨n / 2,by omega⟩
   have hM : f * f + n * n = 2 * (2 * (a * a + a + b * b + b) + 1):=by rw [ha,hb]; grind
   have dM : oNm f n ∣ f * f + n * n:=⟨2,by rw [eN]; omega⟩
   have g1 : Int.gcd f (oNm f n) = 1:=Nat.Coprime.coprime_dvd_right (Int.natAbs_dvd_natAbs.2 dM) gf
   have g2 : Int.gcd n (oNm f n) = 1:=Nat.Coprime.coprime_dvd_right (Int.natAbs_dvd_natAbs.2 dM) gn
   have:=hbig.2 hp
   exact ⟨1,.inl rfl,by rw [eN]; omega,by rw [eN,eR]; omega,by rw [eI]; omega,by rw [eN]; omega,by rw [eN]; omega,by rw [eN]; omega,g1,g2⟩
 · have eN : oNm f n = f * f + n * n:=by unfold oNm; rw [if_neg hp]
   have eR : oRe f n = f * f - n * n:=by unfold oRe; rw [if_neg hp]
   have eI : oIm f n = 2 * (f * n):=by unfold oIm; rw [if_neg hp]
   exact ⟨2,.inr rfl,by rw [eN],by rw [eN,eR]; omega,eI,by rw [eN]; omega,by rw [eN]; exact hbig.1,by rw [eN]; omega,by rw [eN]; exact gf,by rw [eN]; exact gn⟩
theorem o_size {f n : Int} (h : rOK f n) : oRe f n * oRe f n + oIm f n * oIm f n = oNm f n * oNm f n:=by
 obtain ⟨e,he,h1,h2,h3,_⟩:=o_parts h
 generalize oNm f n = M at *
 rw [h2,h3]
 rcases he with rfl | rfl
 · have : 2 * M = f * f + n * n:=by omega
   grind
 · have : M = f * f + n * n:=by omega
   subst this
   grind
theorem o_low {f n : Int} (h : rOK f n) (t : Nat) : Int.gcd (zpow (oRe f n,oIm f n) t).1 (oNm f n ^ t) = 1 /\ Int.gcd (zpow (oRe f n,oIm f n) t).2 (oNm f n ^ t) = 1:=by
 cases t with
 | zero => exact ⟨by rw [Int.pow_zero]; exact Int.gcd_one_right _,by rw [Int.pow_zero]; exact Int.gcd_one_right _⟩
 | succ t =>
  obtain ⟨e,he,h1,h2,h3,h4,h5,h6,g1,g2⟩:=o_parts h
  have g0 : Int.gcd 2 (oNm f n) = 1:=gcd_two_odd h4
  have ge : Int.gcd e (oNm f n) = 1:=by
   rcases he with rfl | rfl
   · exact Int.one_gcd
   · exact g0
  obtain ⟨u,v,q1,q2⟩:=z_mod f n e (oNm f n) (oRe f n) (oIm f n) h1 h2 h3 t
  have gc : Int.gcd (e * f * (2 * e * (f * f)) ^ t) (oNm f n) = 1:=gcd_mul_one (gcd_mul_one ge g1) (gcd_pow_one t (gcd_mul_one (gcd_mul_one g0 ge) (gcd_mul_one g1 g1)))
  refine ⟨gcd_one_pow _ ?_,gcd_one_pow _ ?_⟩
  · rw [q1,Int.gcd_add_mul_left_left]; exact gcd_mul_one gc g1
  · rw [q2,Int.gcd_add_mul_left_left]; exact gcd_mul_one gc g2
theorem o_big {f n : Int} (h : rOK f n) (t : Nat) : (zpow (oRe f n,oIm f n) t).1.natAbs <= (oNm f n).natAbs ^ t /\ (zpow (oRe f n,oIm f n) t).2.natAbs <= (oNm f n).natAbs ^ t:=by
 have e:=zpow_norm (oRe f n,oIm f n) t
 have e2 : ((oRe f n,oIm f n).1 * (oRe f n,oIm f n).1 + (oRe f n,oIm f n).2 * (oRe f n,oIm f n).2) = oNm f n * oNm f n:=o_size h
 rw [e2,Int.mul_pow] at e
 generalize (zpow (oRe f n,oIm f n) t).1 = x at *
 generalize (zpow (oRe f n,oIm f n) t).2 = y at *
 have ex : ((x.natAbs * x.natAbs : Nat) : Int) = x * x:=Int.natAbs_mul_self
 have ey : ((y.natAbs * y.natAbs : Nat) : Int) = y * y:=Int.natAbs_mul_self
 have eN : (((oNm f n ^ t).natAbs * (oNm f n ^ t).natAbs : Nat) : Int) = oNm f n ^ t * oNm f n ^ t:=Int.natAbs_mul_self
 rw [<- ex,<- ey,<- eN,Int.natAbs_pow] at e
 generalize (oNm f n).natAbs ^ t = B at *
 have e' : x.natAbs * x.natAbs + y.natAbs * y.natAbs = B * B:=by omega
 constructor
 · apply Nat.le_of_not_lt
   intro hlt
   have:=Nat.mul_self_lt_mul_self hlt
   omega
 · apply Nat.le_of_not_lt
   intro hlt
   have:=Nat.mul_self_lt_mul_self hlt
   omega
end Go.Proofs.YtnhmaijmmkplkaaGreatDoor
namespace Go.Proofs.YtnhmaijmmkplkaaGreatDoor
set_option maxHeartbeats 12800000
open Go.RowKit
set_option linter.unusedVariables false
set_option linter.unusedSimpArgs false
theorem o_div1 (x : Int) : Rat.divInt x 1 = (x : Rat):=by
 rw [Rat.divInt_eq_div]
 show (x : Rat) / (1 : Rat) = (x : Rat)
 grind
def o2 (k : Nat) : Nat:=2 ^ k
theorem o2_lt {m n : Nat} (h : m < n) : o2 m < o2 n:=Nat.pow_lt_pow_right (by decide) h
theorem o2_mul (m n : Nat) : o2 m * o2 n = o2 (m + n):=(Nat.pow_add 2 m n).symm
theorem o2_wlim (k : Nat) : (4294967296 : Int) ^ k = ((o2 (32 * k) : Nat) : Int):=by
 unfold o2
 rw [Nat.pow_mul,Int.natCast_pow]
 rfl
def oL : Nat:=o2 60000
theorem oL_lt : (oL : Int) < wlim:=by
 unfold wlim
 rw [o2_wlim]
 exact Int.ofNat_lt.2 (o2_lt (by decide))
theorem oint_short {x : Int} (h : x.natAbs < oL) : ¬ rlong (x : Rat):=by
 have e:=oL_lt
 rintro (hh | hh)
 · rw [Rat.num_intCast] at hh; omega
 · rw [Rat.den_intCast] at hh
   have : (1 : Int) <= oL:=by omega
   omega
theorem omul_short {x y z t : Int} {B C : Nat} (hx : x.natAbs <= B) (hy : y.natAbs <= B) (hz : z.natAbs <= C) (ht : t.natAbs <= C) (hb : 2 * (B * C) < oL) : ¬ mlong (x : Rat) (y : Rat) (z : Rat) (t : Rat):=by
 have k : ∀ {a b : Int},a.natAbs <= B -> b.natAbs <= C -> (a * b).natAbs <= B * C:=fun ha hb => by rw [Int.natAbs_mul]; exact Nat.mul_le_mul ha hb
 have h1:=k hx hz
 have h2:=k hy ht
 have h3:=k hx ht
 have h4:=k hy hz
 unfold mlong
 rw [<- Rat.intCast_mul,<- Rat.intCast_mul,<- Rat.intCast_mul,<- Rat.intCast_mul,<- Rat.intCast_sub,<- Rat.intCast_add]
 have s : ∀ {a : Int},a.natAbs <= 2 * (B * C) -> ¬ rlong (a : Rat):=fun ha => oint_short (by omega)
 rintro (((h | h) | h) | ((h | h) | h))
 · exact s (by omega) h
 · exact s (by omega) h
 · exact s (by omega) h
 · exact s (by omega) h
 · exact s (by omega) h
 · exact s (by omega) h
theorem oMul_any (g h : G6) (q1 q2 r1 r2 : Rat) (w : World) (sg : g.Sl4 w) (sh : h.Sl4 w) (ig : g.Is q1 q2) (ih : h.Is r1 r2) (hl : ¬ mlong q1 q2 r1 r2) :
 Calls Tryz.prog 108 #[.agg #[.bool g.n,.slice g.a g.xs.length g.ca,.slice g.b g.ys.length g.cb,.bool g.m,.slice g.c g.us.length g.cc,.slice g.d g.vs.length g.cd],.agg #[.bool h.n,.slice h.a h.xs.length h.ca,.slice h.b h.ys.length h.cb,.bool h.m,.slice h.c h.us.length h.cc,.slice h.d h.vs.length h.cd]] w fun e w' => ∃ k : G6,e = .returned (.tuple #[.agg #[.bool k.n,.slice k.a k.xs.length k.ca,.slice k.b k.ys.length k.cb,.bool k.m,.slice k.c k.us.length k.cc,.slice k.d k.vs.length k.cd],.int .i64 0]) /\ Hid (k.Ow w' w.heap.size) /\ Hid (k.Is (q1 * r1 - q2 * r2) (q1 * r2 + q2 * r1)) /\ Hid (Below w.heap.size w w'):=by
 refine Calls.mono (gMul_full g.n g.a g.ca g.xs g.b g.cb g.ys g.m g.c g.cc g.us g.d g.cd g.vs h.n h.a h.ca h.xs h.b h.cb h.ys h.m h.c h.cc h.us h.d h.cd h.vs w sg.1 sg.2.1 sg.2.2.1 sg.2.2.2 sh.1 sh.2.1 sh.2.2.1 sh.2.2.2) ?_
 rw [ig.chk,ih.chk,ig.1.2,ig.2.1.2,ih.1.2,ih.2.1.2]
 rintro e w' ⟨n,a,ca,xs,b,cb,ys,m,c,cc,us,d,cd,vs,code,rfl,ho,ht,hb⟩
 obtain ⟨hc,h1,h2⟩:=ht.good (by unfold fstE; rfl) hl
 subst hc
 exact ⟨⟨n,a,ca,xs,b,cb,ys,m,c,cc,us,d,cd,vs⟩,rfl,ho,⟨h1,h2,ht.wd⟩,hb⟩
def OPw (g h : G6) (z : Int × Int) (M : Int) : Prop:=g.Is (z.1 : Rat) (z.2 : Rat) /\ h.Is (M : Rat) ((0 : Int) : Rat)
def OPt (w : World) (z : Int × Int) (M : Int) (x : Ending) (w' : World) : Prop:=∃ g h : G6,x = .returned (.agg #[.bool g.n,.slice g.a g.xs.length g.ca,.slice g.b g.ys.length g.cb,.bool g.m,.slice g.c g.us.length g.cc,.slice g.d g.vs.length g.cd,.bool h.n,.slice h.a h.xs.length h.ca,.slice h.b h.ys.length h.cb,.bool h.m,.slice h.c h.us.length h.cc,.slice h.d h.vs.length h.cd]) /\ Hid (g.Ow w' w.heap.size /\ h.Ow w' w.heap.size) /\ Hid (OPw g h z M) /\ Hid (Below w.heap.size w w')
set_option maxRecDepth 100000 in
theorem otimes_any (g h g2 h2 : G6) (z z2 : Int × Int) (M M2 : Int) (w : World) (sg : g.Sl4 w) (sh : h.Sl4 w) (sg2 : g2.Sl4 w) (sh2 : h2.Sl4 w) (hp : OPw g h z M) (hp2 : OPw g2 h2 z2 M2) (B C : Nat) (b1 : z.1.natAbs <= B) (b2 : z.2.natAbs <= B) (b3 : M.natAbs <= B) (c1 : z2.1.natAbs <= C) (c2 : z2.2.natAbs <= C) (c3 : M2.natAbs <= C) (hb : 2 * (B * C) < oL) :
 Calls Tryz.prog 204 #[.agg #[.bool g.n,.slice g.a g.xs.length g.ca,.slice g.b g.ys.length g.cb,.bool g.m,.slice g.c g.us.length g.cc,.slice g.d g.vs.length g.cd,.bool h.n,.slice h.a h.xs.length h.ca,.slice h.b h.ys.length h.cb,.bool h.m,.slice h.c h.us.length h.cc,.slice h.d h.vs.length h.cd],.agg #[.bool g2.n,.slice g2.a g2.xs.length g2.ca,.slice g2.b g2.ys.length g2.cb,.bool g2.m,.slice g2.c g2.us.length g2.cc,.slice g2.d g2.vs.length g2.cd,.bool h2.n,.slice h2.a h2.xs.length h2.ca,.slice h2.b h2.ys.length h2.cb,.bool h2.m,.slice h2.c h2.us.length h2.cc,.slice h2.d h2.vs.length h2.cd]] w (OPt w (zmul z z2) (M * M2)):=by
 have hl1:=omul_short b1 b2 c1 c2 hb
 have hl2 : ¬ mlong (M : Rat) ((0 : Int) : Rat) (M2 : Rat) ((0 : Int) : Rat):=omul_short b3 (Nat.zero_le _) c3 (Nat.zero_le _) hb
 clear b1 b2 b3 c1 c2 c3 hb
 obtain ⟨X,hX⟩ : ∃ X,((w.alloc (.cells #[.bool g.n,.slice g.a g.xs.length g.ca,.slice g.b g.ys.length g.cb,.bool g.m,.slice g.c g.us.length g.cc,.slice g.d g.vs.length g.cd,.bool h.n,.slice h.a h.xs.length h.ca,.slice h.b h.ys.length h.cb,.bool h.m,.slice h.c h.us.length h.cc,.slice h.d h.vs.length h.cd] 179)).alloc (.cells #[.bool g2.n,.slice g2.a g2.xs.length g2.ca,.slice g2.b g2.ys.length g2.cb,.bool g2.m,.slice g2.c g2.us.length g2.cc,.slice g2.d g2.vs.length g2.cd,.bool h2.n,.slice h2.a h2.xs.length h2.ca,.slice h2.b h2.ys.length h2.cb,.bool h2.m,.slice h2.c h2.us.length h2.cc,.slice h2.d h2.vs.length h2.cd] 179)).alloc (.cells #[.bool false,.slice none 0 0,.slice none 0 0,.bool false,.slice none 0 0,.slice none 0 0,.bool false,.slice none 0 0,.slice none 0 0,.bool false,.slice none 0 0,.slice none 0 0] 179) = X:=⟨_,rfl⟩
 have HX:=hid (boxes3r w 179 #[.bool g.n,.slice g.a g.xs.length g.ca,.slice g.b g.ys.length g.cb,.bool g.m,.slice g.c g.us.length g.cc,.slice g.d g.vs.length g.cd,.bool h.n,.slice h.a h.xs.length h.ca,.slice h.b h.ys.length h.cb,.bool h.m,.slice h.c h.us.length h.cc,.slice h.d h.vs.length h.cd] #[.bool g2.n,.slice g2.a g2.xs.length g2.ca,.slice g2.b g2.ys.length g2.cb,.bool g2.m,.slice g2.c g2.us.length g2.cc,.slice g2.d g2.vs.length g2.cd,.bool h2.n,.slice h2.a h2.xs.length h2.ca,.slice h2.b h2.ys.length h2.cb,.bool h2.m,.slice h2.c h2.us.length h2.cc,.slice h2.d h2.vs.length h2.cd] #[.bool false,.slice none 0 0,.slice none 0 0,.bool false,.slice none 0 0,.slice none 0 0,.bool false,.slice none 0 0,.slice none 0 0,.bool false,.slice none 0 0,.slice none 0 0])
 rw [hX] at HX
 have HM1 : Hid (∀ V,Below X.heap.size X V -> Calls Tryz.prog 108 #[.agg #[.bool g.n,.slice g.a g.xs.length g.ca,.slice g.b g.ys.length g.cb,.bool g.m,.slice g.c g.us.length g.cc,.slice g.d g.vs.length g.cd],.agg #[.bool g2.n,.slice g2.a g2.xs.length g2.ca,.slice g2.b g2.ys.length g2.cb,.bool g2.m,.slice g2.c g2.us.length g2.cc,.slice g2.d g2.vs.length g2.cd]] V fun e w' => ∃ k : G6,e = .returned (.tuple #[.agg #[.bool k.n,.slice k.a k.xs.length k.ca,.slice k.b k.ys.length k.cb,.bool k.m,.slice k.c k.us.length k.cc,.slice k.d k.vs.length k.cd],.int .i64 0]) /\ Hid (k.Ow w' V.heap.size) /\ Hid (k.Is ((z.1 : Rat) * z2.1 - z.2 * z2.2) ((z.1 : Rat) * z2.2 + z.2 * z2.1)) /\ Hid (Below V.heap.size V w')):=fun V hv => oMul_any g g2 _ _ _ _ V (sg.later (bt HX.out.2.2.2 hv)) (sg2.later (bt HX.out.2.2.2 hv)) hp.1 hp2.1 hl1
 have HM2 : Hid (∀ V,Below X.heap.size X V -> Calls Tryz.prog 108 #[.agg #[.bool h.n,.slice h.a h.xs.length h.ca,.slice h.b h.ys.length h.cb,.bool h.m,.slice h.c h.us.length h.cc,.slice h.d h.vs.length h.cd],.agg #[.bool h2.n,.slice h2.a h2.xs.length h2.ca,.slice h2.b h2.ys.length h2.cb,.bool h2.m,.slice h2.c h2.us.length h2.cc,.slice h2.d h2.vs.length h2.cd]] V fun e w' => ∃ k : G6,e = .returned (.tuple #[.agg #[.bool k.n,.slice k.a k.xs.length k.ca,.slice k.b k.ys.length k.cb,.bool k.m,.slice k.c k.us.length k.cc,.slice k.d k.vs.length k.cd],.int .i64 0]) /\ Hid (k.Ow w' V.heap.size) /\ Hid (k.Is ((M : Rat) * M2 - ((0 : Int) : Rat) * ((0 : Int) : Rat)) ((M : Rat) * ((0 : Int) : Rat) + ((0 : Int) : Rat) * M2)) /\ Hid (Below V.heap.size V w')):=fun V hv => oMul_any h h2 _ _ _ _ V (sh.later (bt HX.out.2.2.2 hv)) (sh2.later (bt HX.out.2.2.2 hv)) hp.2 hp2.2 hl2
 clear sg sh sg2 sh2 hp hp2 hl1 hl2
 have p0 : X.cell? ⟨w.heap.size,0,none⟩ = some (.bool g.n):=(HX.out.1).cell 0
 have p1 : X.cell? ⟨w.heap.size,1,none⟩ = some (.slice g.a g.xs.length g.ca):=(HX.out.1).cell 1
 have p2 : X.cell? ⟨w.heap.size,2,none⟩ = some (.slice g.b g.ys.length g.cb):=(HX.out.1).cell 2
 have p3 : X.cell? ⟨w.heap.size,3,none⟩ = some (.bool g.m):=(HX.out.1).cell 3
 have p4 : X.cell? ⟨w.heap.size,4,none⟩ = some (.slice g.c g.us.length g.cc):=(HX.out.1).cell 4
 have p5 : X.cell? ⟨w.heap.size,5,none⟩ = some (.slice g.d g.vs.length g.cd):=(HX.out.1).cell 5
 have s0 : X.cell? ⟨w.heap.size + 1,0,none⟩ = some (.bool g2.n):=(HX.out.2.1).cell 0
 have s1 : X.cell? ⟨w.heap.size + 1,1,none⟩ = some (.slice g2.a g2.xs.length g2.ca):=(HX.out.2.1).cell 1
 have s2 : X.cell? ⟨w.heap.size + 1,2,none⟩ = some (.slice g2.b g2.ys.length g2.cb):=(HX.out.2.1).cell 2
 have s3 : X.cell? ⟨w.heap.size + 1,3,none⟩ = some (.bool g2.m):=(HX.out.2.1).cell 3
 have s4 : X.cell? ⟨w.heap.size + 1,4,none⟩ = some (.slice g2.c g2.us.length g2.cc):=(HX.out.2.1).cell 4
 have s5 : X.cell? ⟨w.heap.size + 1,5,none⟩ = some (.slice g2.d g2.vs.length g2.cd):=(HX.out.2.1).cell 5
 have HD:=hid (HM1.out X (Below.refl _ _))
 clear HM1
 go_enter Tryz.func204,Tryz.ntmps204
 go_wp2_with fail
 clear hX
 refine Calls.mono HD.out ?_
 rintro e w1 ⟨k,rfl,hok,hik,hb1⟩
 clear HD p0 p1 p2 p3 p4 p5 s0 s1 s2 s3 s4 s5
 obtain ⟨Y,hY⟩ : ∃ Y,w1.alloc (.cells #[.bool false,.slice none 0 0,.slice none 0 0,.bool false,.slice none 0 0,.slice none 0 0] 35) = Y:=⟨_,rfl⟩
 have HY : Hid (Box Y w1.heap.size 35 #[.bool false,.slice none 0 0,.slice none 0 0,.bool false,.slice none 0 0,.slice none 0 0]):=by rw [<- hY]; exact Box.made w1 _ _
 have HYB : Hid (Below w1.heap.size w1 Y):=by rw [<- hY]; exact alloc_later _ _
 have HYX:=hid (bt hb1.out HYB.out)
 have zx:=HX.out.2.2.1.lt
 have zy:=hb1.out.size
 have zY : Y.heap.size = w1.heap.size + 1:=by rw [<- hY]; simp
 obtain ⟨A0,A1,A2,A3,A4,A5,qA0,qA1,qA2,qA3,qA4,qA5,⟨rA0,rA1,rA2,rA3,rA4,rA5⟩,⟨fA0,fA1,fA2,fA3,fA4,fA5⟩,HA⟩:=rchain6 HY.out (by decide) (.bool k.n) (.slice k.a k.xs.length k.ca) (.slice k.b k.ys.length k.cb) (.bool k.m) (.slice k.c k.us.length k.cc) (.slice k.d k.vs.length k.cd)
 have HA1:=hid (HA.out.2.1 _ _ _ (show w.heap.size ≠ w1.heap.size by omega) (HX.out.1.later HYX.out HX.out.1.lt))
 have HA2:=hid (HA.out.2.1 _ _ _ (show w.heap.size + 1 ≠ w1.heap.size by omega) (HX.out.2.1.later HYX.out HX.out.2.1.lt))
 have HA3:=hid (HA.out.2.1 _ _ _ (show w.heap.size + 1 + 1 ≠ w1.heap.size by omega) (HX.out.2.2.1.later HYX.out HX.out.2.2.1.lt))
 have HAX : Hid (Below X.heap.size X A5):=HA.out.2.2.2.1 _ _ zy HYX.out
 have zA : A5.heap.size = w1.heap.size + 1:=by rw [HA.out.2.2.2.2,zY]
 have p6 : A5.cell? ⟨w.heap.size,6,none⟩ = some (.bool h.n):=(HA1.out).cell 6
 have p7 : A5.cell? ⟨w.heap.size,7,none⟩ = some (.slice h.a h.xs.length h.ca):=(HA1.out).cell 7
 have p8 : A5.cell? ⟨w.heap.size,8,none⟩ = some (.slice h.b h.ys.length h.cb):=(HA1.out).cell 8
 have p9 : A5.cell? ⟨w.heap.size,9,none⟩ = some (.bool h.m):=(HA1.out).cell 9
 have p10 : A5.cell? ⟨w.heap.size,10,none⟩ = some (.slice h.c h.us.length h.cc):=(HA1.out).cell 10
 have p11 : A5.cell? ⟨w.heap.size,11,none⟩ = some (.slice h.d h.vs.length h.cd):=(HA1.out).cell 11
 have s6 : A5.cell? ⟨w.heap.size + 1,6,none⟩ = some (.bool h2.n):=(HA2.out).cell 6
 have s7 : A5.cell? ⟨w.heap.size + 1,7,none⟩ = some (.slice h2.a h2.xs.length h2.ca):=(HA2.out).cell 7
 have s8 : A5.cell? ⟨w.heap.size + 1,8,none⟩ = some (.slice h2.b h2.ys.length h2.cb):=(HA2.out).cell 8
 have s9 : A5.cell? ⟨w.heap.size + 1,9,none⟩ = some (.bool h2.m):=(HA2.out).cell 9
 have s10 : A5.cell? ⟨w.heap.size + 1,10,none⟩ = some (.slice h2.c h2.us.length h2.cc):=(HA2.out).cell 10
 have s11 : A5.cell? ⟨w.heap.size + 1,11,none⟩ = some (.slice h2.d h2.vs.length h2.cd):=(HA2.out).cell 11
 have HD:=hid (HM2.out A5 HAX.out)
 clear HM2
 go_wp2_with fail
 refine Calls.mono HD.out ?_
 rintro e w2 ⟨l,rfl,hol,hil,hb2⟩
 clear HD hY p6 s6 p7 s7 p8 s8 p9 s9 p10 s10 p11 s11 qA0 qA1 qA2 qA3 qA4 qA5 rA0 rA1 rA2 rA3 rA4 rA5 fA0 fA1 fA2 fA3 fA4 fA5
 obtain ⟨U,hU⟩ : ∃ U,w2.alloc (.cells #[.bool false,.slice none 0 0,.slice none 0 0,.bool false,.slice none 0 0,.slice none 0 0] 35) = U:=⟨_,rfl⟩
 have HU : Hid (Box U w2.heap.size 35 #[.bool false,.slice none 0 0,.slice none 0 0,.bool false,.slice none 0 0,.slice none 0 0]):=by rw [<- hU]; exact Box.made w2 _ _
 have HUB : Hid (Below w2.heap.size w2 U):=by rw [<- hU]; exact alloc_later _ _
 have HUX:=hid (bt hb2.out HUB.out)
 have zz:=hb2.out.size
 have zU : U.heap.size = w2.heap.size + 1:=by rw [<- hU]; simp
 obtain ⟨B0,B1,B2,B3,B4,B5,qB0,qB1,qB2,qB3,qB4,qB5,⟨rB0,rB1,rB2,rB3,rB4,rB5⟩,⟨fB0,fB1,fB2,fB3,fB4,fB5⟩,HB⟩:=rchain6 HU.out (by decide) (.bool l.n) (.slice l.a l.xs.length l.ca) (.slice l.b l.ys.length l.cb) (.bool l.m) (.slice l.c l.us.length l.cc) (.slice l.d l.vs.length l.cd)
 have HB1:=hid (HB.out.2.1 _ _ _ (show w1.heap.size ≠ w2.heap.size by omega) (HA.out.1.later HUX.out HA.out.1.lt))
 have HB3:=hid (HB.out.2.1 _ _ _ (show w.heap.size + 1 + 1 ≠ w2.heap.size by omega) (HA3.out.later HUX.out HA3.out.lt))
 have HBX : Hid (Below X.heap.size X B5):=HB.out.2.2.2.1 _ _ (by omega) (bt HAX.out HUX.out)
 have HBA : Hid (Below A5.heap.size A5 B5):=HB.out.2.2.2.1 _ _ (by omega) HUX.out
 have zB : B5.heap.size = w2.heap.size + 1:=by rw [HB.out.2.2.2.2,zU]
 have p0 : B5.cell? ⟨w1.heap.size,0,none⟩ = some (.bool k.n):=(HB1.out).cell 0
 have p1 : B5.cell? ⟨w1.heap.size,1,none⟩ = some (.slice k.a k.xs.length k.ca):=(HB1.out).cell 1
 have p2 : B5.cell? ⟨w1.heap.size,2,none⟩ = some (.slice k.b k.ys.length k.cb):=(HB1.out).cell 2
 have p3 : B5.cell? ⟨w1.heap.size,3,none⟩ = some (.bool k.m):=(HB1.out).cell 3
 have p4 : B5.cell? ⟨w1.heap.size,4,none⟩ = some (.slice k.c k.us.length k.cc):=(HB1.out).cell 4
 have p5 : B5.cell? ⟨w1.heap.size,5,none⟩ = some (.slice k.d k.vs.length k.cd):=(HB1.out).cell 5
 have s0 : B5.cell? ⟨w2.heap.size,0,none⟩ = some (.bool l.n):=(HB.out.1).cell 0
 have s1 : B5.cell? ⟨w2.heap.size,1,none⟩ = some (.slice l.a l.xs.length l.ca):=(HB.out.1).cell 1
 have s2 : B5.cell? ⟨w2.heap.size,2,none⟩ = some (.slice l.b l.ys.length l.cb):=(HB.out.1).cell 2
 have s3 : B5.cell? ⟨w2.heap.size,3,none⟩ = some (.bool l.m):=(HB.out.1).cell 3
 have s4 : B5.cell? ⟨w2.heap.size,4,none⟩ = some (.slice l.c l.us.length l.cc):=(HB.out.1).cell 4
 have s5 : B5.cell? ⟨w2.heap.size,5,none⟩ = some (.slice l.d l.vs.length l.cd):=(HB.out.1).cell 5
 obtain ⟨C0,C1,C2,C3,C4,C5,C6,C7,C8,C9,C10,C11,qC0,qC1,qC2,qC3,qC4,qC5,qC6,qC7,qC8,qC9,qC10,qC11,⟨rC0,rC1,rC2,rC3,rC4,rC5,rC6,rC7,rC8,rC9,rC10,rC11⟩,⟨fC0,fC1,fC2,fC3,fC4,fC5,fC6,fC7,fC8,fC9,fC10,fC11⟩,HC⟩:=rchain12 HB3.out (by decide) (.bool k.n) (.slice k.a k.xs.length k.ca) (.slice k.b k.ys.length k.cb) (.bool k.m) (.slice k.c k.us.length k.cc) (.slice k.d k.vs.length k.cd) (.bool l.n) (.slice l.a l.xs.length l.ca) (.slice l.b l.ys.length l.cb) (.bool l.m) (.slice l.c l.us.length l.cc) (.slice l.d l.vs.length l.cd)
 go_wp2_with fail
 refine bodyPost_ret (results_cell_row (by rfl) _ _ (w.heap.size + 1 + 1) 179 _ (0,0) _ (by rfl) HC.out.1 Tryz.underlying179 rfl (by kernel_rfl)) rfl ?_
 have zw:=HX.out.2.2.2.size
 have okk : k.Ow B5 w.heap.size:=by
  have q1:=hok.out.later HYB.out
  have P1:=HA.out.2.2.1
  have q2 : k.Ow A5 X.heap.size:=⟨P1 _ _ _ _ q1.1,P1 _ _ _ _ q1.2.1,P1 _ _ _ _ q1.2.2.1,P1 _ _ _ _ q1.2.2.2⟩
  exact (q2.later HBA.out).base zw
 have oll : l.Ow B5 w.heap.size:=by
  have q1:=hol.out.later HUB.out
  have P1:=HB.out.2.2.1
  have q2 : l.Ow B5 A5.heap.size:=⟨P1 _ _ _ _ q1.1,P1 _ _ _ _ q1.2.1,P1 _ _ _ _ q1.2.2.1,P1 _ _ _ _ q1.2.2.2⟩
  exact q2.base (by omega)
 have P:=HC.out.2.2.1
 refine ⟨k,l,rfl,⟨⟨P _ _ _ _ okk.1,P _ _ _ _ okk.2.1,P _ _ _ _ okk.2.2.1,P _ _ _ _ okk.2.2.2⟩,⟨P _ _ _ _ oll.1,P _ _ _ _ oll.2.1,P _ _ _ _ oll.2.2.1,P _ _ _ _ oll.2.2.2⟩⟩,⟨?_,?_⟩,HC.out.2.2.2.1 _ _ (by omega) (bt HX.out.2.2.2 HBX.out)⟩
 · have q:=hik.out
   rw [<- Rat.intCast_mul,<- Rat.intCast_mul,<- Rat.intCast_mul,<- Rat.intCast_mul,<- Rat.intCast_sub,<- Rat.intCast_add] at q
   exact q
 · have q:=hil.out
   rw [<- Rat.intCast_mul,<- Rat.intCast_mul,<- Rat.intCast_mul,<- Rat.intCast_mul,<- Rat.intCast_sub,<- Rat.intCast_add,show M * M2 - 0 * 0 = M * M2 by omega,show M * 0 + 0 * M2 = 0 by omega] at q
   exact q
set_option maxRecDepth 100000 in
theorem oone_any (w : World) : Calls Tryz.prog 203 #[] w (OPt w (1,0) 1):=by
 obtain ⟨X,hX⟩ : ∃ X,w.alloc (.cells #[.bool false,.slice none 0 0,.slice none 0 0,.bool false,.slice none 0 0,.slice none 0 0,.bool false,.slice none 0 0,.slice none 0 0,.bool false,.slice none 0 0,.slice none 0 0] 179) = X:=⟨_,rfl⟩
 have HZ : Hid (Box X w.heap.size 179 #[.bool false,.slice none 0 0,.slice none 0 0,.bool false,.slice none 0 0,.slice none 0 0,.bool false,.slice none 0 0,.slice none 0 0,.bool false,.slice none 0 0,.slice none 0 0]):=by rw [<- hX]; exact Box.made w _ _
 have HB : Hid (Below w.heap.size w X):=by rw [<- hX]; exact alloc_later _ _
 have HI:=hid (fun V => oInt_any 1 0 V (by decide) (by decide) (by decide) (by decide))
 have HD:=hid (HI.out X)
 go_enter Tryz.func203,Tryz.ntmps203
 go_wp2_with fail
 clear hX
 refine Calls.mono HD.out ?_
 rintro e w1 ⟨g,rfl,hog,hig,hb1⟩
 clear HD
 have HD:=hid (HI.out w1)
 clear HI
 go_wp2_with fail
 refine Calls.mono HD.out ?_
 rintro e w2 ⟨h,rfl,hoh,hih,hb2⟩
 clear HD
 have HBB:=hid (bt hb1.out hb2.out)
 obtain ⟨C0,C1,C2,C3,C4,C5,C6,C7,C8,C9,C10,C11,qC0,qC1,qC2,qC3,qC4,qC5,qC6,qC7,qC8,qC9,qC10,qC11,⟨rC0,rC1,rC2,rC3,rC4,rC5,rC6,rC7,rC8,rC9,rC10,rC11⟩,⟨fC0,fC1,fC2,fC3,fC4,fC5,fC6,fC7,fC8,fC9,fC10,fC11⟩,HC⟩:=rchain12 (HZ.out.later HBB.out HZ.out.lt) (by decide) (.bool g.n) (.slice g.a g.xs.length g.ca) (.slice g.b g.ys.length g.cb) (.bool g.m) (.slice g.c g.us.length g.cc) (.slice g.d g.vs.length g.cd) (.bool h.n) (.slice h.a h.xs.length h.ca) (.slice h.b h.ys.length h.cb) (.bool h.m) (.slice h.c h.us.length h.cc) (.slice h.d h.vs.length h.cd)
 go_wp2_with fail
 refine bodyPost_ret (results_cell_row (by rfl) _ _ w.heap.size 179 _ (0,0) _ (by rfl) HC.out.1 Tryz.underlying179 rfl (by kernel_rfl)) rfl ?_
 have z1:=HB.out.size
 have z2:=hb1.out.size
 have P:=HC.out.2.2.1
 have o1:=(hog.out.later hb2.out).base z1
 have o2:=hoh.out.base (show w.heap.size <= w1.heap.size by omega)
 have i1:=hig.out
 have i2:=hih.out
 rw [o_div1,o_div1] at i1 i2
 exact ⟨g,h,rfl,⟨⟨P _ _ _ _ o1.1,P _ _ _ _ o1.2.1,P _ _ _ _ o1.2.2.1,P _ _ _ _ o1.2.2.2⟩,⟨P _ _ _ _ o2.1,P _ _ _ _ o2.2.1,P _ _ _ _ o2.2.2.1,P _ _ _ _ o2.2.2.2⟩⟩,⟨i1,i2⟩,HC.out.2.2.2.1 _ _ (Nat.le_refl _) (bt HB.out HBB.out)⟩
theorem o_and1 : ∀ T : Nat,T < 1025 -> bits .and .i64 (T : Int) 1 = ((T % 2 : Nat) : Int):=by decide +kernel
def OSl (w wr : World) (g : G6) : Prop:=g.Ow wr w.heap.size \/ g.Sl4 w
theorem OSl.sl {w wr : World} {g : G6} {q1 q2 : Rat} (h : OSl w wr g) (i : g.Is q1 q2) (hb : Below w.heap.size w wr) : g.Sl4 wr:=by
 rcases h with h | h
 · exact h.sl i
 · exact h.later hb
theorem OSl.later {w wr V : World} {g : G6} (h : OSl w wr g) (hb : Below wr.heap.size wr V) : OSl w V g:=by
 rcases h with h | h
 · exact .inl (h.later hb)
 · exact .inr h
theorem OSl.put {w wr V : World} {g : G6} (h : OSl w wr g) (P : ∀ base v n xs,wr.ownsRow base 69 1 v n xs -> V.ownsRow base 69 1 v n xs) : OSl w V g:=by
 rcases h with h | h
 · exact .inl ⟨P _ _ _ _ h.1,P _ _ _ _ h.2.1,P _ _ _ _ h.2.2.1,P _ _ _ _ h.2.2.2⟩
 · exact .inr h
theorem ow_put {wr V : World} {g : G6} {base : Nat} (h : g.Ow wr base) (P : ∀ base v n xs,wr.ownsRow base 69 1 v n xs -> V.ownsRow base 69 1 v n xs) : g.Ow V base:=⟨P _ _ _ _ h.1,P _ _ _ _ h.2.1,P _ _ _ _ h.2.2.1,P _ _ _ _ h.2.2.2⟩
structure OLp (f n : Int) (w : World) (pb mb : Nat) (i j : Nat) (g h k l : G6) (wr : World) : Prop where
 sp : OSl w wr g /\ OSl w wr h
 vp : OPw g h (zpow (oRe f n,oIm f n) j) (oNm f n ^ j)
 bp : Box wr pb 179 #[.bool g.n,.slice g.a g.xs.length g.ca,.slice g.b g.ys.length g.cb,.bool g.m,.slice g.c g.us.length g.cc,.slice g.d g.vs.length g.cd,.bool h.n,.slice h.a h.xs.length h.ca,.slice h.b h.ys.length h.cb,.bool h.m,.slice h.c h.us.length h.cc,.slice h.d h.vs.length h.cd]
 om : k.Ow wr w.heap.size /\ l.Ow wr w.heap.size
 vm : OPw k l (zpow (oRe f n,oIm f n) i) (oNm f n ^ i)
 bm : Box wr mb 179 #[.bool k.n,.slice k.a k.xs.length k.ca,.slice k.b k.ys.length k.cb,.bool k.m,.slice k.c k.us.length k.cc,.slice k.d k.vs.length k.cd,.bool l.n,.slice l.a l.xs.length l.ca,.slice l.b l.ys.length l.cb,.bool l.m,.slice l.c l.us.length l.cc,.slice l.d l.vs.length l.cd]
 br : Box wr (w.heap.size + 1) 179 #[.bool false,.slice none 0 0,.slice none 0 0,.bool false,.slice none 0 0,.slice none 0 0,.bool false,.slice none 0 0,.slice none 0 0,.bool false,.slice none 0 0,.slice none 0 0]
 bel : Below w.heap.size w wr
def OPut (w2 : World) (b : Nat) (vs : Array Value) (V : World) : Prop:=Box V b 179 vs /\ (∀ p t' vs,p ≠ b -> Box w2 p t' vs -> Box V p t' vs) /\ (∀ base v n xs,w2.ownsRow base 69 1 v n xs -> V.ownsRow base 69 1 v n xs) /\ (∀ B x,B <= b -> Below B x w2 -> Below B x V) /\ V.heap.size = w2.heap.size
theorem OLp.mul {f n : Int} {w wr w2 V : World} {mb i j : Nat} {g h k l k2 l2 : G6} (a : OLp f n w w.heap.size mb i j g h k l wr) (hm : w.heap.size + 1 < mb) (hb : Below wr.heap.size wr w2) (ho : k2.Ow w2 wr.heap.size /\ l2.Ow w2 wr.heap.size) (hi : OPw k2 l2 (zpow (oRe f n,oIm f n) (i + j)) (oNm f n ^ (i + j))) (c : OPut w2 mb #[.bool k2.n,.slice k2.a k2.xs.length k2.ca,.slice k2.b k2.ys.length k2.cb,.bool k2.m,.slice k2.c k2.us.length k2.cc,.slice k2.d k2.vs.length k2.cd,.bool l2.n,.slice l2.a l2.xs.length l2.ca,.slice l2.b l2.ys.length l2.cb,.bool l2.m,.slice l2.c l2.us.length l2.cc,.slice l2.d l2.vs.length l2.cd] V) : OLp f n w w.heap.size mb (i + j) j g h k2 l2 V where
 sp:=⟨(a.sp.1.later hb).put c.2.2.1,(a.sp.2.later hb).put c.2.2.1⟩
 vp:=a.vp
 bp:=c.2.1 _ _ _ (by omega) (a.bp.later hb a.bp.lt)
 om:=⟨ow_put (ho.1.base a.bel.size) c.2.2.1,ow_put (ho.2.base a.bel.size) c.2.2.1⟩
 vm:=hi
 bm:=c.1
 br:=c.2.1 _ _ _ (by omega) (a.br.later hb a.br.lt)
 bel:=c.2.2.2.1 _ _ (by omega) (bt a.bel hb)
theorem OLp.sq {f n : Int} {w wr w2 V : World} {mb i j : Nat} {g h k l g2 h2 : G6} (a : OLp f n w w.heap.size mb i j g h k l wr) (hm : w.heap.size + 1 < mb) (hb : Below wr.heap.size wr w2) (ho : g2.Ow w2 wr.heap.size /\ h2.Ow w2 wr.heap.size) (hi : OPw g2 h2 (zpow (oRe f n,oIm f n) (j + j)) (oNm f n ^ (j + j))) (c : OPut w2 w.heap.size #[.bool g2.n,.slice g2.a g2.xs.length g2.ca,.slice g2.b g2.ys.length g2.cb,.bool g2.m,.slice g2.c g2.us.length g2.cc,.slice g2.d g2.vs.length g2.cd,.bool h2.n,.slice h2.a h2.xs.length h2.ca,.slice h2.b h2.ys.length h2.cb,.bool h2.m,.slice h2.c h2.us.length h2.cc,.slice h2.d h2.vs.length h2.cd] V) : OLp f n w w.heap.size mb i (j + j) g2 h2 k l V where
 sp:=⟨.inl (ow_put (ho.1.base a.bel.size) c.2.2.1),.inl (ow_put (ho.2.base a.bel.size) c.2.2.1)⟩
 vp:=hi
 bp:=c.1
 om:=⟨ow_put (a.om.1.later hb) c.2.2.1,ow_put (a.om.2.later hb) c.2.2.1⟩
 vm:=a.vm
 bm:=c.2.1 _ _ _ (by omega) (a.bm.later hb a.bm.lt)
 br:=c.2.1 _ _ _ (by omega) (a.br.later hb a.br.lt)
 bel:=c.2.2.2.1 _ _ (Nat.le_refl _) (bt a.bel hb)
theorem o_size2 {f n : Int} (h : rOK f n) (t : Nat) : (zpow (oRe f n,oIm f n) t).1.natAbs <= o2 (21 * t) /\ (zpow (oRe f n,oIm f n) t).2.natAbs <= o2 (21 * t) /\ (oNm f n ^ t).natAbs <= o2 (21 * t):=by
 obtain ⟨e,_,_,_,_,_,h5,h6,_⟩:=o_parts h
 have h1 : (oNm f n).natAbs ^ t <= o2 (21 * t):=by
  unfold o2
  rw [Nat.pow_mul]
  exact Nat.pow_le_pow_left (by omega) t
 have h2:=o_big h t
 exact ⟨Nat.le_trans h2.1 h1,Nat.le_trans h2.2 h1,by rw [Int.natAbs_pow]; exact h1⟩
theorem o_lim {i j : Nat} (h : i + j <= 2048) : 2 * (o2 (21 * i) * o2 (21 * j)) < oL:=by
 rw [o2_mul,show 2 * o2 (21 * i + 21 * j) = o2 (1 + (21 * i + 21 * j)) from o2_mul 1 _]
 exact o2_lt (by omega)
theorem o_mulE (f n : Int) (i j : Nat) : zmul (zpow (oRe f n,oIm f n) i) (zpow (oRe f n,oIm f n) j) = zpow (oRe f n,oIm f n) (i + j):=(zpow_add _ _ _).symm
theorem o_nmE (f n : Int) (i j : Nat) : oNm f n ^ i * oNm f n ^ j = oNm f n ^ (i + j):=(Int.pow_add _ _ _).symm
theorem otimes_pow {f n : Int} (hr : rOK f n) (i j : Nat) (hij : i + j <= 2048) (g h g2 h2 : G6) (w : World) (sg : g.Sl4 w) (sh : h.Sl4 w) (sg2 : g2.Sl4 w) (sh2 : h2.Sl4 w) (hp : OPw g h (zpow (oRe f n,oIm f n) i) (oNm f n ^ i)) (hp2 : OPw g2 h2 (zpow (oRe f n,oIm f n) j) (oNm f n ^ j)) :
 Calls Tryz.prog 204 #[.agg #[.bool g.n,.slice g.a g.xs.length g.ca,.slice g.b g.ys.length g.cb,.bool g.m,.slice g.c g.us.length g.cc,.slice g.d g.vs.length g.cd,.bool h.n,.slice h.a h.xs.length h.ca,.slice h.b h.ys.length h.cb,.bool h.m,.slice h.c h.us.length h.cc,.slice h.d h.vs.length h.cd],.agg #[.bool g2.n,.slice g2.a g2.xs.length g2.ca,.slice g2.b g2.ys.length g2.cb,.bool g2.m,.slice g2.c g2.us.length g2.cc,.slice g2.d g2.vs.length g2.cd,.bool h2.n,.slice h2.a h2.xs.length h2.ca,.slice h2.b h2.ys.length h2.cb,.bool h2.m,.slice h2.c h2.us.length h2.cc,.slice h2.d h2.vs.length h2.cd]] w (OPt w (zpow (oRe f n,oIm f n) (i + j)) (oNm f n ^ (i + j))):=by
 have a:=o_size2 hr i
 have b:=o_size2 hr j
 have q:=otimes_any g h g2 h2 _ _ _ _ w sg sh sg2 sh2 hp hp2 _ _ a.1 a.2.1 a.2.2 b.1 b.2.1 b.2.2 (o_lim hij)
 rw [o_mulE,o_nmE] at q
 exact q
set_option maxRecDepth 100000 in
theorem oto_any (f n : Int) (hr : rOK f n) (g h : G6) (N : Nat) (hN : N <= 1024) (w : World) (sg : g.Sl4 w) (sh : h.Sl4 w) (hp : OPw g h (oRe f n,oIm f n) (oNm f n)) :
 Calls Tryz.prog 162 #[.agg #[.bool g.n,.slice g.a g.xs.length g.ca,.slice g.b g.ys.length g.cb,.bool g.m,.slice g.c g.us.length g.cc,.slice g.d g.vs.length g.cd,.bool h.n,.slice h.a h.xs.length h.ca,.slice h.b h.ys.length h.cb,.bool h.m,.slice h.c h.us.length h.cc,.slice h.d h.vs.length h.cd],.int .i64 (N : Int)] w (OPt w (zpow (oRe f n,oIm f n) N) (oNm f n ^ N)):=by
 obtain ⟨X,hX⟩ : ∃ X,(w.alloc (.cells #[.bool g.n,.slice g.a g.xs.length g.ca,.slice g.b g.ys.length g.cb,.bool g.m,.slice g.c g.us.length g.cc,.slice g.d g.vs.length g.cd,.bool h.n,.slice h.a h.xs.length h.ca,.slice h.b h.ys.length h.cb,.bool h.m,.slice h.c h.us.length h.cc,.slice h.d h.vs.length h.cd] 179)).alloc (.cells #[.bool false,.slice none 0 0,.slice none 0 0,.bool false,.slice none 0 0,.slice none 0 0,.bool false,.slice none 0 0,.slice none 0 0,.bool false,.slice none 0 0,.slice none 0 0] 179) = X:=⟨_,rfl⟩
 have HX:=hid (boxes2r w 179 #[.bool g.n,.slice g.a g.xs.length g.ca,.slice g.b g.ys.length g.cb,.bool g.m,.slice g.c g.us.length g.cc,.slice g.d g.vs.length g.cd,.bool h.n,.slice h.a h.xs.length h.ca,.slice h.b h.ys.length h.cb,.bool h.m,.slice h.c h.us.length h.cc,.slice h.d h.vs.length h.cd] #[.bool false,.slice none 0 0,.slice none 0 0,.bool false,.slice none 0 0,.slice none 0 0,.bool false,.slice none 0 0,.slice none 0 0,.bool false,.slice none 0 0,.slice none 0 0])
 rw [hX] at HX
 have HD:=hid (oone_any X)
 have HS:=hid (And.intro sg sh)
 have HP : Hid (OPw g h (zpow (oRe f n,oIm f n) 1) (oNm f n ^ 1)):=by
  have e : zpow (oRe f n,oIm f n) 1 = (oRe f n,oIm f n):=by
   show zmul (1,0) (oRe f n,oIm f n) = (oRe f n,oIm f n)
   unfold zmul
   simp
  rw [e,Int.pow_succ,Int.pow_zero,Int.one_mul]; exact hp
 have HR:=hid hr
 clear sg sh hp hr
 go_enter Tryz.func162,Tryz.ntmps162
 go_wp2_with fail
 clear hX
 refine Calls.mono HD.out ?_
 rintro e w1 ⟨k,l,rfl,ho,hi,hb⟩
 clear HD
 obtain ⟨Y,hY⟩ : ∃ Y,w1.alloc (.cells #[.bool false,.slice none 0 0,.slice none 0 0,.bool false,.slice none 0 0,.slice none 0 0,.bool false,.slice none 0 0,.slice none 0 0,.bool false,.slice none 0 0,.slice none 0 0] 179) = Y:=⟨_,rfl⟩
 have HY : Hid (Box Y w1.heap.size 179 #[.bool false,.slice none 0 0,.slice none 0 0,.bool false,.slice none 0 0,.slice none 0 0,.bool false,.slice none 0 0,.slice none 0 0,.bool false,.slice none 0 0,.slice none 0 0]):=by rw [<- hY]; exact Box.made w1 _ _
 have HYB : Hid (Below w1.heap.size w1 Y):=by rw [<- hY]; exact alloc_later _ _
 have HYX:=hid (bt hb.out HYB.out)
 have zx:=HX.out.2.1.lt
 have zy:=hb.out.size
 have zw:=HX.out.2.2.size
 obtain ⟨A0,A1,A2,A3,A4,A5,A6,A7,A8,A9,A10,A11,qA0,qA1,qA2,qA3,qA4,qA5,qA6,qA7,qA8,qA9,qA10,qA11,⟨rA0,rA1,rA2,rA3,rA4,rA5,rA6,rA7,rA8,rA9,rA10,rA11⟩,⟨fA0,fA1,fA2,fA3,fA4,fA5,fA6,fA7,fA8,fA9,fA10,fA11⟩,HA⟩:=rchain12 HY.out (by decide) (.bool k.n) (.slice k.a k.xs.length k.ca) (.slice k.b k.ys.length k.cb) (.bool k.m) (.slice k.c k.us.length k.cc) (.slice k.d k.vs.length k.cd) (.bool l.n) (.slice l.a l.xs.length l.ca) (.slice l.b l.ys.length l.cb) (.bool l.m) (.slice l.c l.us.length l.cc) (.slice l.d l.vs.length l.cd)
 have HA1:=hid (HA.out.2.1 _ _ _ (show w.heap.size ≠ w1.heap.size by omega) (HX.out.1.later HYX.out HX.out.1.lt))
 have HA2:=hid (HA.out.2.1 _ _ _ (show w.heap.size + 1 ≠ w1.heap.size by omega) (HX.out.2.1.later HYX.out HX.out.2.1.lt))
 have HAX : Hid (Below w.heap.size w A11):=HA.out.2.2.2.1 _ _ (by omega) (bt HX.out.2.2 HYX.out)
 have HST : Hid (OLp f n w w.heap.size w1.heap.size 0 1 g h k l A11):=⟨⟨.inr HS.out.1,.inr HS.out.2⟩,HP.out,HA1.out,⟨ow_put ((ho.out.1.later HYB.out).base zw) HA.out.2.2.1,ow_put ((ho.out.2.later HYB.out).base zw) HA.out.2.2.1⟩,(by rw [Int.pow_zero]; exact hi.out),HA.out.1,HA2.out,HAX.out⟩
 clear HS HP ho hi hb HYX HYB HY HAX HA1 HA2 HX
 go_wp2_with fail
 clear hY qA0 qA1 qA2 qA3 qA4 qA5 qA6 qA7 qA8 qA9 qA10 qA11 rA0 rA1 rA2 rA3 rA4 rA5 rA6 rA7 rA8 rA9 rA10 rA11 fA0 fA1 fA2 fA3 fA4 fA5 fA6 fA7 fA8 fA9 fA10 fA11 HA
 go_loopw [1] (fun t wr => ∃ (T i j : Nat) (g h k l : G6),T <= 1024 /\ t = .int .i64 (T : Int) /\ i + j * T = N /\ Hid (OLp f n w w.heap.size w1.heap.size i j g h k l wr)) (fun t _ => (intOf t).toNat)
 case atStart => exact ⟨N,0,1,g,h,k,l,hN,rfl,by omega,HST⟩
 case round =>
  clear HST
  obtain ⟨T,i,j,g,h,k,l,hT,rfl,hsum,HI⟩:=hrel
  have hmb : w.heap.size + 1 < w1.heap.size:=by omega
  rcases Nat.eq_zero_or_pos T with hT0 | hT0
  · subst hT0
    have m0 : wr.cell? ⟨w1.heap.size,0,none⟩ = some (.bool k.n):=(HI.out.bm).cell 0
    have m1 : wr.cell? ⟨w1.heap.size,1,none⟩ = some (.slice k.a k.xs.length k.ca):=(HI.out.bm).cell 1
    have m2 : wr.cell? ⟨w1.heap.size,2,none⟩ = some (.slice k.b k.ys.length k.cb):=(HI.out.bm).cell 2
    have m3 : wr.cell? ⟨w1.heap.size,3,none⟩ = some (.bool k.m):=(HI.out.bm).cell 3
    have m4 : wr.cell? ⟨w1.heap.size,4,none⟩ = some (.slice k.c k.us.length k.cc):=(HI.out.bm).cell 4
    have m5 : wr.cell? ⟨w1.heap.size,5,none⟩ = some (.slice k.d k.vs.length k.cd):=(HI.out.bm).cell 5
    have m6 : wr.cell? ⟨w1.heap.size,6,none⟩ = some (.bool l.n):=(HI.out.bm).cell 6
    have m7 : wr.cell? ⟨w1.heap.size,7,none⟩ = some (.slice l.a l.xs.length l.ca):=(HI.out.bm).cell 7
    have m8 : wr.cell? ⟨w1.heap.size,8,none⟩ = some (.slice l.b l.ys.length l.cb):=(HI.out.bm).cell 8
    have m9 : wr.cell? ⟨w1.heap.size,9,none⟩ = some (.bool l.m):=(HI.out.bm).cell 9
    have m10 : wr.cell? ⟨w1.heap.size,10,none⟩ = some (.slice l.c l.us.length l.cc):=(HI.out.bm).cell 10
    have m11 : wr.cell? ⟨w1.heap.size,11,none⟩ = some (.slice l.d l.vs.length l.cd):=(HI.out.bm).cell 11
    have eN : i = N:=by omega
    subst eN
    obtain ⟨A0,A1,A2,A3,A4,A5,A6,A7,A8,A9,A10,A11,qA0,qA1,qA2,qA3,qA4,qA5,qA6,qA7,qA8,qA9,qA10,qA11,⟨rA0,rA1,rA2,rA3,rA4,rA5,rA6,rA7,rA8,rA9,rA10,rA11⟩,⟨fA0,fA1,fA2,fA3,fA4,fA5,fA6,fA7,fA8,fA9,fA10,fA11⟩,HA⟩:=rchain12 HI.out.br (by decide) (.bool k.n) (.slice k.a k.xs.length k.ca) (.slice k.b k.ys.length k.cb) (.bool k.m) (.slice k.c k.us.length k.cc) (.slice k.d k.vs.length k.cd) (.bool l.n) (.slice l.a l.xs.length l.ca) (.slice l.b l.ys.length l.cb) (.bool l.m) (.slice l.c l.us.length l.cc) (.slice l.d l.vs.length l.cd)
    go_wp2_with fail
    refine bodyPost_ret (results_cell_row (by rfl) _ _ (w.heap.size + 1) 179 _ (0,0) _ (by rfl) HA.out.1 Tryz.underlying179 rfl (by kernel_rfl)) rfl ?_
    exact ⟨k,l,rfl,⟨ow_put HI.out.om.1 HA.out.2.2.1,ow_put HI.out.om.2 HA.out.2.2.1⟩,HI.out.vm,HA.out.2.2.2.1 _ _ (by omega) HI.out.bel⟩
  · have hand:=o_and1 T (by omega)
    have hq0 : (0 : Int) < (T : Int):=by omega
    have hij : i + j <= N:=by have h2 : j * 1 <= j * T:=Nat.mul_le_mul_left j hT0; omega
    rcases Nat.mod_two_eq_zero_or_one T with hpar | hpar
    · rw [hpar] at hand
      have hq1 : (1 : Int) < (T : Int):=by omega
      have hT2 : T = 2 * (T / 2):=by omega
      have hjj : j + j <= N:=by have h2 : j * 2 <= j * T:=Nat.mul_le_mul_left j (by omega); omega
      have hs2 : Hid (i + (j + j) * (T / 2) = N):=by
       show _ = _
       rw [<- hsum]
       have e : j * T = (j + j) * (T / 2):=by rw [<- Nat.two_mul,Nat.mul_assoc,Nat.mul_left_comm 2 j,<- hT2]
       omega
      clear hT2 hsum
      have a:=HI.out
      have HD:=hid (otimes_pow HR.out j j (by omega) g h g h wr (a.sp.1.sl a.vp.1 a.bel) (a.sp.2.sl a.vp.2 a.bel) (a.sp.1.sl a.vp.1 a.bel) (a.sp.2.sl a.vp.2 a.bel) a.vp a.vp)
      clear a
      have p0 : wr.cell? ⟨w.heap.size,0,none⟩ = some (.bool g.n):=(HI.out.bp).cell 0
      have p1 : wr.cell? ⟨w.heap.size,1,none⟩ = some (.slice g.a g.xs.length g.ca):=(HI.out.bp).cell 1
      have p2 : wr.cell? ⟨w.heap.size,2,none⟩ = some (.slice g.b g.ys.length g.cb):=(HI.out.bp).cell 2
      have p3 : wr.cell? ⟨w.heap.size,3,none⟩ = some (.bool g.m):=(HI.out.bp).cell 3
      have p4 : wr.cell? ⟨w.heap.size,4,none⟩ = some (.slice g.c g.us.length g.cc):=(HI.out.bp).cell 4
      have p5 : wr.cell? ⟨w.heap.size,5,none⟩ = some (.slice g.d g.vs.length g.cd):=(HI.out.bp).cell 5
      have p6 : wr.cell? ⟨w.heap.size,6,none⟩ = some (.bool h.n):=(HI.out.bp).cell 6
      have p7 : wr.cell? ⟨w.heap.size,7,none⟩ = some (.slice h.a h.xs.length h.ca):=(HI.out.bp).cell 7
      have p8 : wr.cell? ⟨w.heap.size,8,none⟩ = some (.slice h.b h.ys.length h.cb):=(HI.out.bp).cell 8
      have p9 : wr.cell? ⟨w.heap.size,9,none⟩ = some (.bool h.m):=(HI.out.bp).cell 9
      have p10 : wr.cell? ⟨w.heap.size,10,none⟩ = some (.slice h.c h.us.length h.cc):=(HI.out.bp).cell 10
      have p11 : wr.cell? ⟨w.heap.size,11,none⟩ = some (.slice h.d h.vs.length h.cd):=(HI.out.bp).cell 11
      go_wp2_with fail
      refine Calls.mono HD.out ?_
      rintro e w3 ⟨g2,h2,rfl,ho,hi,hb⟩
      clear HD p0 p1 p2 p3 p4 p5 p6 p7 p8 p9 p10 p11 
      obtain ⟨B0,B1,B2,B3,B4,B5,B6,B7,B8,B9,B10,B11,qB0,qB1,qB2,qB3,qB4,qB5,qB6,qB7,qB8,qB9,qB10,qB11,⟨rB0,rB1,rB2,rB3,rB4,rB5,rB6,rB7,rB8,rB9,rB10,rB11⟩,⟨fB0,fB1,fB2,fB3,fB4,fB5,fB6,fB7,fB8,fB9,fB10,fB11⟩,HB⟩:=rchain12 (HI.out.bp.later hb.out HI.out.bp.lt) (by decide) (.bool g2.n) (.slice g2.a g2.xs.length g2.ca) (.slice g2.b g2.ys.length g2.cb) (.bool g2.m) (.slice g2.c g2.us.length g2.cc) (.slice g2.d g2.vs.length g2.cd) (.bool h2.n) (.slice h2.a h2.xs.length h2.ca) (.slice h2.b h2.ys.length h2.cb) (.bool h2.m) (.slice h2.c h2.us.length h2.cc) (.slice h2.d h2.vs.length h2.cd)
      have HI3:=hid (HI.out.sq hmb hb.out ho.out hi.out HB.out)
      clear HI HB ho hi hb
      go_wp2_with fail
      go_roundw
      case rel => exact ⟨T / 2,i,j + j,g2,h2,k,l,by omega,congrArg (Value.int .i64) (by omega),hs2.out,HI3⟩
      case measure => first | (simp [intOf]; done) | (simp [intOf]; omega)
    · rw [hpar] at hand
      rcases Nat.lt_or_ge 1 T with hq | hq
      · have hq1 : (1 : Int) < (T : Int):=by omega
        have hT2 : T = 2 * (T / 2) + 1:=by omega
        have hjj : j + j <= N:=by have h2 : j * 2 <= j * T:=Nat.mul_le_mul_left j (by omega); omega
        have hs2 : Hid (i + j + (j + j) * (T / 2) = N):=by
         show _ = _
         rw [<- hsum]
         have e : j * T = (j + j) * (T / 2) + j:=by
          have e1 : j * T = j * (2 * (T / 2) + 1):=by rw [<- hT2]
          rw [e1,Nat.mul_add,Nat.mul_one,<- Nat.two_mul,Nat.mul_assoc,Nat.mul_left_comm 2 j]
         omega
        clear hT2 hsum
        have a:=HI.out
        have HD:=hid (otimes_pow HR.out i j (by omega) k l g h wr (a.om.1.sl a.vm.1) (a.om.2.sl a.vm.2) (a.sp.1.sl a.vp.1 a.bel) (a.sp.2.sl a.vp.2 a.bel) a.vm a.vp)
        clear a
        have m0 : wr.cell? ⟨w1.heap.size,0,none⟩ = some (.bool k.n):=(HI.out.bm).cell 0
        have m1 : wr.cell? ⟨w1.heap.size,1,none⟩ = some (.slice k.a k.xs.length k.ca):=(HI.out.bm).cell 1
        have m2 : wr.cell? ⟨w1.heap.size,2,none⟩ = some (.slice k.b k.ys.length k.cb):=(HI.out.bm).cell 2
        have m3 : wr.cell? ⟨w1.heap.size,3,none⟩ = some (.bool k.m):=(HI.out.bm).cell 3
        have m4 : wr.cell? ⟨w1.heap.size,4,none⟩ = some (.slice k.c k.us.length k.cc):=(HI.out.bm).cell 4
        have m5 : wr.cell? ⟨w1.heap.size,5,none⟩ = some (.slice k.d k.vs.length k.cd):=(HI.out.bm).cell 5
        have m6 : wr.cell? ⟨w1.heap.size,6,none⟩ = some (.bool l.n):=(HI.out.bm).cell 6
        have m7 : wr.cell? ⟨w1.heap.size,7,none⟩ = some (.slice l.a l.xs.length l.ca):=(HI.out.bm).cell 7
        have m8 : wr.cell? ⟨w1.heap.size,8,none⟩ = some (.slice l.b l.ys.length l.cb):=(HI.out.bm).cell 8
        have m9 : wr.cell? ⟨w1.heap.size,9,none⟩ = some (.bool l.m):=(HI.out.bm).cell 9
        have m10 : wr.cell? ⟨w1.heap.size,10,none⟩ = some (.slice l.c l.us.length l.cc):=(HI.out.bm).cell 10
        have m11 : wr.cell? ⟨w1.heap.size,11,none⟩ = some (.slice l.d l.vs.length l.cd):=(HI.out.bm).cell 11
        have p0 : wr.cell? ⟨w.heap.size,0,none⟩ = some (.bool g.n):=(HI.out.bp).cell 0
        have p1 : wr.cell? ⟨w.heap.size,1,none⟩ = some (.slice g.a g.xs.length g.ca):=(HI.out.bp).cell 1
        have p2 : wr.cell? ⟨w.heap.size,2,none⟩ = some (.slice g.b g.ys.length g.cb):=(HI.out.bp).cell 2
        have p3 : wr.cell? ⟨w.heap.size,3,none⟩ = some (.bool g.m):=(HI.out.bp).cell 3
        have p4 : wr.cell? ⟨w.heap.size,4,none⟩ = some (.slice g.c g.us.length g.cc):=(HI.out.bp).cell 4
        have p5 : wr.cell? ⟨w.heap.size,5,none⟩ = some (.slice g.d g.vs.length g.cd):=(HI.out.bp).cell 5
        have p6 : wr.cell? ⟨w.heap.size,6,none⟩ = some (.bool h.n):=(HI.out.bp).cell 6
        have p7 : wr.cell? ⟨w.heap.size,7,none⟩ = some (.slice h.a h.xs.length h.ca):=(HI.out.bp).cell 7
        have p8 : wr.cell? ⟨w.heap.size,8,none⟩ = some (.slice h.b h.ys.length h.cb):=(HI.out.bp).cell 8
        have p9 : wr.cell? ⟨w.heap.size,9,none⟩ = some (.bool h.m):=(HI.out.bp).cell 9
        have p10 : wr.cell? ⟨w.heap.size,10,none⟩ = some (.slice h.c h.us.length h.cc):=(HI.out.bp).cell 10
        have p11 : wr.cell? ⟨w.heap.size,11,none⟩ = some (.slice h.d h.vs.length h.cd):=(HI.out.bp).cell 11
        go_wp2_with fail
        refine Calls.mono HD.out ?_
        rintro e w2 ⟨k2,l2,rfl,ho,hi,hb⟩
        clear HD m0 m1 m2 m3 m4 m5 m6 m7 m8 m9 m10 m11 p0 p1 p2 p3 p4 p5 p6 p7 p8 p9 p10 p11
        obtain ⟨A0,A1,A2,A3,A4,A5,A6,A7,A8,A9,A10,A11,qA0,qA1,qA2,qA3,qA4,qA5,qA6,qA7,qA8,qA9,qA10,qA11,⟨rA0,rA1,rA2,rA3,rA4,rA5,rA6,rA7,rA8,rA9,rA10,rA11⟩,⟨fA0,fA1,fA2,fA3,fA4,fA5,fA6,fA7,fA8,fA9,fA10,fA11⟩,HA⟩:=rchain12 (HI.out.bm.later hb.out HI.out.bm.lt) (by decide) (.bool k2.n) (.slice k2.a k2.xs.length k2.ca) (.slice k2.b k2.ys.length k2.cb) (.bool k2.m) (.slice k2.c k2.us.length k2.cc) (.slice k2.d k2.vs.length k2.cd) (.bool l2.n) (.slice l2.a l2.xs.length l2.ca) (.slice l2.b l2.ys.length l2.cb) (.bool l2.m) (.slice l2.c l2.us.length l2.cc) (.slice l2.d l2.vs.length l2.cd)
        have HI2:=hid (HI.out.mul hmb hb.out ho.out hi.out HA.out)
        clear HI HA ho hi hb
        have a:=HI2.out
        have HD:=hid (otimes_pow HR.out j j (by omega) g h g h A11 (a.sp.1.sl a.vp.1 a.bel) (a.sp.2.sl a.vp.2 a.bel) (a.sp.1.sl a.vp.1 a.bel) (a.sp.2.sl a.vp.2 a.bel) a.vp a.vp)
        clear a
        have p0 : A11.cell? ⟨w.heap.size,0,none⟩ = some (.bool g.n):=(HI2.out.bp).cell 0
        have p1 : A11.cell? ⟨w.heap.size,1,none⟩ = some (.slice g.a g.xs.length g.ca):=(HI2.out.bp).cell 1
        have p2 : A11.cell? ⟨w.heap.size,2,none⟩ = some (.slice g.b g.ys.length g.cb):=(HI2.out.bp).cell 2
        have p3 : A11.cell? ⟨w.heap.size,3,none⟩ = some (.bool g.m):=(HI2.out.bp).cell 3
        have p4 : A11.cell? ⟨w.heap.size,4,none⟩ = some (.slice g.c g.us.length g.cc):=(HI2.out.bp).cell 4
        have p5 : A11.cell? ⟨w.heap.size,5,none⟩ = some (.slice g.d g.vs.length g.cd):=(HI2.out.bp).cell 5
        have p6 : A11.cell? ⟨w.heap.size,6,none⟩ = some (.bool h.n):=(HI2.out.bp).cell 6
        have p7 : A11.cell? ⟨w.heap.size,7,none⟩ = some (.slice h.a h.xs.length h.ca):=(HI2.out.bp).cell 7
        have p8 : A11.cell? ⟨w.heap.size,8,none⟩ = some (.slice h.b h.ys.length h.cb):=(HI2.out.bp).cell 8
        have p9 : A11.cell? ⟨w.heap.size,9,none⟩ = some (.bool h.m):=(HI2.out.bp).cell 9
        have p10 : A11.cell? ⟨w.heap.size,10,none⟩ = some (.slice h.c h.us.length h.cc):=(HI2.out.bp).cell 10
        have p11 : A11.cell? ⟨w.heap.size,11,none⟩ = some (.slice h.d h.vs.length h.cd):=(HI2.out.bp).cell 11
        go_wp2_with fail
        refine Calls.mono HD.out ?_
        rintro e w3 ⟨g2,h2,rfl,ho,hi,hb⟩
        clear HD p0 p1 p2 p3 p4 p5 p6 p7 p8 p9 p10 p11 qA0 qA1 qA2 qA3 qA4 qA5 qA6 qA7 qA8 qA9 qA10 qA11 rA0 rA1 rA2 rA3 rA4 rA5 rA6 rA7 rA8 rA9 rA10 rA11 fA0 fA1 fA2 fA3 fA4 fA5 fA6 fA7 fA8 fA9 fA10 fA11
        obtain ⟨B0,B1,B2,B3,B4,B5,B6,B7,B8,B9,B10,B11,qB0,qB1,qB2,qB3,qB4,qB5,qB6,qB7,qB8,qB9,qB10,qB11,⟨rB0,rB1,rB2,rB3,rB4,rB5,rB6,rB7,rB8,rB9,rB10,rB11⟩,⟨fB0,fB1,fB2,fB3,fB4,fB5,fB6,fB7,fB8,fB9,fB10,fB11⟩,HB⟩:=rchain12 (HI2.out.bp.later hb.out HI2.out.bp.lt) (by decide) (.bool g2.n) (.slice g2.a g2.xs.length g2.ca) (.slice g2.b g2.ys.length g2.cb) (.bool g2.m) (.slice g2.c g2.us.length g2.cc) (.slice g2.d g2.vs.length g2.cd) (.bool h2.n) (.slice h2.a h2.xs.length h2.ca) (.slice h2.b h2.ys.length h2.cb) (.bool h2.m) (.slice h2.c h2.us.length h2.cc) (.slice h2.d h2.vs.length h2.cd)
        have HI3:=hid (HI2.out.sq hmb hb.out ho.out hi.out HB.out)
        clear HI2 HB ho hi hb
        go_wp2_with fail
        go_roundw
        case rel => exact ⟨T / 2,i + j,j + j,g2,h2,k2,l2,by omega,congrArg (Value.int .i64) (by omega),hs2.out,HI3⟩
        case measure => first | (simp [intOf]; done) | (simp [intOf]; omega)
      · have hT1 : T = 1:=by omega
        subst hT1
        have a:=HI.out
        have HD:=hid (otimes_pow HR.out i j (by omega) k l g h wr (a.om.1.sl a.vm.1) (a.om.2.sl a.vm.2) (a.sp.1.sl a.vp.1 a.bel) (a.sp.2.sl a.vp.2 a.bel) a.vm a.vp)
        clear a
        have m0 : wr.cell? ⟨w1.heap.size,0,none⟩ = some (.bool k.n):=(HI.out.bm).cell 0
        have m1 : wr.cell? ⟨w1.heap.size,1,none⟩ = some (.slice k.a k.xs.length k.ca):=(HI.out.bm).cell 1
        have m2 : wr.cell? ⟨w1.heap.size,2,none⟩ = some (.slice k.b k.ys.length k.cb):=(HI.out.bm).cell 2
        have m3 : wr.cell? ⟨w1.heap.size,3,none⟩ = some (.bool k.m):=(HI.out.bm).cell 3
        have m4 : wr.cell? ⟨w1.heap.size,4,none⟩ = some (.slice k.c k.us.length k.cc):=(HI.out.bm).cell 4
        have m5 : wr.cell? ⟨w1.heap.size,5,none⟩ = some (.slice k.d k.vs.length k.cd):=(HI.out.bm).cell 5
        have m6 : wr.cell? ⟨w1.heap.size,6,none⟩ = some (.bool l.n):=(HI.out.bm).cell 6
        have m7 : wr.cell? ⟨w1.heap.size,7,none⟩ = some (.slice l.a l.xs.length l.ca):=(HI.out.bm).cell 7
        have m8 : wr.cell? ⟨w1.heap.size,8,none⟩ = some (.slice l.b l.ys.length l.cb):=(HI.out.bm).cell 8
        have m9 : wr.cell? ⟨w1.heap.size,9,none⟩ = some (.bool l.m):=(HI.out.bm).cell 9
        have m10 : wr.cell? ⟨w1.heap.size,10,none⟩ = some (.slice l.c l.us.length l.cc):=(HI.out.bm).cell 10
        have m11 : wr.cell? ⟨w1.heap.size,11,none⟩ = some (.slice l.d l.vs.length l.cd):=(HI.out.bm).cell 11
        have p0 : wr.cell? ⟨w.heap.size,0,none⟩ = some (.bool g.n):=(HI.out.bp).cell 0
        have p1 : wr.cell? ⟨w.heap.size,1,none⟩ = some (.slice g.a g.xs.length g.ca):=(HI.out.bp).cell 1
        have p2 : wr.cell? ⟨w.heap.size,2,none⟩ = some (.slice g.b g.ys.length g.cb):=(HI.out.bp).cell 2
        have p3 : wr.cell? ⟨w.heap.size,3,none⟩ = some (.bool g.m):=(HI.out.bp).cell 3
        have p4 : wr.cell? ⟨w.heap.size,4,none⟩ = some (.slice g.c g.us.length g.cc):=(HI.out.bp).cell 4
        have p5 : wr.cell? ⟨w.heap.size,5,none⟩ = some (.slice g.d g.vs.length g.cd):=(HI.out.bp).cell 5
        have p6 : wr.cell? ⟨w.heap.size,6,none⟩ = some (.bool h.n):=(HI.out.bp).cell 6
        have p7 : wr.cell? ⟨w.heap.size,7,none⟩ = some (.slice h.a h.xs.length h.ca):=(HI.out.bp).cell 7
        have p8 : wr.cell? ⟨w.heap.size,8,none⟩ = some (.slice h.b h.ys.length h.cb):=(HI.out.bp).cell 8
        have p9 : wr.cell? ⟨w.heap.size,9,none⟩ = some (.bool h.m):=(HI.out.bp).cell 9
        have p10 : wr.cell? ⟨w.heap.size,10,none⟩ = some (.slice h.c h.us.length h.cc):=(HI.out.bp).cell 10
        have p11 : wr.cell? ⟨w.heap.size,11,none⟩ = some (.slice h.d h.vs.length h.cd):=(HI.out.bp).cell 11
        go_wp2_with fail
        refine Calls.mono HD.out ?_
        rintro e w2 ⟨k2,l2,rfl,ho,hi,hb⟩
        clear HD m0 m1 m2 m3 m4 m5 m6 m7 m8 m9 m10 m11 p0 p1 p2 p3 p4 p5 p6 p7 p8 p9 p10 p11
        obtain ⟨A0,A1,A2,A3,A4,A5,A6,A7,A8,A9,A10,A11,qA0,qA1,qA2,qA3,qA4,qA5,qA6,qA7,qA8,qA9,qA10,qA11,⟨rA0,rA1,rA2,rA3,rA4,rA5,rA6,rA7,rA8,rA9,rA10,rA11⟩,⟨fA0,fA1,fA2,fA3,fA4,fA5,fA6,fA7,fA8,fA9,fA10,fA11⟩,HA⟩:=rchain12 (HI.out.bm.later hb.out HI.out.bm.lt) (by decide) (.bool k2.n) (.slice k2.a k2.xs.length k2.ca) (.slice k2.b k2.ys.length k2.cb) (.bool k2.m) (.slice k2.c k2.us.length k2.cc) (.slice k2.d k2.vs.length k2.cd) (.bool l2.n) (.slice l2.a l2.xs.length l2.ca) (.slice l2.b l2.ys.length l2.cb) (.bool l2.m) (.slice l2.c l2.us.length l2.cc) (.slice l2.d l2.vs.length l2.cd)
        have HI2:=hid (HI.out.mul hmb hb.out ho.out hi.out HA.out)
        clear HI HA ho hi hb
        go_wp2_with fail
        go_roundw
        case rel => exact ⟨0,i + j,j,g,h,k2,l2,by omega,congrArg (Value.int .i64) (by omega),by omega,HI2⟩
        case measure => first | (simp [intOf]; done) | (simp [intOf]; omega)
theorem o_whole {n : Bool} {xs ys : List Int} {x : Int} (wx : Wd xs) (wy : Wd ys) (hc : rchk n xs ys = 0) (hq : rq n xs ys = (x : Rat)) : wval n xs = x /\ Trimmed xs /\ xs.length <= 2048 /\ (n = false \/ 0 < xs.length):=by
 obtain ⟨l1,l2,t1,t2,h0,hs,hg⟩:=rchk_ok hc
 have hp : 0 < val ys:=val_pos' wy t2 h0
 have hg' : gcdI (wval n xs) (val ys) = 1:=by
  have e:=gcd_sg n (val xs) (val ys)
  rw [<- hg,<- e]
  rfl
 have h:=fr_num hp hg'
 have hn : (rq n xs ys).num = x:=by rw [hq,Rat.num_intCast]
 exact ⟨by rw [<- h.1]; exact hn,t1,l1,hs⟩
def oNum (g h : G6) (a1 : Option Addr) (c1 : Nat) (a2 : Option Addr) (c2 : Nat) (a3 : Option Addr) (c3 : Nat) (a4 : Option Addr) (c4 : Nat) : G6:=⟨g.n,a1,c1,g.xs,a2,c2,h.xs,g.m,a3,c3,g.us,a4,c4,h.xs⟩
theorem onum_is {g h : G6} {z : Int × Int} {M : Int} (hp : OPw g h z M) (hM : 0 < M) (g1 : Int.gcd z.1 M = 1) (g2 : Int.gcd z.2 M = 1) (a1 : Option Addr) (c1 : Nat) (a2 : Option Addr) (c2 : Nat) (a3 : Option Addr) (c3 : Nat) (a4 : Option Addr) (c4 : Nat) : (oNum g h a1 c1 a2 c2 a3 c3 a4 c4).Is (Rat.divInt z.1 M) (Rat.divInt z.2 M):=by
 obtain ⟨⟨i1,i2⟩,⟨i3,i4⟩,w1,w2,w3,w4⟩:=hp.1
 obtain ⟨⟨j1,j2⟩,_,v1,v2,_⟩:=hp.2
 obtain ⟨e1,t1,l1,s1⟩:=o_whole w1 w2 i1 i2
 obtain ⟨e2,t2,l2,s2⟩:=o_whole w3 w4 i3 i4
 obtain ⟨e3,t3,l3,s3⟩:=o_whole v1 v2 j1 j2
 have p3:=val_nonneg v1
 have hn : h.n = false:=by
  cases hh : h.n
  · rfl
  · rw [hh] at e3; unfold wval at e3; simp at e3; omega
 have e3' : val h.xs = M:=by rw [hn] at e3; unfold wval at e3; simpa using e3
 have h0 : 0 < h.xs.length:=by
  rcases Nat.eq_zero_or_pos h.xs.length with q | q
  · rw [List.eq_nil_of_length_eq_zero q] at e3'
    have : val ([] : List Int) = 0:=rfl
    omega
  · exact q
 have gg : ∀ {n : Bool} {xs : List Int} {x : Int},wval n xs = x -> Int.gcd x M = 1 -> gcdI (val xs) (val h.xs) = 1:=fun {n xs x} he hg => by
  have e:=gcd_sg n (val xs) (val h.xs)
  rw [<- e,e3',show sg n (val xs) = x from he]
  unfold gcdI
  rw [hg]; rfl
 refine ⟨⟨rchk_good l1 l3 t1 t3 h0 s1 (gg e1 g1),?_⟩,⟨rchk_good l2 l3 t2 t3 h0 s2 (gg e2 g2),?_⟩,w1,v1,w3,v1⟩
 · show Rat.divInt (wval g.n g.xs) (val h.xs) = _
   rw [e1,e3']
 · show Rat.divInt (wval g.m g.us) (val h.xs) = _
   rw [e2,e3']
def OGt (w : World) (q1 q2 : Rat) (x : Ending) (w' : World) : Prop:=∃ r : G6,x = .returned (.tuple #[.agg #[.bool r.n,.slice r.a r.xs.length r.ca,.slice r.b r.ys.length r.cb,.bool r.m,.slice r.c r.us.length r.cc,.slice r.d r.vs.length r.cd],.int .i64 0]) /\ Hid (r.Ow w' w.heap.size) /\ Hid (r.Is q1 q2) /\ Hid (Below w.heap.size w w') /\ Hid (∃ W1,Cut w (.slice r.a r.xs.length r.ca) (.slice r.b r.ys.length r.cb) W1 /\ Cut W1 (.slice r.c r.us.length r.cc) (.slice r.d r.vs.length r.cd) w')
theorem oNm_pos {f n : Int} (h : rOK f n) (t : Nat) : 0 < oNm f n ^ t:=by
 obtain ⟨e,_,_,_,_,_,h5,_⟩:=o_parts h
 exact Int.pow_pos (by omega)
def oPn (f n : Int) (t : Nat) : Rat × Rat:=(Rat.divInt (zpow (oRe f n,oIm f n) t).1 (oNm f n ^ t),Rat.divInt (zpow (oRe f n,oIm f n) t).2 (oNm f n ^ t))
def oP (f n t : Int) : Rat × Rat:=if 0 <= t then oPn f n t.toNat else oPn f (-n) (-t).toNat
theorem rOK_neg {f n : Int} (h : rOK f n) : rOK f (-n):=by
 unfold rOK at *
 rw [Int.natAbs_neg]
 exact h
set_option maxRecDepth 100000 in
theorem oPower_any (f n t : Int) (w : World) (hr : rOK f n) (t0 : -1024 <= t) (t1 : t <= 1024) :
 Calls Tryz.prog 107 #[.agg #[.int .i32 f,.int .i32 n],.int .i64 t] w (OGt w (oP f n t).1 (oP f n t).2):=by
 obtain ⟨X,hX⟩ : ∃ X,(w.alloc (.cells #[.int .i32 f,.int .i32 n] 33)).alloc (.cells #[.bool false,.slice none 0 0,.slice none 0 0,.bool false,.slice none 0 0,.slice none 0 0] 35) = X:=⟨_,rfl⟩
 have HB : Hid (Below w.heap.size w X):=by rw [<- hX]; exact bt (alloc_later _ _) (alloc_later _ _)
 have HR : Hid (Box X w.heap.size 33 #[.int .i32 f,.int .i32 n]):=by rw [<- hX]; exact (Box.made w _ _).later (alloc_later _ _) (Box.made w _ _).lt
 have HZ : Hid (Box X (w.heap.size + 1) 35 #[.bool false,.slice none 0 0,.slice none 0 0,.bool false,.slice none 0 0,.slice none 0 0]):=by
  have q:=Box.made (w.alloc (.cells #[.int .i32 f,.int .i32 n] 33)) 35 #[.bool false,.slice none 0 0,.slice none 0 0,.bool false,.slice none 0 0,.slice none 0 0]
  rw [show (w.alloc (.cells #[.int .i32 f,.int .i32 n] 33)).heap.size = w.heap.size + 1 by simp,hX] at q
  exact q
 have hin : in32 f n:=by unfold rOK at hr; unfold in32; omega
 have hnn : -1000 <= n /\ n <= 1000:=by unfold rOK at hr; omega
 have HC:=hid (ocheck_any f n X hin)
 have h0 : ochk f n = 0:=by unfold ochk; rw [if_pos hr]
 rw [h0] at HC
 have k0 : X.cell? ⟨w.heap.size,0,none⟩ = some (.int .i32 f):=HR.out.cell 0
 have k1 : X.cell? ⟨w.heap.size,1,none⟩ = some (.int .i32 n):=HR.out.cell 1
 have zz:=HZ.out.lt
 by_cases ht : 0 <= t
 · have EP : Hid (oP f n t = oPn f n t.toNat):=by show _ = _; unfold oP; rw [if_pos ht]
   have HF:=hid (fun V => ofirst_any f n V (by unfold rOK at hr; omega) (by unfold rOK at hr; omega))
   have HK:=hid hr
   obtain ⟨N,hN⟩ : ∃ N : Nat,t = N:=⟨t.toNat,by omega⟩
   subst hN
   rw [Int.toNat_natCast] at EP
   have hN1 : N <= 1024:=by omega
   clear h0 hin hr
   go_enter Tryz.func107,Tryz.ntmps107
   go_wp2_with fail
   clear hX
   refine Calls.mono HC.out ?_
   rintro e w1 ⟨rfl,hb1⟩
   have HB1:=hid hb1
   clear hb1 k0 k1 HC
   have k0 : w1.cell? ⟨w.heap.size,0,none⟩ = some (.int .i32 f):=(HR.out.later HB1.out HR.out.lt).cell 0
   have k1 : w1.cell? ⟨w.heap.size,1,none⟩ = some (.int .i32 n):=(HR.out.later HB1.out HR.out.lt).cell 1
   have HD:=hid (HF.out w1)
   clear HF
   go_wp2_with fail
   refine Calls.mono HD.out ?_
   rintro e w2 ⟨g,h,rfl,ho2,hg,hh,hb2⟩
   have hg':=hg.out
   have hh':=hh.out
   rw [o_div1,o_div1] at hg' hh'
   have HT:=hid (oto_any f n HK.out g h N hN1 w2 (ho2.out.1.sl hg') (ho2.out.2.sl hh') ⟨hg',hh'⟩)
   clear HD hg' hh' k0 k1 hg hh
   go_wp2_with fail
   refine Calls.mono HT.out ?_
   rintro e w3 ⟨k,l,rfl,ho3,hp3,hb3⟩
   have lk:=hp3.out.1.len
   have ll:=hp3.out.2.len
   have sk:=ho3.out.1.sl hp3.out.1
   have sl_:=ho3.out.2.sl hp3.out.2
   have HN:=hid (onumber_any k l w3 sk.1 sk.2.2.1 sl_.1 (by omega) (by omega) (by omega))
   clear HT lk ll sk sl_
   go_wp2_with fail
   refine Calls.mono HN.out ?_
   rintro e w4 ⟨a1,c1,a2,c2,a3,c3,a4,c4,rfl,ho4,hb4,hc4⟩
   clear HN
   have HBB:=hid (bt HB1.out (bt hb2.out (bt hb3.out hb4.out)))
   obtain ⟨A0,A1,A2,A3,A4,A5,q0,q1,q2,q3,q4,q5,⟨r0,r1,r2,r3,r4,r5⟩,⟨f0,f1,f2,f3,f4,f5⟩,HA⟩:=rchain6 (HZ.out.later HBB.out HZ.out.lt) (by decide) (.bool k.n) (.slice a1 k.xs.length c1) (.slice a2 l.xs.length c2) (.bool k.m) (.slice a3 k.us.length c3) (.slice a4 l.xs.length c4)
   go_wp2_with fail
   have z1:=HB.out.size
   have z2:=HB1.out.size
   have z3:=hb2.out.size
   have z5:=hb3.out.size
   have P:=HA.out.2.2.1
   have z4:=HA.out.2.2.2.2
   obtain ⟨W1,hc1,hc2⟩:=hc4.out
   refine bodyPost_ret (gres_run (by rfl) HA.out.1 _ (by rfl)) rfl ?_
   have hl:=o_low HK.out N
   rw [EP.out]
   exact ⟨oNum k l a1 c1 a2 c2 a3 c3 a4 c4,rfl,⟨P _ _ _ _ (owns_base ho4.out.1 (by omega)),P _ _ _ _ (owns_base ho4.out.2.1 (by omega)),P _ _ _ _ (owns_base ho4.out.2.2.1 (by omega)),P _ _ _ _ (owns_base ho4.out.2.2.2 (by omega))⟩,onum_is hp3.out (oNm_pos HK.out N) hl.1 hl.2 _ _ _ _ _ _ _ _,HA.out.2.2.2.1 _ _ (by omega) (bt HB.out HBB.out),W1,hc1.up (by omega) (Nat.le_refl _),hc2.up (Nat.le_refl _) (by omega)⟩
 · have EP : Hid (oP f n t = oPn f (-n) (-t).toNat):=by show _ = _; unfold oP; rw [if_neg ht]
   have hr2:=rOK_neg hr
   have HF:=hid (fun V => ofirst_any f (-n) V (by unfold rOK at hr2; omega) (by unfold rOK at hr2; omega))
   have HK:=hid hr2
   obtain ⟨N,hN⟩ : ∃ N : Nat,-t = N:=⟨(-t).toNat,by omega⟩
   have hN' : t = -(N : Int):=by omega
   subst hN'
   rw [Int.neg_neg,Int.toNat_natCast] at EP
   have hN1 : N <= 1024:=by omega
   have hN0 : 0 < N:=by omega
   clear h0 hin hr hr2 hN
   go_enter Tryz.func107,Tryz.ntmps107
   go_wp2_with fail
   clear hX
   refine Calls.mono HC.out ?_
   rintro e w1 ⟨rfl,hb1⟩
   have HB1:=hid hb1
   clear hb1 k0 k1 HC
   have HR1:=hid (HR.out.later HB1.out HR.out.lt)
   have k0 : w1.cell? ⟨w.heap.size,0,none⟩ = some (.int .i32 f):=HR1.out.cell 0
   have k1 : w1.cell? ⟨w.heap.size,1,none⟩ = some (.int .i32 n):=HR1.out.cell 1
   have kf:=HR1.out.free 1
   have HR2 : Hid (Box (w1.setCell ⟨w.heap.size,1,none⟩ (.int .i32 (-n))) w.heap.size 33 #[.int .i32 f,.int .i32 (-n)]):=HR1.out.set 1 _
   have HZ2 : Hid (Box (w1.setCell ⟨w.heap.size,1,none⟩ (.int .i32 (-n))) (w.heap.size + 1) 35 #[.bool false,.slice none 0 0,.slice none 0 0,.bool false,.slice none 0 0,.slice none 0 0]):=(HZ.out.later HB1.out HZ.out.lt).other ⟨w.heap.size,1,none⟩ _ (by show w.heap.size + 1 ≠ w.heap.size; omega)
   have HBW : Hid (Below w.heap.size w (w1.setCell ⟨w.heap.size,1,none⟩ (.int .i32 (-n)))):=(bt HB.out HB1.out).setCell (p:=⟨w.heap.size,1,none⟩) (Nat.le_refl _) _
   obtain ⟨V,hV⟩ : ∃ V,w1.setCell ⟨w.heap.size,1,none⟩ (.int .i32 (-n)) = V:=⟨_,rfl⟩
   rw [hV] at HR2 HZ2 HBW
   have j0 : V.cell? ⟨w.heap.size,0,none⟩ = some (.int .i32 f):=HR2.out.cell 0
   have j1 : V.cell? ⟨w.heap.size,1,none⟩ = some (.int .i32 (-n)):=HR2.out.cell 1
   have HD:=hid (HF.out V)
   clear HF
   go_wp2_with fail
   refine Calls.mono HD.out ?_
   rintro e w2 ⟨g,h,rfl,ho2,hg,hh,hb2⟩
   have hg':=hg.out
   have hh':=hh.out
   rw [o_div1,o_div1] at hg' hh'
   have HT:=hid (oto_any f (-n) HK.out g h N hN1 w2 (ho2.out.1.sl hg') (ho2.out.2.sl hh') ⟨hg',hh'⟩)
   clear HD hg' hh' k0 k1 kf hV j0 j1 hg hh
   go_wp2_with fail
   refine Calls.mono HT.out ?_
   rintro e w3 ⟨k,l,rfl,ho3,hp3,hb3⟩
   have lk:=hp3.out.1.len
   have ll:=hp3.out.2.len
   have sk:=ho3.out.1.sl hp3.out.1
   have sl_:=ho3.out.2.sl hp3.out.2
   have HN:=hid (onumber_any k l w3 sk.1 sk.2.2.1 sl_.1 (by omega) (by omega) (by omega))
   clear HT lk ll sk sl_
   go_wp2_with fail
   refine Calls.mono HN.out ?_
   rintro e w4 ⟨a1,c1,a2,c2,a3,c3,a4,c4,rfl,ho4,hb4,hc4⟩
   clear HN
   have HBB:=hid (bt hb2.out (bt hb3.out hb4.out))
   obtain ⟨A0,A1,A2,A3,A4,A5,q0,q1,q2,q3,q4,q5,⟨r0,r1,r2,r3,r4,r5⟩,⟨f0,f1,f2,f3,f4,f5⟩,HA⟩:=rchain6 (HZ2.out.later HBB.out HZ2.out.lt) (by decide) (.bool k.n) (.slice a1 k.xs.length c1) (.slice a2 l.xs.length c2) (.bool k.m) (.slice a3 k.us.length c3) (.slice a4 l.xs.length c4)
   go_wp2_with fail
   have z1:=HBW.out.size
   have z3:=hb2.out.size
   have z5:=hb3.out.size
   have P:=HA.out.2.2.1
   have z4:=HA.out.2.2.2.2
   obtain ⟨W1,hc1,hc2⟩:=hc4.out
   refine bodyPost_ret (gres_run (by rfl) HA.out.1 _ (by rfl)) rfl ?_
   have hl:=o_low HK.out N
   rw [EP.out]
   exact ⟨oNum k l a1 c1 a2 c2 a3 c3 a4 c4,rfl,⟨P _ _ _ _ (owns_base ho4.out.1 (by omega)),P _ _ _ _ (owns_base ho4.out.2.1 (by omega)),P _ _ _ _ (owns_base ho4.out.2.2.1 (by omega)),P _ _ _ _ (owns_base ho4.out.2.2.2 (by omega))⟩,onum_is hp3.out (oNm_pos HK.out N) hl.1 hl.2 _ _ _ _ _ _ _ _,HA.out.2.2.2.1 _ _ (by omega) (bt HBW.out HBB.out),W1,hc1.up (by omega) (Nat.le_refl _),hc2.up (Nat.le_refl _) (by omega)⟩
theorem troEq (a b c d : Int) (w : World) : (Op.equalIn 10000 33 (.agg #[.int .i32 a,.int .i32 b]) (.agg #[.int .i32 c,.int .i32 d])).run Tryz.prog w = .ok (a == c && b == d) w:=by
 have u1:=Tryz.underlying21
 have a1:=Tryz.isAgg21
 have z1:=Tryz.sizeOf21
 have hS : Tryz.prog.underlying 33 = some (.struct (Tryz.prog.fieldsOf 33)):=by kernel_rfl
 rw [show (10000 : Nat) = 9999 + 1 from rfl,run_equalIn_agg w 9999 33 _ _ hS (by kernel_rfl)]
 simp only [Program.fieldsOf,Tryz.underlying33]
 go_simp
 by_cases h1 : a = c <;> by_cases h2 : b = d <;> simp [h1,h2]
theorem tstr_other {s t : ByteArray} (h : ¬ s = t) : (s.toList == t.toList) = false:=by
 rw [ByteArray.toList_eq,ByteArray.toList_eq]
 exact beq_eq_false_iff_ne.2 (fun e => h (ByteArray.ext (Array.toList_inj.1 e)))
set_option maxRecDepth 100000 in
theorem tnsame_any (n1 : Bool) (a1 : Option Addr) (ca1 : Nat) (xs1 : List Int) (b1 : Option Addr) (cb1 : Nat) (ys1 : List Int) (m1 : Bool) (c1 : Option Addr) (cc1 : Nat) (us1 : List Int) (d1 : Option Addr) (cd1 : Nat) (vs1 : List Int) (n2 : Bool) (a2 : Option Addr) (ca2 : Nat) (xs2 : List Int) (b2 : Option Addr) (cb2 : Nat) (ys2 : List Int) (m2 : Bool) (c2 : Option Addr) (cc2 : Nat) (us2 : List Int) (d2 : Option Addr) (cd2 : Nat) (vs2 : List Int) (w : World) (sx1 : Sl w (.slice a1 xs1.length ca1) xs1) (sy1 : Sl w (.slice b1 ys1.length cb1) ys1) (su1 : Sl w (.slice c1 us1.length cc1) us1) (sv1 : Sl w (.slice d1 vs1.length cd1) vs1) (sx2 : Sl w (.slice a2 xs2.length ca2) xs2) (sy2 : Sl w (.slice b2 ys2.length cb2) ys2) (su2 : Sl w (.slice c2 us2.length cc2) us2) (sv2 : Sl w (.slice d2 vs2.length cd2) vs2) (lxs1 : xs1.length <= 281474976710656) (lys1 : ys1.length <= 281474976710656) (lus1 : us1.length <= 281474976710656) (lvs1 : vs1.length <= 281474976710656) (lxs2 : xs2.length <= 281474976710656) (lys2 : ys2.length <= 281474976710656) (lus2 : us2.length <= 281474976710656) (lvs2 : vs2.length <= 281474976710656) :
 Calls Tryz.prog 130 #[.agg #[.bool n1,.slice a1 xs1.length ca1,.slice b1 ys1.length cb1,.bool m1,.slice c1 us1.length cc1,.slice d1 vs1.length cd1],.agg #[.bool n2,.slice a2 xs2.length ca2,.slice b2 ys2.length cb2,.bool m2,.slice c2 us2.length cc2,.slice d2 vs2.length cd2]] w fun x w' => x = .returned (.bool (decide (n1 = n2 /\ xs1 = xs2 /\ ys1 = ys2) && decide (m1 = m2 /\ us1 = us2 /\ vs1 = vs2))) /\ Below w.heap.size w w':=by
 have HX:=hid (boxes2r w 128 #[.bool n1,.slice a1 xs1.length ca1,.slice b1 ys1.length cb1,.bool m1,.slice c1 us1.length cc1,.slice d1 vs1.length cd1] #[.bool n2,.slice a2 xs2.length ca2,.slice b2 ys2.length cb2,.bool m2,.slice c2 us2.length cc2,.slice d2 vs2.length cd2])
 obtain ⟨X,hX⟩ : ∃ X,(w.alloc (.cells #[.bool n1,.slice a1 xs1.length ca1,.slice b1 ys1.length cb1,.bool m1,.slice c1 us1.length cc1,.slice d1 vs1.length cd1] 128)).alloc (.cells #[.bool n2,.slice a2 xs2.length ca2,.slice b2 ys2.length cb2,.bool m2,.slice c2 us2.length cc2,.slice d2 vs2.length cd2] 128) = X:=⟨_,rfl⟩
 rw [hX] at HX
 have H1 : Hid (∀ V,Below w.heap.size w V -> Calls Tryz.prog 75 #[.agg #[.bool n1,.slice a1 xs1.length ca1,.slice b1 ys1.length cb1],.agg #[.bool n2,.slice a2 xs2.length ca2,.slice b2 ys2.length cb2]] V fun e w' => e = .returned (.bool (decide (n1 = n2 /\ xs1 = xs2 /\ ys1 = ys2))) /\ Below V.heap.size V w'):=hid (fun V hv => rSame_any n1 a1 ca1 xs1 b1 cb1 ys1 n2 a2 ca2 xs2 b2 cb2 ys2 V (sx1.later hv) (sy1.later hv) (sx2.later hv) (sy2.later hv) lxs1 lys1 lxs2 lys2)
 have H2 : Hid (∀ V,Below w.heap.size w V -> Calls Tryz.prog 75 #[.agg #[.bool m1,.slice c1 us1.length cc1,.slice d1 vs1.length cd1],.agg #[.bool m2,.slice c2 us2.length cc2,.slice d2 vs2.length cd2]] V fun e w' => e = .returned (.bool (decide (m1 = m2 /\ us1 = us2 /\ vs1 = vs2))) /\ Below V.heap.size V w'):=hid (fun V hv => rSame_any m1 c1 cc1 us1 d1 cd1 vs1 m2 c2 cc2 us2 d2 cd2 vs2 V (su1.later hv) (sv1.later hv) (su2.later hv) (sv2.later hv) lus1 lvs1 lus2 lvs2)
 clear sx1 sy1 su1 sv1 sx2 sy2 su2 sv2 lxs1 lys1 lus1 lvs1 lxs2 lys2 lus2 lvs2
 generalize decide (n1 = n2 /\ xs1 = xs2 /\ ys1 = ys2) = z1 at *
 generalize decide (m1 = m2 /\ us1 = us2 /\ vs1 = vs2) = z2 at *
 have ka0 : X.cell? ⟨w.heap.size,0,none⟩ = some (.bool n1):=HX.out.1.cell 0
 have ka1 : X.cell? ⟨w.heap.size,1,none⟩ = some (.slice a1 xs1.length ca1):=HX.out.1.cell 1
 have ka2 : X.cell? ⟨w.heap.size,2,none⟩ = some (.slice b1 ys1.length cb1):=HX.out.1.cell 2
 have ka3 : X.cell? ⟨w.heap.size,3,none⟩ = some (.bool m1):=HX.out.1.cell 3
 have ka4 : X.cell? ⟨w.heap.size,4,none⟩ = some (.slice c1 us1.length cc1):=HX.out.1.cell 4
 have ka5 : X.cell? ⟨w.heap.size,5,none⟩ = some (.slice d1 vs1.length cd1):=HX.out.1.cell 5
 have kb0 : X.cell? ⟨w.heap.size + 1,0,none⟩ = some (.bool n2):=HX.out.2.1.cell 0
 have kb1 : X.cell? ⟨w.heap.size + 1,1,none⟩ = some (.slice a2 xs2.length ca2):=HX.out.2.1.cell 1
 have kb2 : X.cell? ⟨w.heap.size + 1,2,none⟩ = some (.slice b2 ys2.length cb2):=HX.out.2.1.cell 2
 have kb3 : X.cell? ⟨w.heap.size + 1,3,none⟩ = some (.bool m2):=HX.out.2.1.cell 3
 have kb4 : X.cell? ⟨w.heap.size + 1,4,none⟩ = some (.slice c2 us2.length cc2):=HX.out.2.1.cell 4
 have kb5 : X.cell? ⟨w.heap.size + 1,5,none⟩ = some (.slice d2 vs2.length cd2):=HX.out.2.1.cell 5
 go_enter Tryz.func130,Tryz.ntmps130
 go_wp2_with fail
 refine Calls.mono (H1.out _ HX.out.2.2) ?_
 rintro x w1 ⟨rfl,hb1⟩
 have HW1:=hid (bt HX.out.2.2 hb1)
 have HA1:=hid (HX.out.1.later hb1 HX.out.1.lt)
 have HB1:=hid (HX.out.2.1.later hb1 HX.out.2.1.lt)
 clear ka0 ka1 ka2 ka3 ka4 ka5 kb0 kb1 kb2 kb3 kb4 kb5 hb1 H1
 cases z1 with
 | false =>
  go_wp2_with fail
  go_ret
  exact ⟨rfl,HW1.out⟩
 | true =>
  have ka3 : w1.cell? ⟨w.heap.size,3,none⟩ = some (.bool m1):=HA1.out.cell 3
  have ka4 : w1.cell? ⟨w.heap.size,4,none⟩ = some (.slice c1 us1.length cc1):=HA1.out.cell 4
  have ka5 : w1.cell? ⟨w.heap.size,5,none⟩ = some (.slice d1 vs1.length cd1):=HA1.out.cell 5
  have kb3 : w1.cell? ⟨w.heap.size + 1,3,none⟩ = some (.bool m2):=HB1.out.cell 3
  have kb4 : w1.cell? ⟨w.heap.size + 1,4,none⟩ = some (.slice c2 us2.length cc2):=HB1.out.cell 4
  have kb5 : w1.cell? ⟨w.heap.size + 1,5,none⟩ = some (.slice d2 vs2.length cd2):=HB1.out.cell 5
  go_wp2_with fail
  refine Calls.mono (H2.out _ HW1.out) ?_
  rintro x w2 ⟨rfl,hb2⟩
  have HW2:=hid (bt HW1.out hb2)
  clear ka3 ka4 ka5 kb3 kb4 kb5 hb2 H2
  go_wp2_with fail
  go_ret
  exact ⟨by simp,HW2.out⟩
set_option maxRecDepth 100000 in
theorem tSame_any (s1 : ByteArray) (f1 r1 : Int) (n1 : Bool) (a1 : Option Addr) (ca1 : Nat) (xs1 : List Int) (b1 : Option Addr) (cb1 : Nat) (ys1 : List Int) (m1 : Bool) (c1 : Option Addr) (cc1 : Nat) (us1 : List Int) (d1 : Option Addr) (cd1 : Nat) (vs1 : List Int) (s2 : ByteArray) (f2 r2 : Int) (n2 : Bool) (a2 : Option Addr) (ca2 : Nat) (xs2 : List Int) (b2 : Option Addr) (cb2 : Nat) (ys2 : List Int) (m2 : Bool) (c2 : Option Addr) (cc2 : Nat) (us2 : List Int) (d2 : Option Addr) (cd2 : Nat) (vs2 : List Int) (w : World) (sx1 : Sl w (.slice a1 xs1.length ca1) xs1) (sy1 : Sl w (.slice b1 ys1.length cb1) ys1) (su1 : Sl w (.slice c1 us1.length cc1) us1) (sv1 : Sl w (.slice d1 vs1.length cd1) vs1) (sx2 : Sl w (.slice a2 xs2.length ca2) xs2) (sy2 : Sl w (.slice b2 ys2.length cb2) ys2) (su2 : Sl w (.slice c2 us2.length cc2) us2) (sv2 : Sl w (.slice d2 vs2.length cd2) vs2) (lxs1 : xs1.length <= 281474976710656) (lys1 : ys1.length <= 281474976710656) (lus1 : us1.length <= 281474976710656) (lvs1 : vs1.length <= 281474976710656) (lxs2 : xs2.length <= 281474976710656) (lys2 : ys2.length <= 281474976710656) (lus2 : us2.length <= 281474976710656) (lvs2 : vs2.length <= 281474976710656) :
 Calls Tryz.prog 77 #[.agg #[.string s1,.int .i32 f1,.int .i32 r1,.bool n1,.slice a1 xs1.length ca1,.slice b1 ys1.length cb1,.bool m1,.slice c1 us1.length cc1,.slice d1 vs1.length cd1],.agg #[.string s2,.int .i32 f2,.int .i32 r2,.bool n2,.slice a2 xs2.length ca2,.slice b2 ys2.length cb2,.bool m2,.slice c2 us2.length cc2,.slice d2 vs2.length cd2]] w fun x w' => x = .returned (.bool (decide (s1 = s2) && (f1 == f2 && r1 == r2) && (decide (n1 = n2 /\ xs1 = xs2 /\ ys1 = ys2) && decide (m1 = m2 /\ us1 = us2 /\ vs1 = vs2)))) /\ Below w.heap.size w w':=by
 have HX:=hid (boxes2r w 37 #[.string s1,.int .i32 f1,.int .i32 r1,.bool n1,.slice a1 xs1.length ca1,.slice b1 ys1.length cb1,.bool m1,.slice c1 us1.length cc1,.slice d1 vs1.length cd1] #[.string s2,.int .i32 f2,.int .i32 r2,.bool n2,.slice a2 xs2.length ca2,.slice b2 ys2.length cb2,.bool m2,.slice c2 us2.length cc2,.slice d2 vs2.length cd2])
 obtain ⟨X,hX⟩ : ∃ X,(w.alloc (.cells #[.string s1,.int .i32 f1,.int .i32 r1,.bool n1,.slice a1 xs1.length ca1,.slice b1 ys1.length cb1,.bool m1,.slice c1 us1.length cc1,.slice d1 vs1.length cd1] 37)).alloc (.cells #[.string s2,.int .i32 f2,.int .i32 r2,.bool n2,.slice a2 xs2.length ca2,.slice b2 ys2.length cb2,.bool m2,.slice c2 us2.length cc2,.slice d2 vs2.length cd2] 37) = X:=⟨_,rfl⟩
 rw [hX] at HX
 have H1:=hid (tnsame_any n1 a1 ca1 xs1 b1 cb1 ys1 m1 c1 cc1 us1 d1 cd1 vs1 n2 a2 ca2 xs2 b2 cb2 ys2 m2 c2 cc2 us2 d2 cd2 vs2 X (sx1.later HX.out.2.2) (sy1.later HX.out.2.2) (su1.later HX.out.2.2) (sv1.later HX.out.2.2) (sx2.later HX.out.2.2) (sy2.later HX.out.2.2) (su2.later HX.out.2.2) (sv2.later HX.out.2.2) lxs1 lys1 lus1 lvs1 lxs2 lys2 lus2 lvs2)
 clear sx1 sy1 su1 sv1 sx2 sy2 su2 sv2 lxs1 lys1 lus1 lvs1 lxs2 lys2 lus2 lvs2
 generalize (decide (n1 = n2 /\ xs1 = xs2 /\ ys1 = ys2) && decide (m1 = m2 /\ us1 = us2 /\ vs1 = vs2)) = z at *
 have hEQ:=troEq f1 r1 f2 r2
 have ka0 : X.cell? ⟨w.heap.size,0,none⟩ = some (.string s1):=HX.out.1.cell 0
 have ka1 : X.cell? ⟨w.heap.size,1,none⟩ = some (.int .i32 f1):=HX.out.1.cell 1
 have ka2 : X.cell? ⟨w.heap.size,2,none⟩ = some (.int .i32 r1):=HX.out.1.cell 2
 have ka3 : X.cell? ⟨w.heap.size,3,none⟩ = some (.bool n1):=HX.out.1.cell 3
 have ka4 : X.cell? ⟨w.heap.size,4,none⟩ = some (.slice a1 xs1.length ca1):=HX.out.1.cell 4
 have ka5 : X.cell? ⟨w.heap.size,5,none⟩ = some (.slice b1 ys1.length cb1):=HX.out.1.cell 5
 have ka6 : X.cell? ⟨w.heap.size,6,none⟩ = some (.bool m1):=HX.out.1.cell 6
 have ka7 : X.cell? ⟨w.heap.size,7,none⟩ = some (.slice c1 us1.length cc1):=HX.out.1.cell 7
 have ka8 : X.cell? ⟨w.heap.size,8,none⟩ = some (.slice d1 vs1.length cd1):=HX.out.1.cell 8
 have kb0 : X.cell? ⟨w.heap.size + 1,0,none⟩ = some (.string s2):=HX.out.2.1.cell 0
 have kb1 : X.cell? ⟨w.heap.size + 1,1,none⟩ = some (.int .i32 f2):=HX.out.2.1.cell 1
 have kb2 : X.cell? ⟨w.heap.size + 1,2,none⟩ = some (.int .i32 r2):=HX.out.2.1.cell 2
 have kb3 : X.cell? ⟨w.heap.size + 1,3,none⟩ = some (.bool n2):=HX.out.2.1.cell 3
 have kb4 : X.cell? ⟨w.heap.size + 1,4,none⟩ = some (.slice a2 xs2.length ca2):=HX.out.2.1.cell 4
 have kb5 : X.cell? ⟨w.heap.size + 1,5,none⟩ = some (.slice b2 ys2.length cb2):=HX.out.2.1.cell 5
 have kb6 : X.cell? ⟨w.heap.size + 1,6,none⟩ = some (.bool m2):=HX.out.2.1.cell 6
 have kb7 : X.cell? ⟨w.heap.size + 1,7,none⟩ = some (.slice c2 us2.length cc2):=HX.out.2.1.cell 7
 have kb8 : X.cell? ⟨w.heap.size + 1,8,none⟩ = some (.slice d2 vs2.length cd2):=HX.out.2.1.cell 8
 by_cases hs : s1 = s2
 · subst hs
   generalize (f1 == f2 && r1 == r2) = y at *
   cases y with
   | false =>
    go_enter Tryz.func77,Tryz.ntmps77
    go_wp2_with fail
    go_ret
    exact ⟨by simp,HX.out.2.2⟩
   | true =>
    go_enter Tryz.func77,Tryz.ntmps77
    go_wp2_with fail
    refine Calls.mono H1.out ?_
    rintro x w1 ⟨rfl,hb1⟩
    have HW1:=hid (bt HX.out.2.2 hb1)
    clear ka0 ka1 ka2 ka3 ka4 ka5 ka6 ka7 ka8 kb0 kb1 kb2 kb3 kb4 kb5 kb6 kb7 kb8 hb1 H1
    go_wp2_with fail
    go_ret
    exact ⟨by simp,HW1.out⟩
 · have hs':=tstr_other hs
   have HD : Hid (decide (s1 = s2) = false):=decide_eq_false hs
   rw [HD.out]
   clear hs
   go_enter Tryz.func77,Tryz.ntmps77
   go_wp2_with fail
   go_ret
   exact ⟨by simp [HD.out],HX.out.2.2⟩
def OHg (q : Rat) (B : Nat) : Prop:=q.num.natAbs <= B /\ q.den <= B
theorem OHg.up {q : Rat} {B C : Nat} (h : OHg q B) (hc : B <= C) : OHg q C:=⟨Nat.le_trans h.1 hc,Nat.le_trans h.2 hc⟩
theorem OHg.neg {q : Rat} {B : Nat} (h : OHg q B) : OHg (-q) B:=⟨by show (-q).num.natAbs <= B; rw [Rat.neg_num,Int.natAbs_neg]; exact h.1,by show (-q).den <= B; rw [Rat.neg_den]; exact h.2⟩
def qmul (p q : Rat × Rat) : Rat × Rat:=(p.1 * q.1 - p.2 * q.2,p.1 * q.2 + p.2 * q.1)
def qconj (p : Rat × Rat) : Rat × Rat:=(p.1,-p.2)
theorem qmul_assoc (p q r : Rat × Rat) : qmul (qmul p q) r = qmul p (qmul q r):=by
 unfold qmul
 apply Prod.ext
 · show (p.1 * q.1 - p.2 * q.2) * r.1 - (p.1 * q.2 + p.2 * q.1) * r.2 = p.1 * (q.1 * r.1 - q.2 * r.2) - p.2 * (q.1 * r.2 + q.2 * r.1)
   grind
 · show (p.1 * q.1 - p.2 * q.2) * r.2 + (p.1 * q.2 + p.2 * q.1) * r.1 = p.1 * (q.1 * r.2 + q.2 * r.1) + p.2 * (q.1 * r.1 - q.2 * r.2)
   grind
theorem qmul_comm (p q : Rat × Rat) : qmul p q = qmul q p:=by
 unfold qmul
 apply Prod.ext
 · show p.1 * q.1 - p.2 * q.2 = q.1 * p.1 - q.2 * p.2
   grind
 · show p.1 * q.2 + p.2 * q.1 = q.1 * p.2 + q.2 * p.1
   grind
theorem qmul_one (p : Rat × Rat) : qmul p (1,0) = p:=by
 unfold qmul
 apply Prod.ext
 · show p.1 * 1 - p.2 * 0 = p.1
   grind
 · show p.1 * 0 + p.2 * 1 = p.2
   grind
theorem qmul_conj (p q : Rat × Rat) : qmul (qconj p) (qconj q) = qconj (qmul p q):=by
 unfold qmul qconj
 apply Prod.ext
 · show p.1 * q.1 - -p.2 * -q.2 = p.1 * q.1 - p.2 * q.2
   grind
 · show p.1 * -q.2 + -p.2 * q.1 = -(p.1 * q.2 + p.2 * q.1)
   grind
theorem qmul_self {p : Rat × Rat} (h : p.1 * p.1 + p.2 * p.2 = 1) : qmul p (qconj p) = (1,0):=by
 unfold qmul qconj
 apply Prod.ext
 · show p.1 * p.1 - p.2 * -p.2 = 1
   grind
 · show p.1 * -p.2 + p.2 * p.1 = 0
   grind
theorem q_over (a b c d A B : Rat) (hA : A ≠ 0) (hB : B ≠ 0) : a / A * (b / B) - c / A * (d / B) = (a * b - c * d) / (A * B) /\ a / A * (b / B) + c / A * (d / B) = (a * b + c * d) / (A * B):=by
 constructor <;> grind
theorem o_negs (f n : Int) : oRe f (-n) = oRe f n /\ oIm f (-n) = -oIm f n /\ oNm f (-n) = oNm f n:=by
 have e1 : -n * -n = n * n:=Int.neg_mul_neg n n
 have e2 : f * -n = -(f * n):=Int.mul_neg f n
 refine ⟨by unfold oRe; rw [e1],?_,by unfold oNm; rw [e1]⟩
 unfold oIm
 rw [e1,e2]
 by_cases h : (f * f + n * n) % 2 = 0
 · rw [if_pos h,if_pos h]
 · rw [if_neg h,if_neg h]; omega
theorem oPn_eq (f n : Int) (t : Nat) : oPn f n t = (((zpow (oRe f n,oIm f n) t).1 : Rat) / ((oNm f n ^ t : Int) : Rat),((zpow (oRe f n,oIm f n) t).2 : Rat) / ((oNm f n ^ t : Int) : Rat)):=by
 unfold oPn
 rw [Rat.divInt_eq_div,Rat.divInt_eq_div]
theorem oD_ne {f n : Int} (h : rOK f n) (t : Nat) : ((oNm f n ^ t : Int) : Rat) ≠ 0:=by
 have:=oNm_pos h t
 intro e
 have e2 : ((oNm f n ^ t : Int) : Rat) = ((0 : Int) : Rat):=e
 have:=Rat.intCast_inj.1 e2
 omega
theorem oPn_conj (f n : Int) (t : Nat) : oPn f (-n) t = qconj (oPn f n t):=by
 rw [oPn_eq,oPn_eq,(o_negs f n).1,(o_negs f n).2.1,(o_negs f n).2.2]
 have e:=zpow_conj (oRe f n,oIm f n) t
 have e2 : zconj (oRe f n,oIm f n) = (oRe f n,-oIm f n):=rfl
 rw [e2] at e
 rw [e]
 unfold qconj zconj
 apply Prod.ext
 · rfl
 · show ((-(zpow (oRe f n,oIm f n) t).2 : Int) : Rat) / _ = -(((zpow (oRe f n,oIm f n) t).2 : Rat) / _)
   rw [Rat.intCast_neg]
   generalize ((zpow (oRe f n,oIm f n) t).2 : Rat) = y
   generalize ((oNm f n ^ t : Int) : Rat) = D
   grind
theorem oPn_add {f n : Int} (h : rOK f n) (s t : Nat) : oPn f n (s + t) = qmul (oPn f n s) (oPn f n t):=by
 have h1:=oD_ne h s
 have h2:=oD_ne h t
 rw [oPn_eq,oPn_eq,oPn_eq,zpow_add,Int.pow_add,Rat.intCast_mul]
 unfold qmul zmul
 generalize ((oNm f n ^ s : Int) : Rat) = A at *
 generalize ((oNm f n ^ t : Int) : Rat) = B at *
 generalize zpow (oRe f n,oIm f n) s = p
 generalize zpow (oRe f n,oIm f n) t = q
 apply Prod.ext
 · show ((p.1 * q.1 - p.2 * q.2 : Int) : Rat) / (A * B) = (p.1 : Rat) / A * ((q.1 : Rat) / B) - (p.2 : Rat) / A * ((q.2 : Rat) / B)
   rw [(q_over _ _ _ _ A B h1 h2).1,Rat.intCast_sub,Rat.intCast_mul,Rat.intCast_mul]
 · show ((p.1 * q.2 + p.2 * q.1 : Int) : Rat) / (A * B) = (p.1 : Rat) / A * ((q.2 : Rat) / B) + (p.2 : Rat) / A * ((q.1 : Rat) / B)
   rw [(q_over _ _ _ _ A B h1 h2).2,Rat.intCast_add,Rat.intCast_mul,Rat.intCast_mul]
theorem oPn_norm {f n : Int} (h : rOK f n) (t : Nat) : (oPn f n t).1 * (oPn f n t).1 + (oPn f n t).2 * (oPn f n t).2 = 1:=by
 have h1:=oD_ne h t
 have e:=zpow_norm (oRe f n,oIm f n) t
 have e2 : ((oRe f n,oIm f n).1 * (oRe f n,oIm f n).1 + (oRe f n,oIm f n).2 * (oRe f n,oIm f n).2) = oNm f n * oNm f n:=o_size h
 rw [e2,Int.mul_pow] at e
 have e3 : ((zpow (oRe f n,oIm f n) t).1 : Rat) * (zpow (oRe f n,oIm f n) t).1 + ((zpow (oRe f n,oIm f n) t).2 : Rat) * (zpow (oRe f n,oIm f n) t).2 = ((oNm f n ^ t : Int) : Rat) * ((oNm f n ^ t : Int) : Rat):=by
  rw [<- Rat.intCast_mul,<- Rat.intCast_mul,<- Rat.intCast_mul,<- Rat.intCast_add,e]
 rw [oPn_eq]
 show ((zpow (oRe f n,oIm f n) t).1 : Rat) / _ * (((zpow (oRe f n,oIm f n) t).1 : Rat) / _) + ((zpow (oRe f n,oIm f n) t).2 : Rat) / _ * (((zpow (oRe f n,oIm f n) t).2 : Rat) / _) = 1
 generalize ((oNm f n ^ t : Int) : Rat) = A at *
 generalize ((zpow (oRe f n,oIm f n) t).1 : Rat) = x at *
 generalize ((zpow (oRe f n,oIm f n) t).2 : Rat) = y at *
 rw [(q_over x x y y A A h1 h1).2,e3]
 grind
theorem oP_nat (f n : Int) (t : Nat) : oP f n (t : Int) = oPn f n t:=by
 unfold oP
 rw [if_pos (by omega),Int.toNat_natCast]
theorem oPn_zero (f n : Int) : oPn f n 0 = (1,0):=by
 rw [oPn_eq,Int.pow_zero]
 apply Prod.ext
 · show ((1 : Int) : Rat) / ((1 : Int) : Rat) = 1
   decide +kernel
 · show ((0 : Int) : Rat) / ((1 : Int) : Rat) = 0
   decide +kernel
theorem oP_negnat (f n : Int) (t : Nat) : oP f n (-(t : Int)) = qconj (oPn f n t):=by
 rcases Nat.eq_zero_or_pos t with h | h
 · subst h
   show oP f n ((0 : Nat) : Int) = _
   rw [oP_nat,oPn_zero]
   rfl
 · unfold oP
   rw [if_neg (by omega),Int.neg_neg,Int.toNat_natCast,oPn_conj]
theorem oP_mix {f n : Int} (h : rOK f n) (s t : Nat) : oP f n ((s : Int) - t) = qmul (oPn f n s) (qconj (oPn f n t)):=by
 rcases Nat.le_total t s with g | g
 · obtain ⟨d,rfl⟩ : ∃ d,s = t + d:=⟨s - t,by omega⟩
   rw [show ((t + d : Nat) : Int) - t = (d : Int) by omega,oP_nat,oPn_add h,qmul_comm (oPn f n t),qmul_assoc,qmul_self (oPn_norm h t),qmul_one]
 · obtain ⟨d,rfl⟩ : ∃ d,t = s + d:=⟨t - s,by omega⟩
   rw [show (s : Int) - ((s + d : Nat) : Int) = -(d : Int) by omega,oP_negnat,oPn_add h,<- qmul_conj,<- qmul_assoc,qmul_self (oPn_norm h s),qmul_comm,qmul_one]
theorem oP_add {f n : Int} (h : rOK f n) (s t : Int) : oP f n (s + t) = qmul (oP f n s) (oP f n t):=by
 rcases Int.le_total 0 s with gs | gs
 · obtain ⟨a,rfl⟩:=Int.eq_ofNat_of_zero_le gs
   rcases Int.le_total 0 t with gt | gt
   · obtain ⟨b,rfl⟩:=Int.eq_ofNat_of_zero_le gt
     rw [<- Int.natCast_add,oP_nat,oP_nat,oP_nat,oPn_add h]
   · obtain ⟨b,hb⟩:=Int.eq_ofNat_of_zero_le (show 0 <= -t by omega)
     have e : t = -(b : Int):=by omega
     rw [e,<- Int.sub_eq_add_neg,oP_mix h,oP_nat,oP_negnat]
 · obtain ⟨a,ha⟩:=Int.eq_ofNat_of_zero_le (show 0 <= -s by omega)
   have e : s = -(a : Int):=by omega
   rw [e]
   rcases Int.le_total 0 t with gt | gt
   · obtain ⟨b,rfl⟩:=Int.eq_ofNat_of_zero_le gt
     rw [Int.add_comm,<- Int.sub_eq_add_neg,oP_mix h,oP_nat,oP_negnat,qmul_comm]
   · obtain ⟨b,hb⟩:=Int.eq_ofNat_of_zero_le (show 0 <= -t by omega)
     have e : t = -(b : Int):=by omega
     rw [e,show -(a : Int) + -(b : Int) = -((a + b : Nat) : Int) by omega,oP_negnat,oP_negnat,oP_negnat,oPn_add h,qmul_conj]
theorem oPn_low {f n : Int} (h : rOK f n) (t : Nat) : (oPn f n t).1.num = (zpow (oRe f n,oIm f n) t).1 /\ ((oPn f n t).1.den : Int) = oNm f n ^ t /\ (oPn f n t).2.num = (zpow (oRe f n,oIm f n) t).2 /\ ((oPn f n t).2.den : Int) = oNm f n ^ t:=by
 have l:=o_low h t
 have a:=fr_num (oNm_pos h t) (show gcdI (zpow (oRe f n,oIm f n) t).1 (oNm f n ^ t) = 1 by unfold gcdI; rw [l.1]; rfl)
 have b:=fr_num (oNm_pos h t) (show gcdI (zpow (oRe f n,oIm f n) t).2 (oNm f n ^ t) = 1 by unfold gcdI; rw [l.2]; rfl)
 exact ⟨a.1,a.2,b.1,b.2⟩
theorem oPn_hg {f n : Int} (h : rOK f n) (t : Nat) : OHg (oPn f n t).1 (o2 (21 * t)) /\ OHg (oPn f n t).2 (o2 (21 * t)):=by
 have l:=oPn_low h t
 have b:=o_size2 h t
 have d : ∀ {x : Nat},(x : Int) = oNm f n ^ t -> x <= o2 (21 * t):=fun {x} e => by
  have:=b.2.2
  rw [<- e,Int.natAbs_natCast] at this
  exact this
 exact ⟨⟨by rw [l.1]; exact b.1,d l.2.1⟩,⟨by rw [l.2.2.1]; exact b.2.1,d l.2.2.2⟩⟩
theorem o2_le {m n : Nat} (h : m <= n) : o2 m <= o2 n:=Nat.pow_le_pow_right (by decide) h
theorem oP_hg {f n : Int} (h : rOK f n) (t : Int) (K : Nat) (hk : t.natAbs <= K) : OHg (oP f n t).1 (o2 (21 * K)) /\ OHg (oP f n t).2 (o2 (21 * K)):=by
 rcases Int.le_total 0 t with g | g
 · obtain ⟨k,rfl⟩:=Int.eq_ofNat_of_zero_le g
   rw [oP_nat]
   exact ⟨(oPn_hg h k).1.up (o2_le (by omega)),(oPn_hg h k).2.up (o2_le (by omega))⟩
 · obtain ⟨k,hk'⟩:=Int.eq_ofNat_of_zero_le (show 0 <= -t by omega)
   have e : t = -(k : Int):=by omega
   rw [e,oP_negnat]
   exact ⟨(oPn_hg h k).1.up (o2_le (by omega)),(oPn_hg h k).2.neg.up (o2_le (by omega))⟩
end Go.Proofs.YtnhmaijmmkplkaaGreatDoor
