/- My texts on the way to PortReal, one behind the other: contracts of the program and of the document's answers. -/
import Derived.Test.YtnfemheabikolaaGreatDoorK1
import Derived.Test.YtnfemheabikolaaGreatDoorK2
import Derived.Test.YtnfemheabikolaaGreatDoorK3
import Derived.Test.YtnfemheabikolaaGreatDoorShelf
import Derived.Lib.ItoaMem
import Derived.Lib.ItoaLen
import Derived.Lib.Walk
import Derived.Deep.LoopGhost
import Derived.Handy
import Derived.Lib.IndexLaws
import Derived.Deep.RegionHeld3
import Derived.Deep.RegionLaw
import Derived.Laws.AppendOwnNone
/- strconv.FormatUint to the base 10 tells a number's digits: of every number of 64 bits, where the library's table of powers of ten stands as its text lays it. -/
namespace Go.Proofs.YtnfemheabikolaaGreatDoor
open Go.RowKit Go.Lib Go.Sort
set_option linter.unusedVariables false

def Tab (w : World) : Prop := Lib.TabIs Tryz.prog w "internal/strconv.uint64pow10" .u64 Lib.pow10Tab
theorem Tab.later {w w' : World} (h : Tab w) (hb : Below w.heap.size w w') : Tab w' := by
  unfold Tab Lib.TabIs World.var? at *
  cases hg : Tryz.prog.globalNamed "internal/strconv.uint64pow10" with
  | none => simp [hg] at h
  | some g =>
    simp only [hg, Option.bind_some] at h ⊢
    have hlt : g < w.heap.size := by
      rcases Nat.lt_or_ge g w.heap.size with h' | h'
      · exact h'
      · rw [Array.getElem?_eq_none h'] at h; simp at h
    rw [hb.block g hlt]
    exact h

theorem holds_zero0 (w : World) (T : TypeId) (nd : Nat) (hs : nd ≤ 24) : Holds (fun (b : UInt8) => Value.int .u8 (b.toNat : Int)) (w.alloc (.cells zeros24 T)) w.heap.size 0 (Array.replicate nd (0 : UInt8)) := fun j hj => by
  have hj' : j < nd := by simpa using hj
  refine ⟨?_, World.frozen?_alloc_new _ _ _ _⟩
  rw [World.cell?_alloc_new, zeros24_at _ (by omega), getElem!_pos _ j hj]
  simp
theorem fin_pos0 (w : World) (o : Obj) (dk : Array UInt8) (k : Nat) : Below w.heap.size w ((putRow (fun (b : UInt8) => Value.int .u8 (b.toNat : Int)) (w.alloc o) w.heap.size 0 dk).drewN k) := by
  rw [alloc_eq_grow]
  obtain ⟨os', _, e⟩ := putRow_grow_new (fun (b : UInt8) => Value.int .u8 (b.toNat : Int)) w #[o] w.heap.size 0 dk (Nat.le_refl _)
  rw [e]
  refine ⟨rfl, rfl, rfl, ?_, fun j hj => ?_⟩
  · show w.heap.size ≤ (w.heap ++ os').size
    simp
  · show (w.heap ++ os')[j]? = _
    rw [Array.getElem?_append_left hj]

set_option maxHeartbeats 3200000 in
set_option maxRecDepth 100000 in
theorem formatUint_any (u : Nat) (hu64 : u < 18446744073709551616) (w : World) (htab : Tab w) :
    Calls Tryz.prog 243 #[.int .u64 u, .int .i64 10] w fun e w' => e = .returned (.string ⟨(Lib.decDigits u).toArray⟩) ∧ Below w.heap.size w w' := by
  by_cases hs : u < 100
  · have hlt : (u : Int) < 100 := by omega
    go_enter Tryz.func243, Tryz.ntmps243
    go_wp2_with fail
    refine (Tryz.internal_strconv_small u hs _).mono ?_
    rintro e w' ⟨rfl, rfl⟩
    go_wp2
    go_ret
    exact ⟨rfl, Below.refl _ _⟩
  · have hu1 : 1 ≤ u := by omega
    have hge : ¬ (u : Int) < 100 := by omega
    have hnd20 : Lib.nDigits u ≤ 20 := nDigits_le20 u hu64
    have hnd24 : Lib.nDigits u ≤ 24 := by omega
    have hal : Tryz.prog.arrayLen 238 = 24 := by kernel_rfl
    have hsl : ∀ W, (Instr.sliceAt 238 (.pointer (some ⟨w.heap.size, 0, none⟩)) none (some (.int .i64 (Lib.nDigits u : Int))) none).run Tryz.prog W = .ok (.slice (some ⟨w.heap.size, 0, none⟩) (Lib.nDigits u) 24) W := fun W => by
      rw [run_sliceAt_array_h W 238 ⟨w.heap.size, 0, none⟩ (by kernel_rfl) .i64 (Lib.nDigits u : Int) (by omega) (by rw [hal]; omega)]
      go_simp
    have hH0 := holds_zero0 w 238 (Lib.nDigits u) (by omega)
    have hfmt := Tryz.internal_strconv_formatBase10 w.heap.size 0 24 u (Array.replicate (Lib.nDigits u) 0) (w.alloc (.cells Lib.zeros24 238)) hH0 (by rw [Array.size_replicate]; exact Lib.lt_pow_nDigits u) hu64 (by rw [Array.size_replicate]; omega)
    rw [Array.size_replicate] at hfmt
    have HH0 := hid hH0
    have HFM := hid hfmt
    have HT := hid (Lib.tabIs_alloc htab (.cells Lib.zeros24 238))
    clear hH0 hal hfmt htab
    go_enter Tryz.func243, Tryz.ntmps243
    go_wp2_with fail
    refine (Tryz.internal_strconv_numDigits u hu1 hu64 _ HT.out).mono ?_
    rintro e w' ⟨rfl, rfl⟩
    go_wp2_with fail
    refine Calls.mono HFM.out ?_
    rintro e w' ⟨rfl, k, v', dk, rfl, hF⟩
    have HF := hid hF
    have hcv : (convert 98 9 (.slice (some ⟨w.heap.size, 0, none⟩) (Lib.nDigits u) 24)).run Tryz.prog ((putRow (fun (b : UInt8) => Value.int .u8 (b.toNat : Int)) (w.alloc (.cells Lib.zeros24 238)) w.heap.size 0 dk).drewN k) = .ok (.string ⟨(Lib.decDigits u).toArray⟩) ((putRow (fun (b : UInt8) => Value.int .u8 (b.toNat : Int)) (w.alloc (.cells Lib.zeros24 238)) w.heap.size 0 dk).drewN k) := by
      have h := run_convert_bytes_back (P := Tryz.prog) ((putRow (fun (b : UInt8) => Value.int .u8 (b.toNat : Int)) (w.alloc (.cells Lib.zeros24 238)) w.heap.size 0 dk).drewN k) 98 9 5 ⟨w.heap.size, 0, none⟩ 24 (Lib.decDigits u) Tryz.underlying98 Tryz.underlying5 Tryz.underlying9 (fun j hj => by
        rw [Lib.add_plain, Lib.row_is_numeral hF j hj, World.cell?_drewN]
        exact cell?_putRow (fun (b : UInt8) => Value.int .u8 (b.toNat : Int)) _ w.heap.size 0 _ dk HH0.out (by rw [hF.size, Array.size_replicate]) j (by rw [hF.size]; rw [Lib.decDigits_length] at hj; exact hj))
      rw [Lib.decDigits_length] at h
      exact h
    clear hF
    go_wp2
    go_ret
    exact ⟨rfl, fin_pos0 w _ dk k⟩

set_option maxHeartbeats 800000 in
set_option maxRecDepth 100000 in
theorem format_any (u : Nat) (hu64 : u < 18446744073709551616) (w : World) (htab : Tab w) :
    Calls Tryz.prog 204 #[.int .u64 u, .int .i64 10] w fun e w' => e = .returned (.string ⟨(Lib.decDigits u).toArray⟩) ∧ Below w.heap.size w w' := by
  go_enter Tryz.func204, Tryz.ntmps204
  go_wp2_with fail
  refine (formatUint_any u hu64 w htab).mono ?_
  rintro e w' ⟨rfl, hb⟩
  go_wp2
  go_ret
  exact ⟨rfl, hb⟩
end Go.Proofs.YtnfemheabikolaaGreatDoor

/- nat.Print tells the decimal digits of a number's value, or its error: of every list that can be read, where the library's table of powers of ten stands as its text lays it. -/
namespace Go.Proofs.YtnfemheabikolaaGreatDoor
open Go.RowKit Go.Lib
set_option linter.unusedVariables false

def pad : Nat → Nat → List UInt8
  | 0, _ => []
  | k + 1, p => pad k (p / 10) ++ [UInt8.ofNat (48 + p % 10)]
theorem digits_pad (hi : Nat) (h : 1 ≤ hi) : ∀ (k p : Nat), p < 10 ^ k → decDigits (hi * 10 ^ k + p) = decDigits hi ++ pad k p
  | 0, p, hp => by
    have : p = 0 := by simpa using hp
    subst this; simp [pad]
  | k + 1, p, hp => by
    have hk : 1 ≤ 10 ^ k := Nat.one_le_pow _ _ (by decide)
    have e1 : hi * 10 ^ (k + 1) = hi * 10 ^ k * 10 := by rw [Nat.pow_succ, Nat.mul_assoc]
    have h2 : hi ≤ hi * 10 ^ k := Nat.le_mul_of_pos_right hi hk
    have hge : ¬ hi * 10 ^ (k + 1) + p < 10 := by omega
    rw [decDigits, dif_neg hge]
    have e2 : (hi * 10 ^ (k + 1) + p) / 10 = hi * 10 ^ k + p / 10 := by omega
    have e3 : (hi * 10 ^ (k + 1) + p) % 10 = p % 10 := by omega
    rw [e2, e3, digits_pad hi h k (p / 10) (by rw [Nat.pow_succ] at hp; omega), pad, List.append_assoc]
theorem pad_eq : ∀ (k p : Nat), p < 10 ^ (k + 1) → pad (k + 1) p = List.replicate (k + 1 - nDigits p) 48 ++ decDigits p ∧ nDigits p ≤ k + 1
  | 0, p, hp => by
    have h10 : p < 10 := by simpa using hp
    rw [nDigits_small h10, decDigits_one h10]
    refine ⟨?_, Nat.le_refl _⟩
    simp [pad]
    congr 1
    omega
  | k + 1, p, hp => by
    by_cases h10 : p < 10
    · have ih := pad_eq k (p / 10) (by rw [Nat.pow_succ] at hp; omega)
      have e0 : p / 10 = 0 := by omega
      rw [e0, nDigits_small (by omega), decDigits_one (by omega)] at ih
      rw [nDigits_small h10, decDigits_one h10]
      refine ⟨?_, by omega⟩
      show pad (k + 1) (p / 10) ++ _ = _
      rw [e0, ih.1]
      have e1 : k + 1 + 1 - 1 = (k + 1 - 1) + 1 := by omega
      rw [e1, List.replicate_succ', show p % 10 = p by omega]
      rfl
    · have ih := pad_eq k (p / 10) (by rw [Nat.pow_succ] at hp; omega)
      rw [nDigits_big h10]
      refine ⟨?_, by omega⟩
      show pad (k + 1) (p / 10) ++ _ = _
      rw [ih.1, decDigits.eq_def p, dif_neg h10, List.append_assoc]
      congr 2
      omega

theorem repeat_noughts : ∀ c, repeatL [48] c = List.replicate c 48
  | 0 => rfl
  | c + 1 => by show [48] ++ repeatL [48] c = _; rw [repeat_noughts c]; rfl

theorem piece_step (ps : List Int) (hp : Pc ps) (k : Nat) (hk : k + 1 < ps.length) (htop : 0 < ps[ps.length - 1]?.getD 0) :
    decDigits (pval (ps.drop k)).toNat = decDigits (pval (ps.drop (k + 1))).toNat ++ (List.replicate (9 - nDigits (ps[k]?.getD 0).toNat) 48 ++ decDigits (ps[k]?.getD 0).toNat) ∧ nDigits (ps[k]?.getD 0).toNat ≤ 9 := by
  have hb := hp.at k
  have e1 : ps.drop k = ps[k]?.getD 0 :: ps.drop (k + 1) := by
    rw [List.drop_eq_getElem_cons (by omega), List.getElem?_eq_getElem (by omega)]; rfl
  have hpc : Pc (ps.drop (k + 1)) := fun q hq => hp q (List.mem_of_mem_drop hq)
  have hpos : 1 ≤ pval (ps.drop (k + 1)) := by
    have main : ∀ l : List Int, Pc l → 0 < l.length → 0 < l[l.length - 1]?.getD 0 → 1 ≤ pval l := by
      intro l
      induction l with
      | nil => intro _ h; simp at h
      | cons q l ih =>
        intro hc _ ht
        have hq := hc q List.mem_cons_self
        show 1 ≤ q + pval l * 1000000000
        rcases l with _ | ⟨q2, l⟩
        · simp at ht; simp [pval]; omega
        · have := ih (fun x hx => hc x (List.mem_cons_of_mem _ hx)) (by simp) (by simpa using ht)
          omega
    refine main _ hpc (by rw [List.length_drop]; omega) ?_
    rw [List.getElem?_drop, List.length_drop, show k + 1 + (ps.length - (k + 1) - 1) = ps.length - 1 by omega]
    exact htop
  have e2 : (pval (ps.drop k)).toNat = (pval (ps.drop (k + 1))).toNat * 10 ^ 9 + (ps[k]?.getD 0).toNat := by
    rw [e1]
    show (ps[k]?.getD 0 + pval (ps.drop (k + 1)) * 1000000000).toNat = _
    omega
  have pe := pad_eq 8 (ps[k]?.getD 0).toNat (by omega)
  rw [e2, digits_pad _ (by omega) 9 _ (by omega), pe.1]
  exact ⟨rfl, pe.2⟩

theorem builder_later {T e B b : Nat} {bs : List Value} {w w' : World} (h : IsBuilder T e B b bs w) (hb : Below w.heap.size w w') : IsBuilder T e B b bs w' := by
  have main : ∀ p, BuilderAt T e B b p bs w → BuilderAt T e B b p bs w' := by
    intro p h
    have hlt := h.lt
    obtain ⟨hB, v, hbk, hown, hne⟩ := h
    exact ⟨hB, v, (hb.block b hlt).trans hbk, owns_later hown hb, hne⟩
  exact h.imp (main _) (main _)
theorem builder_lt {T e B b : Nat} {bs : List Value} {w : World} (h : IsBuilder T e B b bs w) : b < w.heap.size := by
  rcases h with h | h
  · exact h.lt
  · exact h.lt

theorem ret_text {a b : ByteArray} {c d : Int} (h : a = b) (g : c = d) : Ending.returned (.tuple #[.string a, .int .i64 c]) = .returned (.tuple #[.string b, .int .i64 d]) := by rw [h, g]

set_option maxHeartbeats 6400000 in
set_option maxRecDepth 100000 in
theorem print_any (v : Value) (xs : List Int) (w : World) (h : Sl w v xs) (hn : xs.length ≤ 281474976710656) (htab : Tab w) :
    Calls Tryz.prog 153 #[v] w fun e w' => e = .returned (.tuple #[.string (if chk xs = 0 then ⟨(decDigits (val xs).toNat).toArray⟩ else ⟨#[]⟩), .int .i64 (chk xs)]) ∧ Below w.heap.size w w' := by
  by_cases hc : chk xs = 0
  · have HC := hid (check_sl v xs w h hn)
    rw [hc] at HC ⊢
    rw [if_pos rfl]
    have l1 := (chk_ok hc).1
    have t1 := (chk_ok hc).2
    have wx := h.wd
    clear hc
    by_cases h0 : xs.length = 0
    · have hx : xs = [] := List.eq_nil_of_length_eq_zero h0
      have HF : Hid ((⟨(decDigits (val xs).toNat).toArray⟩ : ByteArray) = ⟨#[48]⟩) := by
        show _ = _
        rw [hx, val_nil, show Int.toNat 0 = 0 from rfl, decDigits_one (by decide)]
        rfl
      obtain ⟨a, cap, rfl, hr⟩ := h
      have hz : ((xs.length : Int) == 0) = true := by simp [hx]
      clear hx h0 hr t1
      go_enter Tryz.func153, Tryz.ntmps153
      go_wp2_with fail
      refine Calls.mono HC.out ?_
      rintro e w' ⟨rfl, rfl⟩
      go_wp2_with fail
      go_ret2
      exact ⟨ret_text HF.out.symm rfl, Below.refl _ _⟩
    · have hz : ((xs.length : Int) == 0) = false := by simp; exact fun e => h0 (by simp [e])
      have HS := hid (split_any v xs w h l1 t1 (by omega))
      have HT := hid htab
      obtain ⟨a, cap, rfl, hr⟩ := h
      clear hr t1 h0 htab
      go_enter Tryz.func153, Tryz.ntmps153
      go_wp2_with fail
      refine Calls.mono HC.out ?_
      rintro e w' ⟨rfl, rfl⟩
      go_wp2_with fail
      refine Calls.mono HS.out ?_
      rintro e w1 ⟨vp, ps, rfl, op, hpc, hpv, hp0, hp1, htop, hb1⟩
      obtain ⟨gp, cp, hvp, hcp1, hcp2⟩ := own_shape' op hp0
      rw [hvp] at op ⊢
      have hgp := op.lt gp rfl
      have hcell : ∀ j, j < ps.length → w1.cell? ⟨gp, j, none⟩ = some (.int .u32 (ps[j]?.getD 0)) := fun j hj => by
        rw [op.cellAt j (by omega), List.getElem?_map, List.getElem?_eq_getElem hj]; rfl
      have HCE := hid hcell
      have HPV := hid hpv
      have HTP := hid htop
      obtain ⟨K, hK⟩ : ∃ K, K = ps.length := ⟨_, rfl⟩
      have HK := hid hK
      rw [← hK] at hp0 hp1 hcp1 ⊢
      have hs1 := hb1.size
      have hcp3 : cp ≤ 9223372036854775807 := by unfold maxLen at hcp2; omega
      obtain ⟨b, hb⟩ : ∃ b, b = w1.heap.size := ⟨_, rfl⟩
      have HBB : Hid (IsBuilder 100 5 b b (byteCells []) (w1.alloc (.cells #[.pointer none, .slice none 0 0] 100))) := by
        left
        exact ⟨Nat.le_refl _, .slice none 0 0, by rw [hb]; exact heap_alloc_new w1 _, World.ownsRow_nil _ _ _ _, by simp [Value.ownBlock]⟩
      have hbA : Below w.heap.size w (w1.alloc (.cells #[.pointer none, .slice none 0 0] 100)) := hb1.alloc hs1 _
      have hbB : Below b w1 (w1.alloc (.cells #[.pointer none, .slice none 0 0] 100)) := (Below.refl _ _).alloc (by omega) _
      have hgpb : gp < b := by omega
      have hwb : w.heap.size ≤ b := by omega
      clear op hcell hpv htop hK hcp2 hvp hs1 HS HC
      go_wp2_with fail
      rw [← hb]
      clear hb
      go_loopw [7] (fun t wr => ∃ (k : Nat) (txt : List UInt8), k ≤ K ∧ t = .int .i64 ((k : Int) - 1) ∧ Hid (k < K → txt = decDigits (pval (ps.drop k)).toNat) ∧ Hid (k = K → txt = []) ∧ txt.length ≤ 9 * (K - k) ∧
        IsBuilder 100 5 b b (byteCells txt) wr ∧ Below w.heap.size w wr ∧ Below b w1 wr) (fun t _ => (RowKit.intOf t + 1).toNat)
      case atStart => exact ⟨K, [], Nat.le_refl _, rfl, fun e => by omega, fun _ => rfl, by simp, HBB.out, hbA, hbB⟩
      case round =>
        obtain ⟨k, txt, hk, rfl, HX, HY, hlen, hbu, hb2, hb3⟩ := hrel
        have hblt := builder_lt hbu
        rcases k with _ | k
        · have HX' : Hid (txt = decDigits (val xs).toNat) := by
            show _ = _
            rw [HX.out hp0, List.drop_zero, HPV.out]
          clear HX HY
          go_wp2_with fail
          refine (Tryz.Builder_String_any b b txt wr hbu (by omega)).mono ?_
          rintro e w3 ⟨rfl, hb4⟩
          have hbF : Below w.heap.size w w3 := hb2.trans (hb4.mono hwb)
          go_wp2_with fail
          go_ret2
          exact ⟨ret_text (by rw [HX'.out]) rfl, hbF⟩
        · have ek : (((k + 1 : Nat) : Int) - 1) = (k : Int) := by omega
          rw [ek]
          clear ek
          have bp := hpc.at k
          have x1 : wr.cell? ⟨gp, k, none⟩ = some (.int .u32 (ps[k]?.getD 0)) := (hb3.cell (p := ⟨gp, k, none⟩) hgpb).trans (HCE.out k (by have := HK.out; omega))
          obtain ⟨p, hp⟩ : ∃ p : Nat, (p : Int) = ps[k]?.getD 0 := ⟨(ps[k]?.getD 0).toNat, by omega⟩
          rw [← hp] at x1 bp
          have hp9 : p < 1000000000 := by omega
          have HP := hid hp
          have htw := HT.out.later hb2
          clear hp bp
          go_wp2_with fail
          refine (format_any p (by omega) wr htw).mono ?_
          rintro e w4 ⟨rfl, hb4⟩
          have hnd : nDigits p ≤ 9 := (pad_eq 8 p (by omega)).2
          obtain ⟨S, hS⟩ : ∃ S : ByteArray, S = ⟨(decDigits p).toArray⟩ := ⟨_, rfl⟩
          have hSs : S.size = nDigits p := by rw [hS, ← decDigits_length]; exact List.size_toArray
          rw [← hS]
          have hSn : S.size ≤ 9 := by omega
          have HSE := hid hS
          have HSS := hid hSs
          have hbu4 := builder_later hbu hb4
          have hs4 := hb4.size
          have hb24 : Below w.heap.size w w4 := bt hb2 hb4
          have hb34 : Below b w1 w4 := hb3.trans (hb4.mono (by omega))
          clear hS hSs hbu hb4 htw x1 hb2 hb3
          by_cases hlast : k + 1 < K
          · have hli : (k : Int) < (K : Int) - 1 := by omega
            go_wp2_with fail
            rw [show (9 : Int) - (S.size : Int) = ((9 - S.size : Nat) : Int) by omega]
            refine (Tryz.strings_Repeat ⟨#[48]⟩ (9 - S.size) w4 (by omega) (by show 1 * _ ≤ _; omega)).mono ?_
            rintro e w5 ⟨rfl, hb5⟩
            have hbu5 := builder_later hbu4 hb5
            have hs5 := hb5.size
            obtain ⟨Z, hZ⟩ : ∃ Z : ByteArray, Z = ⟨(repeatL [48] (9 - S.size)).toArray⟩ := ⟨_, rfl⟩
            have hZs : Z.size = 9 - S.size := by rw [hZ]; show (repeatL [48] (9 - S.size)).toArray.size = _; rw [List.size_toArray, repeatL_length]; simp
            have hZ' : Z = ⟨(repeatL (ByteArray.mk #[48]).data.toList (9 - S.size)).toArray⟩ := hZ
            rw [← hZ']
            have HZE := hid hZ
            have hb25 : Below w.heap.size w w5 := bt hb24 hb5
            have hb35 : Below b w1 w5 := hb34.trans (hb5.mono (by omega))
            have HZS := hid hZs
            have hz9 : Z.size ≤ 9 := by omega
            clear hZ hZ' hZs hbu4 hb5 hb24 hb34
            go_wp2_with fail
            refine (Tryz.Builder_WriteString b b (byteCells txt) Z w5 hbu5 (by rw [byteCells_length]; omega) (by omega)).mono ?_
            rintro e w6 ⟨rfl, hbu6, hb6⟩
            have hs6 := hb6.size
            have hb26 : Below w.heap.size w w6 := hb25.trans (hb6.mono hwb)
            have hb36 : Below b w1 w6 := hb35.trans hb6
            rw [strCells_eq, ← byteCells_append] at hbu6
            clear hbu5 hb6 hb25 hb35
            go_wp2_with fail
            refine (Tryz.Builder_WriteString b b (byteCells (txt ++ Z.data.toList)) S w6 (.inr hbu6) (by have e1 : Z.data.toList.length = Z.size := Array.length_toList; rw [byteCells_length, List.length_append]; omega) (by omega)).mono ?_
            rintro e w7 ⟨rfl, hbu7, hb7⟩
            have hb27 : Below w.heap.size w w7 := hb26.trans (hb7.mono hwb)
            have hb37 : Below b w1 w7 := hb36.trans hb7
            rw [strCells_eq, ← byteCells_append] at hbu7
            have HB7 := hid (show IsBuilder 100 5 b b (byteCells (txt ++ Z.data.toList ++ S.data.toList)) w7 from .inr hbu7)
            have HTX : Hid (txt ++ Z.data.toList ++ S.data.toList = decDigits (pval (ps.drop k)).toNat) := by
              show _ = _
              have st := piece_step ps hpc k (by have := HK.out; omega) HTP.out
              have ep : (ps[k]?.getD 0).toNat = p := by have := HP.out; omega
              rw [ep] at st
              rw [st.1, HX.out hlast, HZE.out, HSS.out, HSE.out, repeat_noughts, List.append_assoc]
            have HLN : Hid ((txt ++ Z.data.toList ++ S.data.toList).length ≤ 9 * (K - k)) := by
              show _ ≤ _
              have e1 : Z.data.toList.length = Z.size := Array.length_toList
              have e2 : S.data.toList.length = S.size := Array.length_toList
              have := HZS.out
              rw [List.length_append, List.length_append]
              omega
            clear hbu6 hbu7 hb7 hb26 hb36 HX HY
            go_wp2_with fail
            go_roundw
            case rel => exact ⟨k, _, by omega, rfl, fun _ => HTX.out, fun e => by omega, HLN.out, HB7.out, hb27, hb37⟩
            case measure => simp [RowKit.intOf]
          · have hkK : k + 1 = K := by omega
            have hli : ¬ (k : Int) < (K : Int) - 1 := by omega
            have htx : txt = [] := HY.out hkK
            go_wp2_with fail
            refine (Tryz.Builder_WriteString b b (byteCells txt) S w4 hbu4 (by rw [byteCells_length]; omega) (by omega)).mono ?_
            rintro e w5 ⟨rfl, hbu5, hb5⟩
            rw [strCells_eq, ← byteCells_append] at hbu5
            have hb25 : Below w.heap.size w w5 := hb24.trans (hb5.mono hwb)
            have hb35 : Below b w1 w5 := hb34.trans hb5
            have HB5 := hid (show IsBuilder 100 5 b b (byteCells (txt ++ S.data.toList)) w5 from .inr hbu5)
            have HTX : Hid (txt ++ S.data.toList = decDigits (pval (ps.drop k)).toNat) := by
              show _ = _
              have ed : ps.drop k = [ps[k]?.getD 0] := by
                rw [List.drop_eq_getElem_cons (by have := HK.out; omega), List.getElem?_eq_getElem (by have := HK.out; omega), List.drop_eq_nil_of_le (by have := HK.out; omega)]; rfl
              have ep : (ps[k]?.getD 0).toNat = p := by have := HP.out; omega
              rw [htx, ed, HSE.out]
              simp [pval, ep]
            have HLN : Hid ((txt ++ S.data.toList).length ≤ 9 * (K - k)) := by
              show _ ≤ _
              have e2 : S.data.toList.length = S.size := Array.length_toList
              rw [List.length_append, htx]
              simp
              omega
            clear hbu4 hbu5 hb5 hb24 hb34 HX HY htx
            go_wp2_with fail
            go_roundw
            case rel => exact ⟨k, _, by omega, rfl, fun _ => HTX.out, fun e => by omega, HLN.out, HB5.out, hb25, hb35⟩
            case measure => simp [RowKit.intOf]
  · have hne : (chk xs != 0) = true := by simp [hc]
    rw [if_neg hc]
    clear hc
    go_enter Tryz.func153, Tryz.ntmps153
    go_wp2_with fail
    refine (check_sl v xs w h hn).mono ?_
    rintro e w' ⟨rfl, rfl⟩
    go_wp2
    go_ret2
    exact ⟨rfl, Below.refl _ _⟩
end Go.Proofs.YtnfemheabikolaaGreatDoor

/- nat.Parse reads decimal digits, or tells the error: of every text. -/
namespace Go.Proofs.YtnfemheabikolaaGreatDoor
open Go.RowKit
set_option linter.unusedVariables false

theorem size_list (s : ByteArray) : s.data.toList.length = s.size := Array.length_toList
end Go.Proofs.YtnfemheabikolaaGreatDoor

/- nat.timesPiece, nat.join: the number of digits, piece by piece, in new memory. -/
namespace Go.Proofs.YtnfemheabikolaaGreatDoor
open Go.RowKit
set_option linter.unusedVariables false

end Go.Proofs.YtnfemheabikolaaGreatDoor

/- nat.join, nat.Parse: the number of digits, piece by piece, in new memory; every text read, or its error. -/
namespace Go.Proofs.YtnfemheabikolaaGreatDoor
open Go.RowKit
set_option linter.unusedVariables false

end Go.Proofs.YtnfemheabikolaaGreatDoor

/- What the laws' own example says. -/
namespace Go.Proofs.YtnfemheabikolaaGreatDoor
open Go.RowKit
set_option linter.unusedVariables false

end Go.Proofs.YtnfemheabikolaaGreatDoor

/- The law NatBack answers true, and writes nothing that was there: whatever list and text come in, where the library's table of powers of ten stands as its text lays it. -/
namespace Go.Proofs.YtnfemheabikolaaGreatDoor
open Go.RowKit Go.Lib
set_option linter.unusedVariables false

end Go.Proofs.YtnfemheabikolaaGreatDoor

/- Whole numbers as texts: whole.Print, strings.CutPrefix by a minus, whole.Parse. -/
namespace Go.Proofs.YtnfemheabikolaaGreatDoor
open Go.RowKit Go.Lib
set_option linter.unusedVariables false

theorem wdec_len : ∀ (k n : Nat), n < 10 ^ (k + 1) → (decDigits n).length ≤ k + 1
  | 0, n, h => by rw [decDigits_one (by simpa using h)]; simp
  | k + 1, n, h => by
    by_cases c : n < 10
    · rw [decDigits_one c]; simp
    · have ih := wdec_len k (n / 10) (by rw [Nat.pow_succ] at h; omega)
      rw [decDigits, dif_neg c, List.length_append, List.length_singleton]
      omega
theorem ten_pow (m : Nat) : (4294967296 : Int) ^ m ≤ 10 ^ (10 * m) := by
  induction m with
  | zero => simp
  | succ m ih =>
    rw [pw_succ, show 10 * (m + 1) = 10 * m + 10 by omega, Int.pow_add]
    have p := pw_pos m
    have e : (10 : Int) ^ 10 = 10000000000 := by decide
    rw [e]
    omega
theorem dec_short' {xs : List Int} (hw : Wd xs) (m : Nat) (hl : xs.length ≤ m) : (decDigits (val xs).toNat).length ≤ 10 * m + 1 := by
  have h1 := val_lt hw
  have h2 : (4294967296 : Int) ^ xs.length ≤ 4294967296 ^ m := pw_le hl
  have h3 := ten_pow m
  have h0 := val_nonneg hw
  have h4 : val xs < 10 ^ (10 * m) := Int.lt_of_lt_of_le h1 (Int.le_trans h2 h3)
  have h6 : (10 : Int) ^ (10 * m + 1) = 10 ^ (10 * m) * 10 := Int.pow_succ _ _
  have h7 : (0 : Int) < 10 ^ (10 * m) := Int.pow_pos (by decide)
  have h5 : (((val xs).toNat : Nat) : Int) < ((10 ^ (10 * m + 1) : Nat) : Int) := by
    rw [Int.toNat_of_nonneg h0, Int.natCast_pow]
    show _ < (10 : Int) ^ (10 * m + 1)
    rw [h6]; omega
  exact wdec_len (10 * m) _ (Int.ofNat_lt.1 h5)
theorem dec_short {xs : List Int} (hw : Wd xs) (hl : xs.length ≤ 2048) : (decDigits (val xs).toNat).length ≤ 20481 := by
  have := dec_short' hw 2048 hl
  omega
def wtext (n : Bool) (xs : List Int) : List UInt8 := (if n then [45] else []) ++ decDigits (val xs).toNat

set_option maxHeartbeats 1600000 in
set_option maxRecDepth 100000 in
theorem wprint_any (n : Bool) (v : Value) (xs : List Int) (w : World) (h : Sl w v xs) (hx : wchk n xs = 0) (htab : Tab w) :
    Calls Tryz.prog 151 #[.agg #[.bool n, v]] w fun e w' => ∃ T : ByteArray, e = .returned (.tuple #[.string T, .int .i64 0]) ∧ T.data.toList = wtext n xs ∧ Below w.heap.size w w' := by
  obtain ⟨lx, tx, _⟩ := wchk_ok hx
  have wx := h.wd
  have HB := hid (alloc_later w (.cells #[.bool n, v] 160))
  have HX := hid (Box.made w 160 #[.bool n, v])
  have HC := hid (wcheck_any n v xs _ (h.later HB.out) (by omega))
  rw [hx] at HC
  have HP := hid (fun w1 (hb : Below (w.alloc (.cells #[.bool n, v] 160)).heap.size (w.alloc (.cells #[.bool n, v] 160)) w1) => print_any v xs w1 ((h.later HB.out).later hb) (by omega) (htab.later (bt HB.out hb)))
  rw [chk_good (by omega) tx, if_pos rfl] at HP
  obtain ⟨D, hD⟩ : ∃ D : ByteArray, D = ⟨(decDigits (val xs).toNat).toArray⟩ := ⟨_, rfl⟩
  have hds : D.size ≤ 20481 := by
    have e : D.size = (decDigits (val xs).toNat).length := by rw [hD]; exact (size_list _).symm
    rw [e]; exact dec_short wx lx
  have HDL : Hid (D.data.toList = decDigits (val xs).toNat) := by rw [hD]; rfl
  rw [← hD] at HP
  obtain ⟨a, cap, rfl, hr⟩ := h
  clear hr hD hx
  cases n with
  | false =>
    go_enter Tryz.func151, Tryz.ntmps151
    go_wp2_with fail
    refine Calls.mono HC.out ?_
    rintro e w1 ⟨rfl, hb1⟩
    obtain ⟨p0, p1, _, _⟩ := res_box HX.out hb1
    have HP1 := hid (HP.out w1 hb1)
    have HB1 := hid hb1
    clear hb1 HP
    go_wp2_with fail
    refine Calls.mono HP1.out ?_
    rintro e w2 ⟨rfl, hb2⟩
    obtain ⟨q0, q1, _, _⟩ := res_box HX.out (bt HB1.out hb2)
    have hbF := bt HB.out (bt HB1.out hb2)
    clear hb2 p0 p1
    go_wp2_with fail
    go_ret2
    exact ⟨D, rfl, HDL.out, hbF⟩
  | true =>
    go_enter Tryz.func151, Tryz.ntmps151
    go_wp2_with fail
    refine Calls.mono HC.out ?_
    rintro e w1 ⟨rfl, hb1⟩
    obtain ⟨p0, p1, _, _⟩ := res_box HX.out hb1
    have HP1 := hid (HP.out w1 hb1)
    have HB1 := hid hb1
    clear hb1 HP
    go_wp2_with fail
    refine Calls.mono HP1.out ?_
    rintro e w2 ⟨rfl, hb2⟩
    obtain ⟨q0, q1, _, _⟩ := res_box HX.out (bt HB1.out hb2)
    have hbF := bt HB.out (bt HB1.out hb2)
    clear hb2 p0 p1
    go_wp2_with fail
    go_ret2
    refine ⟨_, rfl, ?_, hbF⟩
    show _ = 45 :: decDigits (val xs).toNat
    rw [← HDL.out]
    simp

end Go.Proofs.YtnfemheabikolaaGreatDoor

/- Fractions: ratio.Print: of any fraction, good or refused. -/
namespace Go.Proofs.YtnfemheabikolaaGreatDoor
open Go.RowKit Go.Lib
set_option linter.unusedVariables false

def rtext (n : Bool) (xs ys : List Int) : List UInt8 := if ys = [1] then wtext n xs else wtext n xs ++ 47 :: decDigits (val ys).toNat

set_option maxHeartbeats 1600000 in
set_option maxRecDepth 100000 in
theorem rPrint_err (n : Bool) (a : Option Addr) (ca : Nat) (xs : List Int) (b : Option Addr) (cb : Nat) (ys : List Int) (w : World) (sx : Sl w (.slice a xs.length ca) xs) (sy : Sl w (.slice b ys.length cb) ys) (he : rchk n xs ys ≠ 0) :
    Calls Tryz.prog 96 #[.agg #[.bool n, .slice a xs.length ca, .slice b ys.length cb]] w fun e w' => e = .returned (.tuple #[.string ⟨#[]⟩, .int .i64 (rchk n xs ys)]) ∧ Below w.heap.size w w' := by
  have HB := hid (alloc_later w (.cells #[.bool n, .slice a xs.length ca, .slice b ys.length cb] 24))
  have HC := hid (rcheck_any n _ xs _ ys (w.alloc (.cells #[.bool n, .slice a xs.length ca, .slice b ys.length cb] 24)) (sx.later HB.out) (sy.later HB.out))
  obtain ⟨E, hE⟩ : ∃ E, rchk n xs ys = E := ⟨_, rfl⟩
  rw [hE] at HC he ⊢
  have he' : (E == 0) = false := beq_eq_false_iff_ne.2 he
  clear he hE sx sy
  go_enter Tryz.func96, Tryz.ntmps96
  go_wp2_with fail
  refine Calls.mono HC.out ?_
  rintro e w1 ⟨rfl, hb1⟩
  have HBN := hid (bt HB.out hb1)
  clear hb1 HC
  go_wp2_with fail
  go_ret2
  exact ⟨rfl, HBN.out⟩

set_option maxHeartbeats 3200000 in
set_option maxRecDepth 100000 in
theorem rPrint_ok (n : Bool) (a : Option Addr) (ca : Nat) (xs : List Int) (b : Option Addr) (cb : Nat) (ys : List Int) (w : World) (sx : Sl w (.slice a xs.length ca) xs) (sy : Sl w (.slice b ys.length cb) ys) (hx : rchk n xs ys = 0) (htab : Tab w) :
    Calls Tryz.prog 96 #[.agg #[.bool n, .slice a xs.length ca, .slice b ys.length cb]] w fun e w' => ∃ T : ByteArray, e = .returned (.tuple #[.string T, .int .i64 0]) ∧ T.data.toList = rtext n xs ys ∧ Below w.heap.size w w' := by
  obtain ⟨lx, ly, tx, ty, y0', nx, g1⟩ := rchk_ok hx
  have wx := sx.wd
  have wy := sy.wd
  have HB := hid (alloc_later w (.cells #[.bool n, .slice a xs.length ca, .slice b ys.length cb] 24))
  have HN := hid (Box.made w 24 #[.bool n, .slice a xs.length ca, .slice b ys.length cb])
  have HS := hid (And.intro (sx.later HB.out) (sy.later HB.out))
  have HC := hid (rcheck_any n _ xs _ ys (w.alloc (.cells #[.bool n, .slice a xs.length ca, .slice b ys.length cb] 24)) HS.out.1 HS.out.2)
  rw [hx] at HC
  have HW := hid (fun ww (hb : Below (w.alloc (.cells #[.bool n, .slice a xs.length ca, .slice b ys.length cb] 24)).heap.size (w.alloc (.cells #[.bool n, .slice a xs.length ca, .slice b ys.length cb] 24)) ww) => wprint_any n _ xs ww (HS.out.1.later hb) (wchk_good lx tx nx) (htab.later (bt HB.out hb)))
  have HO := hid (fun ww (hb : Below (w.alloc (.cells #[.bool n, .slice a xs.length ca, .slice b ys.length cb] 24)).heap.size (w.alloc (.cells #[.bool n, .slice a xs.length ca, .slice b ys.length cb] 24)) ww) => isOne_any _ ys ww (HS.out.2.later hb))
  have HD := hid (fun ww (hb : Below (w.alloc (.cells #[.bool n, .slice a xs.length ca, .slice b ys.length cb] 24)).heap.size (w.alloc (.cells #[.bool n, .slice a xs.length ca, .slice b ys.length cb] 24)) ww) => print_any _ ys ww (HS.out.2.later hb) (by omega) (htab.later (bt HB.out hb)))
  rw [chk_good (by omega) ty, if_pos rfl] at HD
  have hd1 := dec_short wx lx
  have hd2 := dec_short wy ly
  obtain ⟨D, hD⟩ : ∃ D : ByteArray, D = ⟨(decDigits (val ys).toNat).toArray⟩ := ⟨_, rfl⟩
  rw [← hD] at HD
  have HDL : Hid (D.data.toList = decDigits (val ys).toNat) := by show _ = _; rw [hD]
  have hDs : D.size ≤ 20481 := by rw [hD]; show (decDigits (val ys).toNat).toArray.size ≤ _; rw [List.size_toArray]; exact hd2
  have HL1 : Hid ((wtext n xs).length ≤ 20482) := by
    show _ ≤ _
    unfold wtext
    rw [List.length_append]
    have : (if n then [45] else [] : List UInt8).length ≤ 1 := by cases n <;> simp
    omega
  clear sx sy hx tx ty g1 htab wx wy hD hd1 hd2 nx y0'
  by_cases h1 : ys = [1]
  · rw [decide_eq_true h1] at HO
    have HR : Hid (rtext n xs ys = wtext n xs) := by show _ = _; unfold rtext; rw [if_pos h1]
    rw [HR.out]
    clear h1
    go_enter Tryz.func96, Tryz.ntmps96
    go_wp2_with fail
    refine Calls.mono HC.out ?_
    generalize (w.alloc (.cells #[.bool n, .slice a xs.length ca, .slice b ys.length cb] 24)) = X at *
    rintro e w1 ⟨rfl, hb1⟩
    obtain ⟨p0, p1, p2, _⟩ := res_box3 HN.out hb1
    have HW1 := hid (HW.out w1 hb1)
    have HB1 := hid hb1
    clear hb1 HC HW HD
    go_wp2_with fail
    refine Calls.mono HW1.out ?_
    rintro e w2 ⟨T, rfl, hT, hb2⟩
    have HT := hid hT
    have HB2 := hid (bt HB1.out hb2)
    have HO2 := hid (HO.out w2 HB2.out)
    clear hT hb2 HW1 HO p0 p1 p2
    obtain ⟨p0, p1, p2, _⟩ := res_box3 HN.out HB2.out
    go_wp2_with fail
    refine Calls.mono HO2.out ?_
    rintro e w3 ⟨rfl, rfl⟩
    go_wp2_with fail
    go_ret2
    exact ⟨T, rfl, HT.out, bt HB.out HB2.out⟩
  · rw [decide_eq_false h1] at HO
    have HR : Hid (rtext n xs ys = wtext n xs ++ 47 :: decDigits (val ys).toNat) := by show _ = _; unfold rtext; rw [if_neg h1]
    rw [HR.out]
    clear h1
    go_enter Tryz.func96, Tryz.ntmps96
    go_wp2_with fail
    refine Calls.mono HC.out ?_
    generalize (w.alloc (.cells #[.bool n, .slice a xs.length ca, .slice b ys.length cb] 24)) = X at *
    rintro e w1 ⟨rfl, hb1⟩
    obtain ⟨p0, p1, p2, _⟩ := res_box3 HN.out hb1
    have HW1 := hid (HW.out w1 hb1)
    have HB1 := hid hb1
    clear hb1 HC HW
    go_wp2_with fail
    refine Calls.mono HW1.out ?_
    rintro e w2 ⟨T, rfl, hT, hb2⟩
    have HT := hid hT
    have hTs : T.size ≤ 20482 := by
      have e1 : T.data.toList.length = T.size := Array.length_toList
      rw [← e1, hT]
      exact HL1.out
    have HB2 := hid (bt HB1.out hb2)
    have HO2 := hid (HO.out w2 HB2.out)
    have HD2 := hid (HD.out w2 HB2.out)
    clear hT hb2 HW1 HO HD p0 p1 p2
    obtain ⟨p0, p1, p2, _⟩ := res_box3 HN.out HB2.out
    go_wp2_with fail
    refine Calls.mono HO2.out ?_
    rintro e w3 ⟨rfl, rfl⟩
    go_wp2_with fail
    refine Calls.mono HD2.out ?_
    rintro e w4 ⟨rfl, hb4⟩
    have HBN := hid (bt HB.out (bt HB2.out hb4))
    have hg1 : ¬ (9223372036854775807 : Int) < (T.size : Int) + 1 := by omega
    have hg2 : ¬ (9223372036854775807 : Int) < (T.size : Int) + 1 + (D.size : Int) := by omega
    clear hb4 HD2
    go_wp2_with fail
    go_ret2
    refine ⟨_, rfl, ?_, HBN.out⟩
    rw [← HDL.out, ← HT.out]
    simp
end Go.Proofs.YtnfemheabikolaaGreatDoor

/- Fractions as texts: what a text says, and that a fraction's own text says that fraction. -/
namespace Go.Proofs.YtnfemheabikolaaGreatDoor
open Go.RowKit Go.Lib
set_option linter.unusedVariables false

theorem RTells.self {n : Bool} {xs ys : List Int} (wx : Wd xs) (wy : Wd ys) (h : rchk n xs ys = 0) : RTells 0 (rq n xs ys) n xs ys 0 := by
  obtain ⟨lx, ly, tx, ty, y0, s0, g⟩ := rchk_ok h
  have hd := val_pos' wy ty y0
  obtain ⟨m, us, vs, c, e1, e2, e3, r⟩ := rtells_of (n := n) wx tx wy ty hd g
  have e4 := e1 none 0 none 0
  unfold rtoldV at e4
  rw [if_neg (by omega)] at e4
  have hc : c = 0 := by
    simp at e4
    exact e4.2.symm
  subst hc
  have hm : (n && decide (0 < xs.length)) = n := by
    rcases s0 with rfl | s0
    · rfl
    · rw [decide_eq_true s0, Bool.and_true]
  rw [hm] at e4
  have hn : n = m := by simp at e4; exact e4
  subst hn
  rw [if_pos rfl] at e2 e3
  subst e2 e3
  exact r
end Go.Proofs.YtnfemheabikolaaGreatDoor

/- strings.Cut by a bar. -/
namespace Go.Proofs.YtnfemheabikolaaGreatDoor
open Go.RowKit Go.Lib
set_option linter.unusedVariables false

end Go.Proofs.YtnfemheabikolaaGreatDoor

/- Fractions read from a text: ratio.read, for any text. -/
namespace Go.Proofs.YtnfemheabikolaaGreatDoor
open Go.RowKit Go.Lib
set_option linter.unusedVariables false

end Go.Proofs.YtnfemheabikolaaGreatDoor

/- Fractions read from a text: ratio.Parse, for any text. -/
namespace Go.Proofs.YtnfemheabikolaaGreatDoor
open Go.RowKit Go.Lib
set_option linter.unusedVariables false

end Go.Proofs.YtnfemheabikolaaGreatDoor

/- Complex fractions: gauss.Print: of any, good or refused. -/
namespace Go.Proofs.YtnfemheabikolaaGreatDoor
open Go.RowKit
set_option linter.unusedVariables false

def RPr (n : Bool) (xs ys : List Int) (w : World) (x : Ending) (w' : World) : Prop := ∃ S : ByteArray, x = .returned (.tuple #[.string S, .int .i64 (rchk n xs ys)]) ∧ (rchk n xs ys = 0 → S.data.toList = rtext n xs ys) ∧ Below w.heap.size w w'
theorem grPrint_any (n : Bool) (a : Option Addr) (ca : Nat) (xs : List Int) (b : Option Addr) (cb : Nat) (ys : List Int) (w : World) (sx : Sl w (.slice a xs.length ca) xs) (sy : Sl w (.slice b ys.length cb) ys) (htab : Tab w) :
    Calls Tryz.prog 96 #[.agg #[.bool n, .slice a xs.length ca, .slice b ys.length cb]] w (RPr n xs ys w) := by
  by_cases h : rchk n xs ys = 0
  · refine Calls.mono (rPrint_ok n a ca xs b cb ys w sx sy h htab) ?_
    rintro e w' ⟨S, rfl, hS, hb⟩
    exact ⟨S, by rw [h], fun _ => hS, hb⟩
  · refine Calls.mono (rPrint_err n a ca xs b cb ys w sx sy h) ?_
    rintro e w' ⟨rfl, hb⟩
    exact ⟨_, rfl, fun h' => absurd h' h, hb⟩
theorem rtext_short {n : Bool} {xs ys : List Int} (wx : Wd xs) (wy : Wd ys) (h : rchk n xs ys = 0) : (rtext n xs ys).length ≤ 40964 := by
  obtain ⟨lx, ly, _⟩ := rchk_ok h
  have hd1 := dec_short wx lx
  have hd2 := dec_short wy ly
  have h1 : (wtext n xs).length ≤ 20482 := by
    unfold wtext
    rw [List.length_append]
    have : (if n then [45] else [] : List UInt8).length ≤ 1 := by cases n <;> simp
    omega
  unfold rtext
  by_cases h2 : ys = [1]
  · rw [if_pos h2]; omega
  · rw [if_neg h2, List.length_append, List.length_cons]; omega
def gtext (n : Bool) (xs ys : List Int) (m : Bool) (us vs : List Int) : List UInt8 := rtext n xs ys ++ 32 :: rtext m us vs
def gpErr (n : Bool) (xs ys : List Int) (m : Bool) (us vs : List Int) : Int := fstE (gchk n xs ys m us vs) (if 65536 < (gtext n xs ys m us vs).length then 3 else 0)

set_option maxHeartbeats 3200000 in
set_option maxRecDepth 100000 in
theorem gPrint_any (n : Bool) (a : Option Addr) (ca : Nat) (xs : List Int) (b : Option Addr) (cb : Nat) (ys : List Int) (m : Bool) (c : Option Addr) (cc : Nat) (us : List Int) (d : Option Addr) (cd : Nat) (vs : List Int) (w : World) (sx : Sl w (.slice a xs.length ca) xs) (sy : Sl w (.slice b ys.length cb) ys) (su : Sl w (.slice c us.length cc) us) (sv : Sl w (.slice d vs.length cd) vs) (htab : Tab w) :
    Calls Tryz.prog 154 #[.agg #[.bool n, .slice a xs.length ca, .slice b ys.length cb, .bool m, .slice c us.length cc, .slice d vs.length cd]] w fun x w' => ∃ S : ByteArray, x = .returned (.tuple #[.string S, .int .i64 (gpErr n xs ys m us vs)]) ∧ (gpErr n xs ys m us vs = 0 → S.data.toList = gtext n xs ys m us vs) ∧ (gpErr n xs ys m us vs ≠ 0 → S = ⟨#[]⟩) ∧ Below w.heap.size w w' := by
  have HX := hid (Box.made w 35 #[.bool n, .slice a xs.length ca, .slice b ys.length cb, .bool m, .slice c us.length cc, .slice d vs.length cd])
  have HB := hid (alloc_later w (.cells #[.bool n, .slice a xs.length ca, .slice b ys.length cb, .bool m, .slice c us.length cc, .slice d vs.length cd] 35))
  have H1 := hid (grPrint_any n a ca xs b cb ys (w.alloc (.cells #[.bool n, .slice a xs.length ca, .slice b ys.length cb, .bool m, .slice c us.length cc, .slice d vs.length cd] 35)) (sx.later HB.out) (sy.later HB.out) (htab.later HB.out))
  have H2 : Hid (∀ V, Below w.heap.size w V → Calls Tryz.prog 96 #[.agg #[.bool m, .slice c us.length cc, .slice d vs.length cd]] V (RPr m us vs V)) := fun V hv => grPrint_any m c cc us d cd vs V (su.later hv) (sv.later hv) (htab.later hv)
  have HG : Hid (∀ e, gchk n xs ys m us vs = e → e ≠ 0 → gpErr n xs ys m us vs = e) := fun e h he => by unfold gpErr; rw [h]; exact fstE_err _ he
  have HG0 : Hid (gchk n xs ys m us vs = 0 → gpErr n xs ys m us vs = if 65536 < (gtext n xs ys m us vs).length then 3 else 0) := fun h => by unfold gpErr; rw [h]; exact fstE_zero _
  have HK1 : Hid (rchk n xs ys ≠ 0 → gchk n xs ys m us vs = rchk n xs ys) := fun h => fstE_err _ h
  have HK2 : Hid (rchk n xs ys = 0 → gchk n xs ys m us vs = rchk m us vs) := fun h => by unfold gchk; rw [h]; exact fstE_zero _
  have HS1 : Hid (rchk n xs ys = 0 → (rtext n xs ys).length ≤ 40964) := fun h => rtext_short sx.wd sy.wd h
  have HS2 : Hid (rchk m us vs = 0 → (rtext m us vs).length ≤ 40964) := fun h => rtext_short su.wd sv.wd h
  have HGT : Hid (gtext n xs ys m us vs = rtext n xs ys ++ 32 :: rtext m us vs) := rfl
  generalize gtext n xs ys m us vs = GT at *
  generalize gpErr n xs ys m us vs = GE at *
  generalize gchk n xs ys m us vs = GC at *
  clear sx sy su sv htab
  obtain ⟨X, hX⟩ : ∃ X, w.alloc (.cells #[.bool n, .slice a xs.length ca, .slice b ys.length cb, .bool m, .slice c us.length cc, .slice d vs.length cd] 35) = X := ⟨_, rfl⟩
  rw [hX] at HX HB H1
  have k0 : X.cell? ⟨w.heap.size, 0, none⟩ = some (.bool n) := HX.out.cell 0
  have k1 : X.cell? ⟨w.heap.size, 1, none⟩ = some (.slice a xs.length ca) := HX.out.cell 1
  have k2 : X.cell? ⟨w.heap.size, 2, none⟩ = some (.slice b ys.length cb) := HX.out.cell 2
  have k3 : X.cell? ⟨w.heap.size, 3, none⟩ = some (.bool m) := HX.out.cell 3
  have k4 : X.cell? ⟨w.heap.size, 4, none⟩ = some (.slice c us.length cc) := HX.out.cell 4
  have k5 : X.cell? ⟨w.heap.size, 5, none⟩ = some (.slice d vs.length cd) := HX.out.cell 5
  have HE1 : Hid (∃ e1, rchk n xs ys = e1) := ⟨_, rfl⟩
  go_enter Tryz.func154, Tryz.ntmps154
  go_wp2_with fail
  refine Calls.mono H1.out ?_
  rintro x w1 ⟨S, rfl, hS, hb1⟩
  have HW1 := hid (bt HB.out hb1)
  have HA1 := hid (HX.out.later hb1 HX.out.lt)
  have HSS := hid hS
  clear hS hb1 H1 k0 k1 k2 k3 k4 k5
  have k0 : w1.cell? ⟨w.heap.size, 0, none⟩ = some (.bool n) := HA1.out.cell 0
  have k1 : w1.cell? ⟨w.heap.size, 1, none⟩ = some (.slice a xs.length ca) := HA1.out.cell 1
  have k2 : w1.cell? ⟨w.heap.size, 2, none⟩ = some (.slice b ys.length cb) := HA1.out.cell 2
  have k3 : w1.cell? ⟨w.heap.size, 3, none⟩ = some (.bool m) := HA1.out.cell 3
  have k4 : w1.cell? ⟨w.heap.size, 4, none⟩ = some (.slice c us.length cc) := HA1.out.cell 4
  have k5 : w1.cell? ⟨w.heap.size, 5, none⟩ = some (.slice d vs.length cd) := HA1.out.cell 5
  by_cases h1 : rchk n xs ys = 0
  · have HZ1 := hid h1
    have hSl : S.size ≤ 40964 := by
      have e1 : S.data.toList.length = S.size := Array.length_toList
      rw [← e1, HSS.out h1]
      exact HS1.out h1
    rw [h1]
    clear h1
    have H3 := hid (H2.out w1 HW1.out)
    go_wp2_with fail
    refine Calls.mono H3.out ?_
    rintro x w2 ⟨U, rfl, hU, hb2⟩
    have HW2 := hid (bt HW1.out hb2)
    have HUU := hid hU
    clear hU hb2 H3 H2 k0 k1 k2 k3 k4 k5
    by_cases h2 : rchk m us vs = 0
    · have hUl : U.size ≤ 40964 := by
        have e1 : U.data.toList.length = U.size := Array.length_toList
        rw [← e1, HUU.out h2]
        exact HS2.out h2
      have HGC := hid ((HK2.out HZ1.out).trans h2)
      have HLL : Hid (GT.length = S.size + 1 + U.size) := by
        show _ = _
        rw [HGT.out, ← HSS.out HZ1.out, ← HUU.out h2, List.length_append, List.length_cons, Array.length_toList, Array.length_toList]
        show S.size + (U.size + 1) = _
        omega
      have HTX : Hid (GT = S.data.toList ++ 32 :: U.data.toList) := by
        show _ = _
        rw [HGT.out, ← HSS.out HZ1.out, ← HUU.out h2]
      rw [h2]
      clear h2
      have hg1 : ¬ (9223372036854775807 : Int) < (S.size : Int) + 1 := by omega
      have hg2 : ¬ (9223372036854775807 : Int) < (S.size : Int) + 1 + (U.size : Int) := by omega
      have hw1 : IntKind.i64.wrap ((S.size : Int) + 1) = (S.size : Int) + 1 := by rw [IntKind.wrap_i64]; omega
      have hw2 : IntKind.i64.wrap ((S.size : Int) + 1 + (U.size : Int)) = (S.size : Int) + 1 + (U.size : Int) := by rw [IntKind.wrap_i64]; omega
      by_cases hl : (65536 : Int) < (S.size : Int) + 1 + (U.size : Int)
      · have HGE : Hid (GE = 3) := by show _ = _; rw [HG0.out HGC.out, if_pos (by have := HLL.out; omega)]
        have hlb : decide ((65536 : Int) < (S.size : Int) + 1 + (U.size : Int)) = true := decide_eq_true hl
        clear hl hSl hUl hg1 hg2
        go_wp2_with fail
        go_ret2
        rw [HGE.out]
        exact ⟨_, rfl, fun h => absurd h (by decide), fun _ => rfl, HW2.out⟩
      · have HGE : Hid (GE = 0) := by show _ = _; rw [HG0.out HGC.out, if_neg (by have := HLL.out; omega)]
        have hlb : decide ((65536 : Int) < (S.size : Int) + 1 + (U.size : Int)) = false := decide_eq_false hl
        clear hl hSl hUl
        go_wp2_with fail
        go_ret2
        rw [HGE.out]
        refine ⟨_, rfl, fun _ => ?_, fun h => absurd rfl h, HW2.out⟩
        rw [HTX.out]
        simp
    · have HGE := hid (HG.out _ (HK2.out HZ1.out) h2)
      have h2' : (rchk m us vs == 0) = false := by simp [h2]
      have h2n : (rchk m us vs != 0) = true := by simp [h2]
      go_wp2_with fail
      go_ret2
      rw [HGE.out]
      exact ⟨_, rfl, fun h => absurd h h2, fun _ => rfl, HW2.out⟩
  · have HGE := hid (HG.out _ (HK1.out h1) h1)
    have h1' : (rchk n xs ys == 0) = false := by simp [h1]
    have h1n : (rchk n xs ys != 0) = true := by simp [h1]
    clear H2
    go_wp2_with fail
    go_ret2
    rw [HGE.out]
    exact ⟨_, rfl, fun h => absurd h h1, fun _ => rfl, HW1.out⟩
end Go.Proofs.YtnfemheabikolaaGreatDoor

/- Complex fractions, the steps' own: copied: two appends in whatever order. -/
namespace Go.Proofs.YtnfemheabikolaaGreatDoor
open Go.RowKit
set_option linter.unusedVariables false

theorem step_copy {ops : Array Oper} {o : Oper} {act : Act} {w : World} {K : Act → World → Prop} {Q : Exit → Act → World → Prop} {E : Prop}
    (hg : o.guard = none) (s x : Operand) (hop : o.op = Op.call { callee := Callee.builtin Builtin.append, args := #[s, x], argTypes := #[22, 22] })
    (v : Value) (xs : List Int) (hs : act.eval s = .slice none 0 0) (hx : act.eval x = v) (hv : Sl w v xs) (hn : xs.length ≤ 1099511627776)
    (hK : ∀ a' c' w', w'.ownsRow w.heap.size 78 1 (.slice a' xs.length c') xs.length (xs.map (Value.int .u32)) → Below w.heap.size w w' → K (act.put o.dst (.slice a' xs.length c')) w') :
    if Region.wanted o (yielded ops act.tmps) = true then Oper.wp Tryz.prog o act w K Q else E := by
  have hw : Region.wanted o (yielded ops act.tmps) = true := by simp [Region.wanted, hg]
  rw [if_pos hw]
  obtain ⟨i0, hi, hz0, hz1, hz2⟩ := info_parts Tryz.infoW
  have hown : w.ownsRow w.heap.size 78 1 (.slice none 0 0) 0 [] := World.ownsRow_nil _ _ _ _
  obtain ⟨ad, cap, rfl, hr⟩ := hv
  cases ad with
  | none =>
    have h0 : cap = 0 := hr.2.2.2.2.2 rfl
    subst h0
    have h1 : xs.length = 0 := by have := hr.2.2.2.1; omega
    have h2 : xs = [] := List.eq_nil_of_length_eq_zero h1
    subst h2
    have hrun := run_append_owned_none (P := Tryz.prog) (w := w) w.heap.size 22 o.type 78 i0 1 Tryz.underlying22 hi (.slice none 0 0) 0 [] hown
    unfold Oper.wp
    simp [execOp, hop, resolve, invoke, builtin, hs, hx, hrun, Result.andThen]
    exact hK none 0 w hown (Below.refl _ _)
  | some ad =>
    obtain ⟨v', w', hrun, r1, r2, _⟩ := run_append_own (P := Tryz.prog) w w.heap.size 22 o.type 78 i0 (.int .u32 0) 1 4 Tryz.underlying22 hi hz0 hz1 hz2 rfl (by decide) (.slice none 0 0) 0 [] hown ad xs.length cap (xs.map (Value.int .u32)) (by simp) (copy_news hr) (ints_oneCell _ _) (by unfold maxLen; omega) (by omega) (Nat.le_refl _)
    have r3 : w'.ownsRow w.heap.size 78 1 v' xs.length (xs.map (Value.int .u32)) := by simpa using r1
    obtain ⟨a', c', rfl⟩ := own_slice' r3
    unfold Oper.wp
    simp [execOp, hop, resolve, invoke, builtin, hs, hx, hrun, Result.andThen]
    exact hK a' c' w' r3 ((Below.refl w.heap.size w).grown r2 (Nat.le_refl _) (fun k hk => by simp [Value.ownBlock] at hk))

set_option maxHeartbeats 3200000 in
set_option maxRecDepth 100000 in
theorem gcopied_any (p : Nat) (E : Int) (n : Bool) (a : Option Addr) (ca : Nat) (xs : List Int) (b : Option Addr) (cb : Nat) (ys : List Int) (w : World) (hp : Box w p 186 #[.int .i64 E]) (sx : Sl w (.slice a xs.length ca) xs) (sy : Sl w (.slice b ys.length cb) ys) (hE0 : E = 0 → rchk n xs ys = 0) :
    Calls Tryz.prog 117 #[.pointer (some ⟨p, 0, none⟩), .agg #[.bool n, .slice a xs.length ca, .slice b ys.length cb]] w (GTell w p E (rq n xs ys)) := by
  have HX := hid (boxes2r w 24 #[.bool n, .slice a xs.length ca, .slice b ys.length cb] #[.bool false, .slice none 0 0, .slice none 0 0])
  obtain ⟨X, hX⟩ : ∃ X, (w.alloc (.cells #[.bool n, .slice a xs.length ca, .slice b ys.length cb] 24)).alloc (.cells #[.bool false, .slice none 0 0, .slice none 0 0] 24) = X := ⟨_, rfl⟩
  rw [hX] at HX
  have HP := hid (hp.later HX.out.2.2 hp.lt)
  have kp : X.cell? ⟨p, 0, none⟩ = some (.int .i64 E) := HP.out.cell 0
  have fp := HP.out.free 0
  have hpw : p < w.heap.size := hp.lt
  by_cases hE : E = 0
  · subst hE
    have hk := hE0 rfl
    have HKC := hid hk
    have hlen := rchk_ok hk
    have hlx : xs.length ≤ 1099511627776 := by omega
    have hly : ys.length ≤ 1099511627776 := by omega
    have HWX := hid (And.intro sx.wd sy.wd)
    have HSX : Hid (∀ V, Below X.heap.size X V → Sl V (.slice a xs.length ca) xs) := fun V hv => sx.later (bt HX.out.2.2 hv)
    have HSY : Hid (∀ V, Below X.heap.size X V → Sl V (.slice b ys.length cb) ys) := fun V hv => sy.later (bt HX.out.2.2 hv)
    have HK : Hid (∀ V, Below X.heap.size X V → V.cell? ⟨w.heap.size, 0, none⟩ = some (.bool n) ∧ V.cell? ⟨w.heap.size, 1, none⟩ = some (.slice a xs.length ca) ∧ V.cell? ⟨w.heap.size, 2, none⟩ = some (.slice b ys.length cb)) := fun V hv => by
      have h := HX.out.1.later hv HX.out.1.lt
      exact ⟨h.cell 0, h.cell 1, h.cell 2⟩
    have HKP : Hid (∀ V, Below X.heap.size X V → ∀ (v0 v1 v2 : Value), ((((V.setCell ⟨w.heap.size + 1, 0, none⟩ v0).setCell ⟨w.heap.size + 1, 1, none⟩ v1).setCell ⟨w.heap.size + 1, 2, none⟩ v2).cell? ⟨w.heap.size, 0, none⟩ = some (.bool n) ∧ (((V.setCell ⟨w.heap.size + 1, 0, none⟩ v0).setCell ⟨w.heap.size + 1, 1, none⟩ v1).setCell ⟨w.heap.size + 1, 2, none⟩ v2).cell? ⟨w.heap.size, 1, none⟩ = some (.slice a xs.length ca) ∧ (((V.setCell ⟨w.heap.size + 1, 0, none⟩ v0).setCell ⟨w.heap.size + 1, 1, none⟩ v1).setCell ⟨w.heap.size + 1, 2, none⟩ v2).cell? ⟨w.heap.size, 2, none⟩ = some (.slice b ys.length cb))) := fun V hv v0 v1 v2 => by
      have h := box_far3 (HX.out.1.later hv HX.out.1.lt) (show w.heap.size ≠ w.heap.size + 1 by omega) v0 v1 v2
      exact ⟨h.cell 0, h.cell 1, h.cell 2⟩
    have HM : Hid (∀ V, Below X.heap.size X V → V.cell? ⟨w.heap.size + 1, 0, none⟩ = some (.bool false) ∧ V.cell? ⟨w.heap.size + 1, 1, none⟩ = some (.slice none 0 0) ∧ V.cell? ⟨w.heap.size + 1, 2, none⟩ = some (.slice none 0 0) ∧ V.frozen? ⟨w.heap.size + 1, 0, none⟩ = false ∧ V.frozen? ⟨w.heap.size + 1, 1, none⟩ = false ∧ V.frozen? ⟨w.heap.size + 1, 2, none⟩ = false) := fun V hv => by
      have h := HX.out.2.1.later hv HX.out.2.1.lt
      exact ⟨h.cell 0, h.cell 1, h.cell 2, h.free 0, h.free 1, h.free 2⟩
    have hd0 := hid (Below.refl X.heap.size X).drew
    have hs0 := HK.out _ hd0.out
    clear sx sy hk hlen hE0
    go_enter Tryz.func117, Tryz.ntmps117
    go_wp2_with fail
    go_region_held3 (fun V : World => V.cell? ⟨w.heap.size, 0, none⟩ = some (.bool n) ∧ V.cell? ⟨w.heap.size, 1, none⟩ = some (.slice a xs.length ca) ∧ V.cell? ⟨w.heap.size, 2, none⟩ = some (.slice b ys.length cb)) (first | exact hsB | exact hsA | exact hs0 | exact HKP.out _ hbB _ _ _ | exact HKP.out _ hbA _ _ _)
      (first
        | (refine step_copy rfl (.const (.slice none 0 0)) (.tmp 13) rfl (.slice a xs.length ca) xs rfl rfl (HSX.out _ hbB) hlx ?_; intro a1 c1 w1 o1 b1; have hbA := bt hbB b1; have hsA := HK.out _ hbA; obtain ⟨m0, m1, m2, f0, f1, f2⟩ := HM.out _ hbA; have HA := hid (And.intro o1 b1))
        | (refine step_copy rfl (.const (.slice none 0 0)) (.tmp 13) rfl (.slice a xs.length ca) xs rfl rfl (HSX.out _ hd0.out) hlx ?_; intro a1 c1 w1 o1 b1; have hbA := bt hd0.out b1; have hsA := HK.out _ hbA; obtain ⟨m0, m1, m2, f0, f1, f2⟩ := HM.out _ hbA; have HA := hid (And.intro o1 b1))
        | (refine step_copy rfl (.const (.slice none 0 0)) (.tmp 16) rfl (.slice b ys.length cb) ys rfl rfl (HSY.out _ hbA) hly ?_; intro a2 c2 w2 o2 b2; have hbB := bt hbA b2; have hsB := HK.out _ hbB; obtain ⟨m0, m1, m2, f0, f1, f2⟩ := HM.out _ hbB; have HB := hid (And.intro o2 b2))
        | (refine step_copy rfl (.const (.slice none 0 0)) (.tmp 16) rfl (.slice b ys.length cb) ys rfl rfl (HSY.out _ hd0.out) hly ?_; intro a2 c2 w2 o2 b2; have hbB := bt hd0.out b2; have hsB := HK.out _ hbB; obtain ⟨m0, m1, m2, f0, f1, f2⟩ := HM.out _ hbB; have HB := hid (And.intro o2 b2)))
    have HBX := hid (HX.out.2.1.later hbB HX.out.2.1.lt)
    have HPX := hid (HP.out.later hbB HP.out.lt)
    have HBW := hid (bt HX.out.2.2 hbB)
    have HO1 := hid (owns_later o1 b2)
    have HO2 := hid o2
    have HL1 : Hid (Lies (.slice a1 xs.length c1) w.heap.size w1.heap.size) := fun g hg => ⟨Nat.le_trans HX.out.2.2.size (o1.lt g hg).1, (o1.lt g hg).2⟩
    have HL2 : Hid (Lies (.slice a2 ys.length c2) w1.heap.size w2.heap.size) := fun g hg => ⟨(o2.lt g hg).1, (o2.lt g hg).2⟩
    have hXs : w.heap.size + 1 < X.heap.size := HX.out.2.1.lt
    have h1s : X.heap.size ≤ w1.heap.size := hbA.size
    have h2s : w1.heap.size ≤ w2.heap.size := b2.size
    have hwX : w.heap.size ≤ X.heap.size := HX.out.2.2.size
    clear HA HB hs0 hsA hsB hd0 o1 o2 b1 b2 hbA hbB HK HKP HM HSX HSY
    go_wp2_with fail
    have hne : p ≠ w.heap.size + 1 := by omega
    have B1 := box_put3 (box_put3 HBX.out (.bool n) (.slice a1 xs.length c1) (.slice a2 ys.length c2)) (.bool n) (.slice a1 xs.length c1) (.slice a2 ys.length c2)
    have P1 := box_far3 (box_far3 HPX.out hne (.bool n) (.slice a1 xs.length c1) (.slice a2 ys.length c2)) hne (.bool n) (.slice a1 xs.length c1) (.slice a2 ys.length c2)
    have e1 : ∀ g, (Value.slice a1 xs.length c1).ownBlock = some g → g ≠ w.heap.size + 1 := fun g hg => by have := (HO1.out.lt g hg).1; have e : X.drew.heap.size = X.heap.size := rfl; omega
    have e2 : ∀ g, (Value.slice a2 ys.length c2).ownBlock = some g → g ≠ w.heap.size + 1 := fun g hg => by have := (HO2.out.lt g hg).1; omega
    have V1 := own_put3' (own_put3' HO1.out _ e1 (.bool n) (.slice a1 xs.length c1) (.slice a2 ys.length c2)) _ e1 (.bool n) (.slice a1 xs.length c1) (.slice a2 ys.length c2)
    have U1 := own_put3' (own_put3' HO2.out _ e2 (.bool n) (.slice a1 xs.length c1) (.slice a2 ys.length c2)) _ e2 (.bool n) (.slice a1 xs.length c1) (.slice a2 ys.length c2)
    have G1 := grow_put3 (grow_put3 (grow_below HBW.out (some p)) (w.heap.size + 1) (.bool n) (.slice a1 xs.length c1) (.slice a2 ys.length c2) (.inl (by omega))) (w.heap.size + 1) (.bool n) (.slice a1 xs.length c1) (.slice a2 ys.length c2) (.inl (by omega))
    refine bodyPost_ret (results_cell_row (by rfl) _ _ (w.heap.size + 1) 24 _ (0, 0) _ (by rfl) B1 Tryz.underlying24 rfl (by kernel_rfl)) rfl ?_
    refine ⟨n, _, xs, _, ys, 0, rfl, owns_base V1 hwX, owns_base U1 (by omega), RTells.self HWX.out.1 HWX.out.2 HKC.out, P1, G1, ?_⟩
    exact ⟨w1.heap.size, by omega, by simp [World.setCell]; omega, HL1.out, fun g hg => ⟨(HL2.out g hg).1, by have := (HL2.out g hg).2; simp [World.setCell]; omega⟩⟩
  · have hE' : (E == 0) = false := by simp [hE]
    have m0 : X.cell? ⟨w.heap.size + 1, 0, none⟩ = some (.bool false) := HX.out.2.1.cell 0
    have m1 : X.cell? ⟨w.heap.size + 1, 1, none⟩ = some (.slice none 0 0) := HX.out.2.1.cell 1
    have m2 : X.cell? ⟨w.heap.size + 1, 2, none⟩ = some (.slice none 0 0) := HX.out.2.1.cell 2
    have n0 := HX.out.2.1.free 0
    have n1 := HX.out.2.1.free 1
    have n2 := HX.out.2.1.free 2
    clear hE0 sx sy
    go_enter Tryz.func117, Tryz.ntmps117
    go_wp2_with fail
    have B1 := box_put3 HX.out.2.1 (.bool false) (.slice none 0 0) (.slice none 0 0)
    have P1 := box_far3 HP.out (show p ≠ w.heap.size + 1 by omega) (.bool false) (.slice none 0 0) (.slice none 0 0)
    have G1 := grow_put3 (grow_below HX.out.2.2 (some p)) (w.heap.size + 1) (.bool false) (.slice none 0 0) (.slice none 0 0) (.inl (by omega))
    refine bodyPost_ret (results_cell_row (by rfl) _ _ (w.heap.size + 1) 24 _ (0, 0) _ (by rfl) B1 Tryz.underlying24 rfl (by kernel_rfl)) rfl ?_
    refine ⟨false, _, [], _, [], E, rfl, World.ownsRow_nil _ _ _ _, World.ownsRow_nil _ _ _ _, RTells.err hE, P1, G1, ?_⟩
    exact ⟨w.heap.size, Nat.le_refl _, G1.size, fun g hg => by simp [Value.ownBlock] at hg, fun g hg => by simp [Value.ownBlock] at hg⟩
end Go.Proofs.YtnfemheabikolaaGreatDoor

/- The laws of fractions: small, is, and awake (the document's examples), whatever the world, where the table of powers of ten stands. -/
namespace Go.Proofs.YtnfemheabikolaaGreatDoor
open Go.RowKit Go.Lib
set_option linter.unusedVariables false

end Go.Proofs.YtnfemheabikolaaGreatDoor

/- What a told fraction says where its code is 0; fractions that are the same; three laws of rational numbers. -/
namespace Go.Proofs.YtnfemheabikolaaGreatDoor
open Go.RowKit Go.Lib
set_option linter.unusedVariables false

theorem rq_inj {n m : Bool} {xs ys us vs : List Int} (wx : Wd xs) (wy : Wd ys) (wu : Wd us) (wv : Wd vs) (h : rchk n xs ys = 0) (g : rchk m us vs = 0) (e : rq n xs ys = rq m us vs) : n = m ∧ xs = us ∧ ys = vs := by
  have a := RTells.self wx wy h
  rw [e] at a
  obtain ⟨b1, b2, b3, _⟩ := a.same (RTells.self wu wv g)
  exact ⟨b1, b2, b3⟩
end Go.Proofs.YtnfemheabikolaaGreatDoor

/- Fractions (no program): the height of a fraction; what is made of small ones is not too long. -/
namespace Go.Proofs.YtnfemheabikolaaGreatDoor
open Go.RowKit
set_option linter.unusedVariables false

def Hgt (q : Rat) (B : Nat) : Prop := q.num.natAbs ≤ B ∧ q.den ≤ B
theorem hgt_divInt {n : Int} {d : Nat} {B : Nat} (hd : d ≠ 0) (h1 : n.natAbs ≤ B) (h2 : d ≤ B) : Hgt (Rat.divInt n d) B := by
  have e : Rat.divInt n d = mkRat n d := Rat.divInt_ofNat n d
  rw [e]
  have e2 := Rat.normalize_eq_mkRat (num := n) (den := d) hd
  rw [← e2, Rat.normalize_eq]
  exact ⟨by
    show (n / _).natAbs ≤ B
    exact Nat.le_trans (by rw [Int.natAbs_ediv_of_dvd (Int.ofNat_dvd_left.2 (Nat.gcd_dvd_left _ _)), Int.natAbs_natCast]; exact Nat.div_le_self _ _) h1, Nat.le_trans (Nat.div_le_self _ _) h2⟩
theorem Hgt.neg {q : Rat} {B : Nat} (h : Hgt q B) : Hgt (-q) B := ⟨by show (-q).num.natAbs ≤ B; rw [Rat.neg_num, Int.natAbs_neg]; exact h.1, by show (-q).den ≤ B; rw [Rat.neg_den]; exact h.2⟩
theorem Hgt.mul {p q : Rat} {B C : Nat} (h : Hgt p B) (g : Hgt q C) : Hgt (p * q) (B * C) := by
  have e : p * q = Rat.divInt (p.num * q.num) ((p.den * q.den : Nat) : Int) := by
    have e1 := Rat.divInt_mul_divInt p.num q.num (d₁ := p.den) (d₂ := q.den)
    rw [Rat.num_divInt_den, Rat.num_divInt_den] at e1
    rw [e1]; norm_cast
  rw [e]
  exact hgt_divInt (Nat.mul_ne_zero p.den_nz q.den_nz) (by rw [Int.natAbs_mul]; exact Nat.mul_le_mul h.1 g.1) (Nat.mul_le_mul h.2 g.2)
theorem Hgt.add {p q : Rat} {B C : Nat} (h : Hgt p B) (g : Hgt q C) : Hgt (p + q) (2 * (B * C)) := by
  have e : p + q = Rat.divInt (p.num * q.den + q.num * p.den) ((p.den * q.den : Nat) : Int) := by
    have e1 := Rat.divInt_add_divInt p.num q.num (d₁ := p.den) (d₂ := q.den) (by have := p.den_nz; omega) (by have := q.den_nz; omega)
    rw [Rat.num_divInt_den, Rat.num_divInt_den] at e1
    rw [e1]; norm_cast
  rw [e]
  have h1 : (p.num * q.den).natAbs ≤ B * C := by rw [Int.natAbs_mul, Int.natAbs_natCast]; exact Nat.mul_le_mul h.1 g.2
  have h2 : (q.num * p.den).natAbs ≤ B * C := by rw [Int.natAbs_mul, Int.natAbs_natCast, Nat.mul_comm B C]; exact Nat.mul_le_mul g.1 h.2
  have h3 : p.den * q.den ≤ B * C := Nat.mul_le_mul h.2 g.2
  exact hgt_divInt (Nat.mul_ne_zero p.den_nz q.den_nz) (Nat.le_trans (Int.natAbs_add_le _ _) (by omega)) (by omega)
theorem Hgt.sub {p q : Rat} {B C : Nat} (h : Hgt p B) (g : Hgt q C) : Hgt (p - q) (2 * (B * C)) := by
  rw [Rat.sub_eq_add_neg]
  exact h.add g.neg
theorem pw_nat (m : Nat) : (4294967296 : Int) ^ m = ((2 ^ (32 * m) : Nat) : Int) := by rw [Nat.pow_mul, Int.natCast_pow]; rfl
theorem hgt_val {xs : List Int} (wx : Wd xs) {k : Nat} (lx : xs.length ≤ k) : (val xs).natAbs ≤ 2 ^ (32 * k) := by
  have h := val_lt wx
  have h0 := val_nonneg wx
  have e1 : (4294967296 : Int) ^ xs.length = ((4294967296 ^ xs.length : Nat) : Int) := by rw [Int.natCast_pow]; rfl
  have e2 : (2 : Nat) ^ (32 * k) = 4294967296 ^ k := by rw [Nat.pow_mul]
  have e3 : (4294967296 : Nat) ^ xs.length ≤ 4294967296 ^ k := Nat.pow_le_pow_right (by omega) lx
  rw [e1] at h
  rw [e2]
  omega
theorem hgt_words {n : Bool} {xs ys : List Int} (wx : Wd xs) (wy : Wd ys) (h : rchk n xs ys = 0) {k : Nat} (lx : xs.length ≤ k) (ly : ys.length ≤ k) : Hgt (rq n xs ys) (2 ^ (32 * k)) := by
  obtain ⟨_, _, _, ty, y0, _, _⟩ := rchk_ok h
  have hy := val_pos' wy ty y0
  have b1 := hgt_val wx lx
  have b2 := hgt_val wy ly
  have e : val ys = (((val ys).natAbs : Nat) : Int) := by omega
  unfold rq
  rw [e]
  refine hgt_divInt (by omega) ?_ b2
  have e2 : (wval n xs).natAbs = (val xs).natAbs := by cases n <;> simp [wval]
  rw [e2]
  exact b1
theorem Hgt.short {q : Rat} {k : Nat} (h : Hgt q (2 ^ k)) (hk : k < 65536) : ¬ rlong q := by
  have e0 : ∀ m, m = 2048 → wlim = ((2 ^ (32 * m) : Nat) : Int) := fun m hm => by rw [← pw_nat, hm]; rfl
  obtain ⟨m, hm⟩ : ∃ m : Nat, m = 2048 := ⟨_, rfl⟩
  have e1 := e0 m hm
  have e3 : 2 ^ k < 2 ^ (32 * m) := Nat.pow_lt_pow_right (by omega) (by omega)
  generalize 2 ^ (32 * m) = M at e1 e3
  generalize 2 ^ k = K at e3 h
  obtain ⟨h1, h2⟩ := h
  unfold rlong
  rw [e1]
  rintro (h | h) <;> omega
end Go.Proofs.YtnfemheabikolaaGreatDoor

