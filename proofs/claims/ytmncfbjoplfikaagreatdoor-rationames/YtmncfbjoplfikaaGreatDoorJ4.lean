/- My texts on the way to RatioNames, one behind the other: contracts of the program and of the document's answers. -/
import Derived.Test.YtmncfbjoplfikaaGreatDoorJ1
import Derived.Test.YtmncfbjoplfikaaGreatDoorJ2
import Derived.Test.YtmncfbjoplfikaaGreatDoorJ3
import Derived.Test.YtmncfbjoplfikaaGreatDoorShelf
import Derived.Lib.ItoaMem
import Derived.Lib.ItoaLen
import Derived.Lib.Walk
import Derived.Deep.LoopGhost
import Derived.Handy
import Derived.Lib.IndexLaws
/- strconv.FormatUint to the base 10 tells a number's digits: of every number of 64 bits, where the library's table of powers of ten stands as its text lays it. -/
namespace Go.Proofs.YtmncfbjoplfikaaGreatDoor
open Go.RowKit Go.Lib Go.Sort
set_option linter.unusedVariables false

/-- The table of powers of ten stands as the library's text lays it. -/
def Tab (w : World) : Prop := Lib.TabIs Tryz.prog w "internal/strconv.uint64pow10" .u64 Lib.pow10Tab
theorem Tab.later {w w' : World} (h : Tab w) (hb : Below w.heap.size w w') : Tab w' := by
  unfold Tab Lib.TabIs World.var? at *
  cases hg : Tryz.prog.globalNamed "internal/strconv.uint64pow10" with
  | none => simp [hg] at h
  | some g =>
    simp only [hg, Option.bind_some] at h ⊢
    have hlt : g < w.heap.size := by
      rcases Nat.lt_or_ge g w.heap.size with h' | h'
      · exact h'
      · rw [Array.getElem?_eq_none h'] at h; simp at h
    rw [hb.block g hlt]
    exact h

theorem holds_zero0 (w : World) (T : TypeId) (nd : Nat) (hs : nd ≤ 24) : Holds (fun (b : UInt8) => Value.int .u8 (b.toNat : Int)) (w.alloc (.cells zeros24 T)) w.heap.size 0 (Array.replicate nd (0 : UInt8)) := fun j hj => by
  have hj' : j < nd := by simpa using hj
  refine ⟨?_, World.frozen?_alloc_new _ _ _ _⟩
  rw [World.cell?_alloc_new, zeros24_at _ (by omega), getElem!_pos _ j hj]
  simp
theorem fin_pos0 (w : World) (o : Obj) (dk : Array UInt8) (k : Nat) : Below w.heap.size w ((putRow (fun (b : UInt8) => Value.int .u8 (b.toNat : Int)) (w.alloc o) w.heap.size 0 dk).drewN k) := by
  rw [alloc_eq_grow]
  obtain ⟨os', _, e⟩ := putRow_grow_new (fun (b : UInt8) => Value.int .u8 (b.toNat : Int)) w #[o] w.heap.size 0 dk (Nat.le_refl _)
  rw [e]
  refine ⟨rfl, rfl, rfl, ?_, fun j hj => ?_⟩
  · show w.heap.size ≤ (w.heap ++ os').size
    simp
  · show (w.heap ++ os')[j]? = _
    rw [Array.getElem?_append_left hj]

set_option maxHeartbeats 3200000 in
set_option maxRecDepth 100000 in
theorem formatUint_any (u : Nat) (hu64 : u < 18446744073709551616) (w : World) (htab : Tab w) :
    Calls Tryz.prog 73 #[.int .u64 u, .int .i64 10] w fun e w' => e = .returned (.string ⟨(Lib.decDigits u).toArray⟩) ∧ Below w.heap.size w w' := by
  by_cases hs : u < 100
  · have hlt : (u : Int) < 100 := by omega
    go_enter Tryz.func73, Tryz.ntmps73
    go_wp2_with fail
    refine (Tryz.internal_strconv_small u hs _).mono ?_
    rintro e w' ⟨rfl, rfl⟩
    go_wp2
    go_ret
    exact ⟨rfl, Below.refl _ _⟩
  · have hu1 : 1 ≤ u := by omega
    have hge : ¬ (u : Int) < 100 := by omega
    have hnd20 : Lib.nDigits u ≤ 20 := nDigits_le20 u hu64
    have hnd24 : Lib.nDigits u ≤ 24 := by omega
    have hal : Tryz.prog.arrayLen 120 = 24 := by kernel_rfl
    have hsl : ∀ W, (Instr.sliceAt 120 (.pointer (some ⟨w.heap.size, 0, none⟩)) none (some (.int .i64 (Lib.nDigits u : Int))) none).run Tryz.prog W = .ok (.slice (some ⟨w.heap.size, 0, none⟩) (Lib.nDigits u) 24) W := fun W => by
      rw [run_sliceAt_array_h W 120 ⟨w.heap.size, 0, none⟩ (by kernel_rfl) .i64 (Lib.nDigits u : Int) (by omega) (by rw [hal]; omega)]
      go_simp
    have hH0 := holds_zero0 w 120 (Lib.nDigits u) (by omega)
    have hfmt := Tryz.internal_strconv_formatBase10 w.heap.size 0 24 u (Array.replicate (Lib.nDigits u) 0) (w.alloc (.cells Lib.zeros24 120)) hH0 (by rw [Array.size_replicate]; exact Lib.lt_pow_nDigits u) hu64 (by rw [Array.size_replicate]; omega)
    rw [Array.size_replicate] at hfmt
    have HH0 := hid hH0
    have HFM := hid hfmt
    have HT := hid (Lib.tabIs_alloc htab (.cells Lib.zeros24 120))
    clear hH0 hal hfmt htab
    go_enter Tryz.func73, Tryz.ntmps73
    go_wp2_with fail
    refine (Tryz.internal_strconv_numDigits u hu1 hu64 _ HT.out).mono ?_
    rintro e w' ⟨rfl, rfl⟩
    go_wp2_with fail
    refine Calls.mono HFM.out ?_
    rintro e w' ⟨rfl, k, v', dk, rfl, hF⟩
    have HF := hid hF
    have hcv : (convert 86 9 (.slice (some ⟨w.heap.size, 0, none⟩) (Lib.nDigits u) 24)).run Tryz.prog ((putRow (fun (b : UInt8) => Value.int .u8 (b.toNat : Int)) (w.alloc (.cells Lib.zeros24 120)) w.heap.size 0 dk).drewN k) = .ok (.string ⟨(Lib.decDigits u).toArray⟩) ((putRow (fun (b : UInt8) => Value.int .u8 (b.toNat : Int)) (w.alloc (.cells Lib.zeros24 120)) w.heap.size 0 dk).drewN k) := by
      have h := run_convert_bytes_back (P := Tryz.prog) ((putRow (fun (b : UInt8) => Value.int .u8 (b.toNat : Int)) (w.alloc (.cells Lib.zeros24 120)) w.heap.size 0 dk).drewN k) 86 9 5 ⟨w.heap.size, 0, none⟩ 24 (Lib.decDigits u) Tryz.underlying86 Tryz.underlying5 Tryz.underlying9 (fun j hj => by
        rw [Lib.add_plain, Lib.row_is_numeral hF j hj, World.cell?_drewN]
        exact cell?_putRow (fun (b : UInt8) => Value.int .u8 (b.toNat : Int)) _ w.heap.size 0 _ dk HH0.out (by rw [hF.size, Array.size_replicate]) j (by rw [hF.size]; rw [Lib.decDigits_length] at hj; exact hj))
      rw [Lib.decDigits_length] at h
      exact h
    clear hF
    go_wp2
    go_ret
    exact ⟨rfl, fin_pos0 w _ dk k⟩

set_option maxHeartbeats 800000 in
set_option maxRecDepth 100000 in
theorem format_any (u : Nat) (hu64 : u < 18446744073709551616) (w : World) (htab : Tab w) :
    Calls Tryz.prog 56 #[.int .u64 u, .int .i64 10] w fun e w' => e = .returned (.string ⟨(Lib.decDigits u).toArray⟩) ∧ Below w.heap.size w w' := by
  go_enter Tryz.func56, Tryz.ntmps56
  go_wp2_with fail
  refine (formatUint_any u hu64 w htab).mono ?_
  rintro e w' ⟨rfl, hb⟩
  go_wp2
  go_ret
  exact ⟨rfl, hb⟩
end Go.Proofs.YtmncfbjoplfikaaGreatDoor

/- nat.Print tells the decimal digits of a number's value, or its error: of every list that can be read, where the library's table of powers of ten stands as its text lays it. -/
namespace Go.Proofs.YtmncfbjoplfikaaGreatDoor
open Go.RowKit Go.Lib
set_option linter.unusedVariables false

/-- Nine digits, noughts ahead. -/
def pad : Nat → Nat → List UInt8
  | 0, _ => []
  | k + 1, p => pad k (p / 10) ++ [UInt8.ofNat (48 + p % 10)]
theorem digits_pad (hi : Nat) (h : 1 ≤ hi) : ∀ (k p : Nat), p < 10 ^ k → decDigits (hi * 10 ^ k + p) = decDigits hi ++ pad k p
  | 0, p, hp => by
    have : p = 0 := by simpa using hp
    subst this; simp [pad]
  | k + 1, p, hp => by
    have hk : 1 ≤ 10 ^ k := Nat.one_le_pow _ _ (by decide)
    have e1 : hi * 10 ^ (k + 1) = hi * 10 ^ k * 10 := by rw [Nat.pow_succ, Nat.mul_assoc]
    have h2 : hi ≤ hi * 10 ^ k := Nat.le_mul_of_pos_right hi hk
    have hge : ¬ hi * 10 ^ (k + 1) + p < 10 := by omega
    rw [decDigits, dif_neg hge]
    have e2 : (hi * 10 ^ (k + 1) + p) / 10 = hi * 10 ^ k + p / 10 := by omega
    have e3 : (hi * 10 ^ (k + 1) + p) % 10 = p % 10 := by omega
    rw [e2, e3, digits_pad hi h k (p / 10) (by rw [Nat.pow_succ] at hp; omega), pad, List.append_assoc]
theorem pad_eq : ∀ (k p : Nat), p < 10 ^ (k + 1) → pad (k + 1) p = List.replicate (k + 1 - nDigits p) 48 ++ decDigits p ∧ nDigits p ≤ k + 1
  | 0, p, hp => by
    have h10 : p < 10 := by simpa using hp
    rw [nDigits_small h10, decDigits_one h10]
    refine ⟨?_, Nat.le_refl _⟩
    simp [pad]
    congr 1
    omega
  | k + 1, p, hp => by
    by_cases h10 : p < 10
    · have ih := pad_eq k (p / 10) (by rw [Nat.pow_succ] at hp; omega)
      have e0 : p / 10 = 0 := by omega
      rw [e0, nDigits_small (by omega), decDigits_one (by omega)] at ih
      rw [nDigits_small h10, decDigits_one h10]
      refine ⟨?_, by omega⟩
      show pad (k + 1) (p / 10) ++ _ = _
      rw [e0, ih.1]
      have e1 : k + 1 + 1 - 1 = (k + 1 - 1) + 1 := by omega
      rw [e1, List.replicate_succ', show p % 10 = p by omega]
      rfl
    · have ih := pad_eq k (p / 10) (by rw [Nat.pow_succ] at hp; omega)
      rw [nDigits_big h10]
      refine ⟨?_, by omega⟩
      show pad (k + 1) (p / 10) ++ _ = _
      rw [ih.1, decDigits.eq_def p, dif_neg h10, List.append_assoc]
      congr 2
      omega

theorem repeat_noughts : ∀ c, repeatL [48] c = List.replicate c 48
  | 0 => rfl
  | c + 1 => by show [48] ++ repeatL [48] c = _; rw [repeat_noughts c]; rfl

/-- The digits of the pieces from place k on. -/
theorem piece_step (ps : List Int) (hp : Pc ps) (k : Nat) (hk : k + 1 < ps.length) (htop : 0 < ps[ps.length - 1]?.getD 0) :
    decDigits (pval (ps.drop k)).toNat = decDigits (pval (ps.drop (k + 1))).toNat ++ (List.replicate (9 - nDigits (ps[k]?.getD 0).toNat) 48 ++ decDigits (ps[k]?.getD 0).toNat) ∧ nDigits (ps[k]?.getD 0).toNat ≤ 9 := by
  have hb := hp.at k
  have e1 : ps.drop k = ps[k]?.getD 0 :: ps.drop (k + 1) := by
    rw [List.drop_eq_getElem_cons (by omega), List.getElem?_eq_getElem (by omega)]; rfl
  have hpc : Pc (ps.drop (k + 1)) := fun q hq => hp q (List.mem_of_mem_drop hq)
  have hpos : 1 ≤ pval (ps.drop (k + 1)) := by
    have main : ∀ l : List Int, Pc l → 0 < l.length → 0 < l[l.length - 1]?.getD 0 → 1 ≤ pval l := by
      intro l
      induction l with
      | nil => intro _ h; simp at h
      | cons q l ih =>
        intro hc _ ht
        have hq := hc q List.mem_cons_self
        show 1 ≤ q + pval l * 1000000000
        rcases l with _ | ⟨q2, l⟩
        · simp at ht; simp [pval]; omega
        · have := ih (fun x hx => hc x (List.mem_cons_of_mem _ hx)) (by simp) (by simpa using ht)
          omega
    refine main _ hpc (by rw [List.length_drop]; omega) ?_
    rw [List.getElem?_drop, List.length_drop, show k + 1 + (ps.length - (k + 1) - 1) = ps.length - 1 by omega]
    exact htop
  have e2 : (pval (ps.drop k)).toNat = (pval (ps.drop (k + 1))).toNat * 10 ^ 9 + (ps[k]?.getD 0).toNat := by
    rw [e1]
    show (ps[k]?.getD 0 + pval (ps.drop (k + 1)) * 1000000000).toNat = _
    omega
  have pe := pad_eq 8 (ps[k]?.getD 0).toNat (by omega)
  rw [e2, digits_pad _ (by omega) 9 _ (by omega), pe.1]
  exact ⟨rfl, pe.2⟩

theorem builder_later {T e B b : Nat} {bs : List Value} {w w' : World} (h : IsBuilder T e B b bs w) (hb : Below w.heap.size w w') : IsBuilder T e B b bs w' := by
  have main : ∀ p, BuilderAt T e B b p bs w → BuilderAt T e B b p bs w' := by
    intro p h
    have hlt := h.lt
    obtain ⟨hB, v, hbk, hown, hne⟩ := h
    exact ⟨hB, v, (hb.block b hlt).trans hbk, owns_later hown hb, hne⟩
  exact h.imp (main _) (main _)
theorem builder_lt {T e B b : Nat} {bs : List Value} {w : World} (h : IsBuilder T e B b bs w) : b < w.heap.size := by
  rcases h with h | h
  · exact h.lt
  · exact h.lt

theorem ret_text {a b : ByteArray} {c d : Int} (h : a = b) (g : c = d) : Ending.returned (.tuple #[.string a, .int .i64 c]) = .returned (.tuple #[.string b, .int .i64 d]) := by rw [h, g]

set_option maxHeartbeats 6400000 in
set_option maxRecDepth 100000 in
theorem print_any (v : Value) (xs : List Int) (w : World) (h : Sl w v xs) (hn : xs.length ≤ 281474976710656) (htab : Tab w) :
    Calls Tryz.prog 38 #[v] w fun e w' => e = .returned (.tuple #[.string (if chk xs = 0 then ⟨(decDigits (val xs).toNat).toArray⟩ else ⟨#[]⟩), .int .i64 (chk xs)]) ∧ Below w.heap.size w w' := by
  by_cases hc : chk xs = 0
  · have HC := hid (check_sl v xs w h hn)
    rw [hc] at HC ⊢
    rw [if_pos rfl]
    have l1 := (chk_ok hc).1
    have t1 := (chk_ok hc).2
    have wx := h.wd
    clear hc
    by_cases h0 : xs.length = 0
    · have hx : xs = [] := List.eq_nil_of_length_eq_zero h0
      have HF : Hid ((⟨(decDigits (val xs).toNat).toArray⟩ : ByteArray) = ⟨#[48]⟩) := by
        show _ = _
        rw [hx, val_nil, show Int.toNat 0 = 0 from rfl, decDigits_one (by decide)]
        rfl
      obtain ⟨a, cap, rfl, hr⟩ := h
      have hz : ((xs.length : Int) == 0) = true := by simp [hx]
      clear hx h0 hr t1
      go_enter Tryz.func38, Tryz.ntmps38
      go_wp2_with fail
      refine Calls.mono HC.out ?_
      rintro e w' ⟨rfl, rfl⟩
      go_wp2_with fail
      go_ret2
      exact ⟨ret_text HF.out.symm rfl, Below.refl _ _⟩
    · have hz : ((xs.length : Int) == 0) = false := by simp; exact fun e => h0 (by simp [e])
      have HS := hid (split_any v xs w h l1 t1 (by omega))
      have HT := hid htab
      obtain ⟨a, cap, rfl, hr⟩ := h
      clear hr t1 h0 htab
      go_enter Tryz.func38, Tryz.ntmps38
      go_wp2_with fail
      refine Calls.mono HC.out ?_
      rintro e w' ⟨rfl, rfl⟩
      go_wp2_with fail
      refine Calls.mono HS.out ?_
      rintro e w1 ⟨vp, ps, rfl, op, hpc, hpv, hp0, hp1, htop, hb1⟩
      obtain ⟨gp, cp, hvp, hcp1, hcp2⟩ := own_shape' op hp0
      rw [hvp] at op ⊢
      have hgp := op.lt gp rfl
      have hcell : ∀ j, j < ps.length → w1.cell? ⟨gp, j, none⟩ = some (.int .u32 (ps[j]?.getD 0)) := fun j hj => by
        rw [op.cellAt j (by omega), List.getElem?_map, List.getElem?_eq_getElem hj]; rfl
      have HCE := hid hcell
      have HPV := hid hpv
      have HTP := hid htop
      obtain ⟨K, hK⟩ : ∃ K, K = ps.length := ⟨_, rfl⟩
      have HK := hid hK
      rw [← hK] at hp0 hp1 hcp1 ⊢
      have hs1 := hb1.size
      have hcp3 : cp ≤ 9223372036854775807 := by unfold maxLen at hcp2; omega
      obtain ⟨b, hb⟩ : ∃ b, b = w1.heap.size := ⟨_, rfl⟩
      have HBB : Hid (IsBuilder 88 5 b b (byteCells []) (w1.alloc (.cells #[.pointer none, .slice none 0 0] 88))) := by
        left
        exact ⟨Nat.le_refl _, .slice none 0 0, by rw [hb]; exact heap_alloc_new w1 _, World.ownsRow_nil _ _ _ _, by simp [Value.ownBlock]⟩
      have hbA : Below w.heap.size w (w1.alloc (.cells #[.pointer none, .slice none 0 0] 88)) := hb1.alloc hs1 _
      have hbB : Below b w1 (w1.alloc (.cells #[.pointer none, .slice none 0 0] 88)) := (Below.refl _ _).alloc (by omega) _
      have hgpb : gp < b := by omega
      have hwb : w.heap.size ≤ b := by omega
      clear op hcell hpv htop hK hcp2 hvp hs1 HS HC
      go_wp2_with fail
      rw [← hb]
      clear hb
      go_loopw [7] (fun t wr => ∃ (k : Nat) (txt : List UInt8), k ≤ K ∧ t = .int .i64 ((k : Int) - 1) ∧ Hid (k < K → txt = decDigits (pval (ps.drop k)).toNat) ∧ Hid (k = K → txt = []) ∧ txt.length ≤ 9 * (K - k) ∧
        IsBuilder 88 5 b b (byteCells txt) wr ∧ Below w.heap.size w wr ∧ Below b w1 wr) (fun t _ => (RowKit.intOf t + 1).toNat)
      case atStart => exact ⟨K, [], Nat.le_refl _, rfl, fun e => by omega, fun _ => rfl, by simp, HBB.out, hbA, hbB⟩
      case round =>
        obtain ⟨k, txt, hk, rfl, HX, HY, hlen, hbu, hb2, hb3⟩ := hrel
        have hblt := builder_lt hbu
        rcases k with _ | k
        · have HX' : Hid (txt = decDigits (val xs).toNat) := by
            show _ = _
            rw [HX.out hp0, List.drop_zero, HPV.out]
          clear HX HY
          go_wp2_with fail
          refine (Tryz.Builder_String_any b b txt wr hbu (by omega)).mono ?_
          rintro e w3 ⟨rfl, hb4⟩
          have hbF : Below w.heap.size w w3 := hb2.trans (hb4.mono hwb)
          go_wp2_with fail
          go_ret2
          exact ⟨ret_text (by rw [HX'.out]) rfl, hbF⟩
        · have ek : (((k + 1 : Nat) : Int) - 1) = (k : Int) := by omega
          rw [ek]
          clear ek
          have bp := hpc.at k
          have x1 : wr.cell? ⟨gp, k, none⟩ = some (.int .u32 (ps[k]?.getD 0)) := (hb3.cell (p := ⟨gp, k, none⟩) hgpb).trans (HCE.out k (by have := HK.out; omega))
          obtain ⟨p, hp⟩ : ∃ p : Nat, (p : Int) = ps[k]?.getD 0 := ⟨(ps[k]?.getD 0).toNat, by omega⟩
          rw [← hp] at x1 bp
          have hp9 : p < 1000000000 := by omega
          have HP := hid hp
          have htw := HT.out.later hb2
          clear hp bp
          go_wp2_with fail
          refine (format_any p (by omega) wr htw).mono ?_
          rintro e w4 ⟨rfl, hb4⟩
          have hnd : nDigits p ≤ 9 := (pad_eq 8 p (by omega)).2
          obtain ⟨S, hS⟩ : ∃ S : ByteArray, S = ⟨(decDigits p).toArray⟩ := ⟨_, rfl⟩
          have hSs : S.size = nDigits p := by rw [hS, ← decDigits_length]; exact List.size_toArray
          rw [← hS]
          have hSn : S.size ≤ 9 := by omega
          have HSE := hid hS
          have HSS := hid hSs
          have hbu4 := builder_later hbu hb4
          have hs4 := hb4.size
          have hb24 : Below w.heap.size w w4 := bt hb2 hb4
          have hb34 : Below b w1 w4 := hb3.trans (hb4.mono (by omega))
          clear hS hSs hbu hb4 htw x1 hb2 hb3
          by_cases hlast : k + 1 < K
          · have hli : (k : Int) < (K : Int) - 1 := by omega
            go_wp2_with fail
            rw [show (9 : Int) - (S.size : Int) = ((9 - S.size : Nat) : Int) by omega]
            refine (Tryz.strings_Repeat ⟨#[48]⟩ (9 - S.size) w4 (by omega) (by show 1 * _ ≤ _; omega)).mono ?_
            rintro e w5 ⟨rfl, hb5⟩
            have hbu5 := builder_later hbu4 hb5
            have hs5 := hb5.size
            obtain ⟨Z, hZ⟩ : ∃ Z : ByteArray, Z = ⟨(repeatL [48] (9 - S.size)).toArray⟩ := ⟨_, rfl⟩
            have hZs : Z.size = 9 - S.size := by rw [hZ]; show (repeatL [48] (9 - S.size)).toArray.size = _; rw [List.size_toArray, repeatL_length]; simp
            have hZ' : Z = ⟨(repeatL (ByteArray.mk #[48]).data.toList (9 - S.size)).toArray⟩ := hZ
            rw [← hZ']
            have HZE := hid hZ
            have hb25 : Below w.heap.size w w5 := bt hb24 hb5
            have hb35 : Below b w1 w5 := hb34.trans (hb5.mono (by omega))
            have HZS := hid hZs
            have hz9 : Z.size ≤ 9 := by omega
            clear hZ hZ' hZs hbu4 hb5 hb24 hb34
            go_wp2_with fail
            refine (Tryz.Builder_WriteString b b (byteCells txt) Z w5 hbu5 (by rw [byteCells_length]; omega) (by omega)).mono ?_
            rintro e w6 ⟨rfl, hbu6, hb6⟩
            have hs6 := hb6.size
            have hb26 : Below w.heap.size w w6 := hb25.trans (hb6.mono hwb)
            have hb36 : Below b w1 w6 := hb35.trans hb6
            rw [strCells_eq, ← byteCells_append] at hbu6
            clear hbu5 hb6 hb25 hb35
            go_wp2_with fail
            refine (Tryz.Builder_WriteString b b (byteCells (txt ++ Z.data.toList)) S w6 (.inr hbu6) (by have e1 : Z.data.toList.length = Z.size := Array.length_toList; rw [byteCells_length, List.length_append]; omega) (by omega)).mono ?_
            rintro e w7 ⟨rfl, hbu7, hb7⟩
            have hb27 : Below w.heap.size w w7 := hb26.trans (hb7.mono hwb)
            have hb37 : Below b w1 w7 := hb36.trans hb7
            rw [strCells_eq, ← byteCells_append] at hbu7
            have HB7 := hid (show IsBuilder 88 5 b b (byteCells (txt ++ Z.data.toList ++ S.data.toList)) w7 from .inr hbu7)
            have HTX : Hid (txt ++ Z.data.toList ++ S.data.toList = decDigits (pval (ps.drop k)).toNat) := by
              show _ = _
              have st := piece_step ps hpc k (by have := HK.out; omega) HTP.out
              have ep : (ps[k]?.getD 0).toNat = p := by have := HP.out; omega
              rw [ep] at st
              rw [st.1, HX.out hlast, HZE.out, HSS.out, HSE.out, repeat_noughts, List.append_assoc]
            have HLN : Hid ((txt ++ Z.data.toList ++ S.data.toList).length ≤ 9 * (K - k)) := by
              show _ ≤ _
              have e1 : Z.data.toList.length = Z.size := Array.length_toList
              have e2 : S.data.toList.length = S.size := Array.length_toList
              have := HZS.out
              rw [List.length_append, List.length_append]
              omega
            clear hbu6 hbu7 hb7 hb26 hb36 HX HY
            go_wp2_with fail
            go_roundw
            case rel => exact ⟨k, _, by omega, rfl, fun _ => HTX.out, fun e => by omega, HLN.out, HB7.out, hb27, hb37⟩
            case measure => simp [RowKit.intOf]
          · have hkK : k + 1 = K := by omega
            have hli : ¬ (k : Int) < (K : Int) - 1 := by omega
            have htx : txt = [] := HY.out hkK
            go_wp2_with fail
            refine (Tryz.Builder_WriteString b b (byteCells txt) S w4 hbu4 (by rw [byteCells_length]; omega) (by omega)).mono ?_
            rintro e w5 ⟨rfl, hbu5, hb5⟩
            rw [strCells_eq, ← byteCells_append] at hbu5
            have hb25 : Below w.heap.size w w5 := hb24.trans (hb5.mono hwb)
            have hb35 : Below b w1 w5 := hb34.trans hb5
            have HB5 := hid (show IsBuilder 88 5 b b (byteCells (txt ++ S.data.toList)) w5 from .inr hbu5)
            have HTX : Hid (txt ++ S.data.toList = decDigits (pval (ps.drop k)).toNat) := by
              show _ = _
              have ed : ps.drop k = [ps[k]?.getD 0] := by
                rw [List.drop_eq_getElem_cons (by have := HK.out; omega), List.getElem?_eq_getElem (by have := HK.out; omega), List.drop_eq_nil_of_le (by have := HK.out; omega)]; rfl
              have ep : (ps[k]?.getD 0).toNat = p := by have := HP.out; omega
              rw [htx, ed, HSE.out]
              simp [pval, ep]
            have HLN : Hid ((txt ++ S.data.toList).length ≤ 9 * (K - k)) := by
              show _ ≤ _
              have e2 : S.data.toList.length = S.size := Array.length_toList
              rw [List.length_append, htx]
              simp
              omega
            clear hbu4 hbu5 hb5 hb24 hb34 HX HY htx
            go_wp2_with fail
            go_roundw
            case rel => exact ⟨k, _, by omega, rfl, fun _ => HTX.out, fun e => by omega, HLN.out, HB5.out, hb25, hb35⟩
            case measure => simp [RowKit.intOf]
  · have hne : (chk xs != 0) = true := by simp [hc]
    rw [if_neg hc]
    clear hc
    go_enter Tryz.func38, Tryz.ntmps38
    go_wp2_with fail
    refine (check_sl v xs w h hn).mono ?_
    rintro e w' ⟨rfl, rfl⟩
    go_wp2
    go_ret2
    exact ⟨rfl, Below.refl _ _⟩
end Go.Proofs.YtmncfbjoplfikaaGreatDoor

/- nat.Parse reads decimal digits, or tells the error: of every text. -/
namespace Go.Proofs.YtmncfbjoplfikaaGreatDoor
open Go.RowKit
set_option linter.unusedVariables false

/-- Digits alone. -/
def Dg (l : List UInt8) : Prop := ∀ c ∈ l, 48 ≤ (c.toNat : Int) ∧ (c.toNat : Int) ≤ 57
/-- The text of a number: digits alone, no nought ahead. -/
def IsNum (l : List UInt8) : Prop := 0 < l.length ∧ (l[0]?.getD 0 = 48 → l.length ≤ 1) ∧ Dg l

theorem byte_at (s : ByteArray) (k : Nat) (h : k < s.size) : s.data.toList[k]? = some s[k] := by
  have : k < s.data.toList.length := by simpa using h
  rw [List.getElem?_eq_getElem this]; rfl
theorem size_list (s : ByteArray) : s.data.toList.length = s.size := Array.length_toList
theorem mem_at {l : List UInt8} {c : UInt8} (h : c ∈ l) : ∃ k : Nat, k < l.length ∧ l[k]? = some c := by
  obtain ⟨k, hk, e⟩ := List.getElem_of_mem h
  exact ⟨k, hk, by rw [List.getElem?_eq_getElem hk, e]⟩

open Classical in
set_option maxHeartbeats 1600000 in
set_option maxRecDepth 100000 in
theorem isNumber_loop (s : ByteArray) (w : World) (hs : s.size ≤ 65536) (hp : 0 < s.size) (hem : s.toList.isEmpty = false) (hz : ((s[0].toNat : Int) = 48 ∧ s.size = 1) ∨ ¬ (s[0].toNat : Int) = 48) (H1 : Hid (s.data.toList[0]?.getD 0 = 48 → s.data.toList.length ≤ 1)) :
    Calls Tryz.prog 62 #[.string s] w fun e w' => e = .returned (.bool (decide (IsNum s.data.toList))) ∧ w = w' := by
  have hl := size_list s
  have HL := hid hl
  have hen : ¬ s.toList = [] := fun e => by rw [e] at hem; simp at hem
  have hb : ((s[0].toNat : Int) == 48) = true ∧ ¬ 1 < s.size ∨ ((s[0].toNat : Int) == 48) = false := by
    rcases hz with ⟨h1, h2⟩ | h1
    · left; exact ⟨by simp [h1], by omega⟩
    · right; simp [h1]
  clear hl hz
  rcases hb with ⟨c0b, c1⟩ | c0b
  all_goals
    go_enter Tryz.func62, Tryz.ntmps62
    go_wp2_with fail
    go_loop [18] (fun t => ∃ k : Nat, k ≤ s.size ∧ t = .int .i64 k ∧ Hid (∀ j : Nat, j < k → 48 ≤ ((s.data.toList[j]?.getD 0).toNat : Int) ∧ ((s.data.toList[j]?.getD 0).toNat : Int) ≤ 57)) (fun t => s.size - (intOf t).toNat)
    case atStart => exact ⟨0, by omega, rfl, fun j hj => by omega⟩
    case round =>
      obtain ⟨k, hk, rfl, HJ⟩ := hrel
      by_cases hlt : k < s.size
      · have bk := byte_at s k hlt
        by_cases d1 : (s[k].toNat : Int) < 48
        · have HF : Hid (decide (IsNum s.data.toList) = false) := decide_eq_false (fun h => by
            have := h.2.2 _ (List.mem_of_getElem? bk)
            omega)
          clear bk
          go_wp2_with fail
          go_ret
          exact ⟨ret_bool HF.out.symm, rfl⟩
        · by_cases d2 : 57 < (s[k].toNat : Int)
          · have HF : Hid (decide (IsNum s.data.toList) = false) := decide_eq_false (fun h => by
              have := h.2.2 _ (List.mem_of_getElem? bk)
              omega)
            clear bk
            go_wp2_with fail
            go_ret
            exact ⟨ret_bool HF.out.symm, rfl⟩
          · have HJ' : Hid (∀ j : Nat, j < k + 1 → 48 ≤ ((s.data.toList[j]?.getD 0).toNat : Int) ∧ ((s.data.toList[j]?.getD 0).toNat : Int) ≤ 57) := fun j hj => by
              by_cases e : j = k
              · rw [e, bk]; show 48 ≤ (s[k].toNat : Int) ∧ (s[k].toNat : Int) ≤ 57; omega
              · exact HJ.out j (by omega)
            clear bk
            go_wp2_with fail
            go_round
            case rel => exact ⟨k + 1, by omega, by go_num, HJ'⟩
            case measure => simp [intOf]; omega
      · have HF : Hid (decide (IsNum s.data.toList) = true) := decide_eq_true (by
          refine ⟨by have := HL.out; omega, H1.out, fun c hc => ?_⟩
          obtain ⟨j, hj, e⟩ := mem_at hc
          have := HJ.out j (by have := HL.out; omega)
          rw [e] at this
          exact this)
        go_wp2_with fail
        go_ret
        exact ⟨ret_bool HF.out.symm, rfl⟩

open Classical in
set_option maxHeartbeats 1600000 in
set_option maxRecDepth 100000 in
theorem isNumber_any (s : ByteArray) (w : World) (hs : s.size ≤ 65536) :
    Calls Tryz.prog 62 #[.string s] w fun e w' => e = .returned (.bool (decide (IsNum s.data.toList))) ∧ w = w' := by
  have hl := size_list s
  by_cases h0 : s.size = 0
  · have HF : Hid (decide (IsNum s.data.toList) = false) := decide_eq_false (fun h => by have := h.1; omega)
    have hse : s = ⟨#[]⟩ := by
      obtain ⟨d⟩ := s
      have : d = #[] := Array.eq_empty_of_size_eq_zero h0
      rw [this]
    subst hse
    clear h0 hl
    go_enter Tryz.func62, Tryz.ntmps62
    go_wp2
    go_ret
    exact ⟨ret_bool HF.out.symm, rfl⟩
  · have hp : 0 < s.size := by omega
    have b0 := byte_at s 0 hp
    have hem : s.toList.isEmpty = false := by
      rw [ByteArray.toList_eq]
      cases hx : s.data.toList with
      | nil => rw [hx] at hl; simp at hl; omega
      | cons _ _ => rfl
    have hen : ¬ s.toList = [] := fun e => by rw [e] at hem; simp at hem
    by_cases c0 : (s[0].toNat : Int) = 48
    · have c0b : ((s[0].toNat : Int) == 48) = true := by simp [c0]
      have hc48 : s[0] = 48 := UInt8.toNat_inj.1 (by show s[0].toNat = 48; omega)
      by_cases c1 : 1 < s.size
      · have HF : Hid (decide (IsNum s.data.toList) = false) := decide_eq_false (fun h => by
          have := h.2.1 (by rw [b0, hc48]; rfl)
          omega)
        clear hl h0 b0 hen hc48
        go_enter Tryz.func62, Tryz.ntmps62
        go_wp2_with fail
        go_ret
        exact ⟨ret_bool HF.out.symm, rfl⟩
      · have H1 : Hid (s.data.toList[0]?.getD 0 = 48 → s.data.toList.length ≤ 1) := fun _ => by omega
        exact isNumber_loop s w hs hp hem (.inl ⟨c0, by omega⟩) H1
    · have H1 : Hid (s.data.toList[0]?.getD 0 = 48 → s.data.toList.length ≤ 1) := fun e => by
        rw [b0] at e
        have e : s[0] = 48 := e
        exact absurd (by rw [e]; rfl) c0
      exact isNumber_loop s w hs hp hem (.inr c0) H1

/-- The number of the first k digits. -/
def numTo (l : List UInt8) : Nat → Int
  | 0 => 0
  | k + 1 => numTo l k * 10 + (((l[k]?.getD 48).toNat : Int) - 48)
theorem numTo_bounds {l : List UInt8} (hd : Dg l) : ∀ k, 0 ≤ numTo l k ∧ numTo l k < 10 ^ k
  | 0 => ⟨Int.le_refl _, by simp [numTo]⟩
  | k + 1 => by
    obtain ⟨h0, h1⟩ := numTo_bounds hd k
    have hc : 48 ≤ ((l[k]?.getD 48).toNat : Int) ∧ ((l[k]?.getD 48).toNat : Int) ≤ 57 := by
      by_cases hk : k < l.length
      · rw [List.getElem?_eq_getElem hk]; exact hd _ (List.getElem_mem hk)
      · rw [List.getElem?_eq_none (by omega)]; decide
    show 0 ≤ numTo l k * 10 + _ ∧ numTo l k * 10 + _ < _
    rw [Int.pow_succ]
    omega
theorem numTo_congr (l l' : List UInt8) : ∀ k, (∀ j, j < k → l[j]?.getD 48 = l'[j]?.getD 48) → numTo l k = numTo l' k
  | 0, _ => rfl
  | k + 1, h => by
    show numTo l k * 10 + _ = numTo l' k * 10 + _
    rw [numTo_congr l l' k (fun j hj => h j (by omega)), h k (by omega)]
theorem numTo_add (l : List UInt8) (m : Nat) : ∀ n, numTo l (m + n) = numTo l m * 10 ^ n + numTo (l.drop m) n
  | 0 => by simp [numTo]
  | n + 1 => by
    have ih := numTo_add l m n
    show numTo l (m + n) * 10 + _ = numTo l m * 10 ^ (n + 1) + (numTo (l.drop m) n * 10 + _)
    rw [ih, Int.pow_succ, List.getElem?_drop, Int.add_mul, Int.mul_assoc, Int.add_assoc]
    rfl
theorem Dg.drop {l : List UInt8} (h : Dg l) (k : Nat) : Dg (l.drop k) := fun c hc => h c (List.mem_of_mem_drop hc)
theorem Dg.take {l : List UInt8} (h : Dg l) (k : Nat) : Dg (l.take k) := fun c hc => h c (List.mem_of_mem_take hc)

set_option maxHeartbeats 1600000 in
set_option maxRecDepth 100000 in
theorem wordOf_any (s : ByteArray) (w : World) (hs : s.size ≤ 9) (hd : Dg s.data.toList) :
    Calls Tryz.prog 82 #[.string s] w fun e w' => e = .returned (.int .u32 (numTo s.data.toList s.size)) ∧ w = w' := by
  have HD := hid hd
  clear hd
  go_enter Tryz.func82, Tryz.ntmps82
  go_wp2_with fail
  go_loop [3, 7] (fun x t => ∃ (k : Nat) (y : Int), k ≤ s.size ∧ t = .int .i64 k ∧ x = .int .u32 y ∧ Hid (y = numTo s.data.toList k)) (fun _ t => s.size - (intOf t).toNat)
  case atStart => exact ⟨0, 0, by omega, rfl, rfl, rfl⟩
  case round =>
    obtain ⟨k, y, hk, rfl, rfl, HY⟩ := hrel
    by_cases hlt : k < s.size
    · have bk := byte_at s k hlt
      have hb : 48 ≤ (s[k].toNat : Int) ∧ (s[k].toNat : Int) ≤ 57 := HD.out _ (List.mem_of_getElem? bk)
      have hy := numTo_bounds HD.out k
      rw [← HY.out] at hy
      have hp : (10 : Int) ^ k ≤ 10 ^ 8 := by
        obtain ⟨d, hd⟩ : ∃ d, 8 = k + d := ⟨8 - k, by omega⟩
        rw [hd, Int.pow_add]
        have h1 : (0 : Int) < 10 ^ k := Int.pow_pos (by decide)
        have h2 : (0 : Int) < 10 ^ d := Int.pow_pos (by decide)
        have h3 : (10 : Int) ^ k * 1 ≤ 10 ^ k * 10 ^ d := Int.mul_le_mul_of_nonneg_left (by omega) (by omega)
        omega
      have hy0 : 0 ≤ y := hy.1
      have hy1 : y < 100000000 := by have := hy.2; omega
      have hb0 := hb.1
      have hb1 := hb.2
      have HY' : Hid (y * 10 + ((s[k].toNat : Int) - 48) = numTo s.data.toList (k + 1)) := by
        show _ = numTo s.data.toList k * 10 + _
        rw [bk, ← HY.out]; rfl
      clear hy hp hb bk HY
      go_wp2
      go_round
      case rel => exact ⟨k + 1, _, by omega, by go_num, rfl, HY'.out⟩
      case measure => simp [intOf]; omega
    · have hkn : k = s.size := by omega
      go_wp2
      go_ret
      exact ⟨ret_int (by rw [HY.out, hkn]), rfl⟩
end Go.Proofs.YtmncfbjoplfikaaGreatDoor

/- nat.timesPiece, nat.join: the number of digits, piece by piece, in new memory. -/
namespace Go.Proofs.YtmncfbjoplfikaaGreatDoor
open Go.RowKit
set_option linter.unusedVariables false

theorem times_step (ys us : List Int) (k : Nat) (x c t : Int) (hk : k < us.length) (ht : c + ys[k]?.getD 0 * 1000000000 = t)
    (h : valTo us k + c * 4294967296 ^ k = valTo ys k * 1000000000 + x) :
    valTo (us.set k (t % 4294967296)) (k + 1) + t / 4294967296 * 4294967296 ^ (k + 1) = valTo ys (k + 1) * 1000000000 + x := by
  rw [valTo_set us k _ hk, valTo_succ, pw_succ]
  have e := carry_step (4294967296 ^ k) (t % 4294967296) (t / 4294967296) t (by omega)
  have e2 : t * 4294967296 ^ k = c * 4294967296 ^ k + ys[k]?.getD 0 * 4294967296 ^ k * 1000000000 := by
    rw [← ht, Int.add_mul, Int.mul_assoc, Int.mul_comm 1000000000, ← Int.mul_assoc]
  omega
theorem val_snoc (us : List Int) (z : Int) : val (us ++ [z]) = val us + z * 4294967296 ^ us.length := by
  unfold val
  rw [List.length_append, List.length_singleton, valTo_succ, valTo_congr (us ++ [z]) us us.length (fun j hj => by rw [List.getElem?_append_left hj])]
  simp

set_option maxHeartbeats 3200000 in
set_option maxRecDepth 100000 in
theorem timesPiece_any (base n : Nat) (v : Value) (ys : List Int) (x : Int) (w : World) (ho : w.ownsRow base 30 1 v n (ys.map (Value.int .u32))) (hwy : Wd ys) (hn : n ≤ 1000000) (hx : 0 ≤ x ∧ x ≤ 4294967295) (hbase : base ≤ w.heap.size) :
    Calls Tryz.prog 81 #[v, .int .u32 x] w fun e w' => ∃ (v' : Value) (zs : List Int), e = .returned v' ∧ w'.ownsRow base 30 1 v' zs.length (zs.map (Value.int .u32)) ∧ Wd zs ∧ zs.length ≤ n + 1 ∧ val zs = val ys * 1000000000 + x ∧ Below base w w' := by
  obtain ⟨i0, hi, hz0, hz1, hz2⟩ := info_parts Tryz.infoW
  have hx1 := hx.1
  have hx2 := hx.2
  rcases ho.2 with ⟨rfl, rfl⟩ | ⟨g, cap, cur, rfl, hrest⟩
  · have hy : ys = [] := List.eq_nil_of_length_eq_zero (by have := ho.1; simpa using this)
    subst hy
    clear ho
    by_cases h0 : x = 0
    · subst h0
      go_enter Tryz.func81, Tryz.ntmps81
      go_wp2
      refine wp_loop_rounds 1 ?_
      rw [rounds_succ]
      go_wp2
      go_ret
      exact ⟨_, [], rfl, World.ownsRow_nil _ _ _ _, Wd.nil, by simp, by simp [val, valTo], Below.refl _ _⟩
    · have hne : (x != 0) = true := by simp [h0]
      clear h0
      go_enter Tryz.func81, Tryz.ntmps81
      go_wp2_with fail
      refine wp_loop_rounds 1 ?_
      rw [rounds_succ]
      go_wp2_with (at_builtin; refine wpList_append_own _ rfl _ _ 22 rfl base 30 i0 (.int .u32 0) 1 4 Tryz.underlying22 hi hz0 hz1 hz2 rfl (by decide) _ _ _ rfl (World.ownsRow_nil _ _ _ _) ⟨w.heap.size, 0, none⟩ 1 1 [.int .u32 x] rfl rfl (cell_one_new _ _ _) (by simp [Value.oneCell']) (by unfold maxLen; omega) (by omega) (by simp; omega) ?_)
      intro v3 w3 op3 hg3 _
      have hb3 : Below base w w3 := ((Below.refl base w).alloc (by omega) _).grown hg3 (by simp; omega) (fun g hg => by simp [Value.ownBlock] at hg)
      have HP : Hid (w3.ownsRow base 30 1 v3 [x].length ([x].map (Value.int .u32))) := op3
      clear op3 hg3
      go_wp2
      go_ret
      exact ⟨v3, [x], rfl, HP.out, Wd.one hx, by simp, by rw [val_one, val_nil]; omega, hb3⟩
  · have ho' : OwnC w base g n cap ys := ho
    have hlen := ho'.len
    have hgl := World.ownsRow.lt ho g rfl
    have hcap := ho'.cap
    have hcp1 := hcap.1
    have hcp2 : cap ≤ 9223372036854775807 := by have := hcap.2; unfold maxLen at this; omega
    have HLN := hid hlen
    clear hlen hrest ho hx hcap
    go_enter Tryz.func81, Tryz.ntmps81
    go_wp2_with fail
    go_loopw [5, 12] (fun c t wr => ∃ (k : Nat) (r : Int) (us : List Int), k ≤ n ∧ t = .int .i64 k ∧ c = .int .u64 r ∧ 0 ≤ r ∧ r ≤ 4294967295 ∧ Wd us ∧ Hid (valTo us k + r * 4294967296 ^ k = valTo ys k * 1000000000 + x) ∧
      Hid (∀ j, k ≤ j → us[j]?.getD 0 = ys[j]?.getD 0) ∧ OwnC wr base g n cap us ∧ Below base w wr) (fun _ t _ => n - (intOf t).toNat)
    case atStart => exact ⟨0, x, ys, by omega, rfl, by go_num, by omega, by omega, hwy, show _ = _ by simp [valTo], fun _ _ => rfl, ho', Below.refl _ _⟩
    case round =>
      obtain ⟨k, r, us, hk, rfl, rfl, r0, r1, hwu, HV, HK, hou, hb⟩ := hrel
      by_cases hlt : k < n
      · have y1 := hou.cell k hlt
        have f1 := hou.free k
        have bu := hwu.at k
        have hlu := hou.len
        obtain ⟨t, ht⟩ : ∃ t, t = r + us[k]?.getD 0 * 1000000000 := ⟨_, rfl⟩
        have HT := hid ht
        have HV' := hid (times_step ys us k x r t (by omega) (by rw [ht, HK.out k (by omega)]) HV.out)
        have HK' : Hid (∀ j, k + 1 ≤ j → (us.set k (t % 4294967296))[j]?.getD 0 = ys[j]?.getD 0) := fun j hj => by
          rw [List.getElem?_set, if_neg (by omega)]
          exact HK.out j (by omega)
        have HO' := hid (hou.set k (t % 4294967296)).1
        have HB' := hid (hb.setCell (p := ⟨g, k, none⟩) hgl.1 (.int .u32 (t % 4294967296)))
        have ht0 : 0 ≤ t ∧ t ≤ 18446744073709551615 := by omega
        clear hlu hou hb HV HK ht
        go_wp2
        go_roundw
        case rel => rw [← HT.out]; exact ⟨k + 1, t / 4294967296, us.set k (t % 4294967296), by omega, by go_num, by go_num, by have := HT.out; omega, by have := HT.out; omega, hwu.set _ (by omega), HV', HK', HO'.out, HB'.out⟩
        case measure => simp [intOf]; omega
      · have hkm : k = n := by omega
        subst hkm
        have HV' : Hid (val us + r * 4294967296 ^ us.length = val ys * 1000000000 + x) := by
          show _ = _
          have e := HV.out
          rw [valTo_stable us k (by have := hou.len; omega), valTo_stable ys k (by have := HLN.out; omega)] at e
          rw [hou.len]
          exact e
        clear HV
        by_cases h0 : r = 0
        · subst h0
          have HE : Hid (val us = val ys * 1000000000 + x) := by show _ = _; have := HV'.out; omega
          have HO := hid (owns_len hou)
          have HU := hid hou.len
          clear hou HV'
          go_wp2_with fail
          go_ret
          exact ⟨_, us, rfl, HO.out, hwu, by have := HU.out; omega, HE.out, hb⟩
        · have hne : (r != 0) = true := by simp [h0]
          obtain ⟨R, hR⟩ : ∃ R, R = us.map (Value.int .u32) := ⟨_, rfl⟩
          have HM : Hid ((us ++ [r]).map (Value.int .u32) = R ++ [.int .u32 r]) := by show _ = _; rw [hR]; simp
          have hop : wr.ownsRow base 30 1 (.slice (some ⟨g, 0, none⟩) k cap) k R := by rw [hR]; exact hou
          have HU := hid hou.len
          have hbs := hb.size
          clear hR hou h0
          go_wp2_with (at_builtin; refine wpList_append_own _ rfl _ _ 22 rfl base 30 i0 (.int .u32 0) 1 4 Tryz.underlying22 hi hz0 hz1 hz2 rfl (by decide) _ _ _ rfl (hop.alloc _) ⟨wr.heap.size, 0, none⟩ 1 1 [.int .u32 r] rfl rfl (cell_one_new _ _ _) (by simp [Value.oneCell']) (by unfold maxLen; omega) (by omega) (by simp; omega) ?_)
          intro v3 w3 op3 hg3 _
          have hb3 : Below base w w3 := (hb.alloc (by omega) _).grown hg3 (by simp; omega) (fun g2 hg2 => by have := hop.lt g2 hg2; omega)
          have HPP : Hid (w3.ownsRow base 30 1 v3 (us ++ [r]).length ((us ++ [r]).map (Value.int .u32))) := by
            show World.ownsRow _ _ _ _ _ _ _
            rw [HM.out, List.length_append, List.length_singleton, HU.out]
            exact op3
          clear op3 hg3 hop
          go_wp2
          go_ret
          exact ⟨v3, us ++ [r], rfl, HPP.out, hwu.append (Wd.one ⟨r0, r1⟩), by rw [List.length_append, HU.out]; simp, by rw [val_snoc]; exact HV'.out, hb3⟩
end Go.Proofs.YtmncfbjoplfikaaGreatDoor

/- nat.join, nat.Parse: the number of digits, piece by piece, in new memory; every text read, or its error. -/
namespace Go.Proofs.YtmncfbjoplfikaaGreatDoor
open Go.RowKit
set_option linter.unusedVariables false

theorem list_size (s : ByteArray) {l : List UInt8} (h : s.data.toList = l) : s.size = l.length := by rw [← h]; exact (size_list s).symm

theorem extract_list (s : ByteArray) (i j : Nat) : (s.extract i j).data.toList = (s.data.toList.drop i).take (j - i) := by
  rw [ByteArray.data_extract, Array.toList_extract, List.extract_eq_take_drop]
theorem numTo_take (l : List UInt8) (n : Nat) : numTo (l.take n) n = numTo l n :=
  numTo_congr _ _ _ (fun j hj => by rw [List.getElem?_take, if_pos hj])
theorem numTo_piece (l : List UInt8) (m n k : Nat) (t : Int) (ht : t = numTo l m) (h : m = 0 ∨ k % 9 = 0) (hn : n = (k - 1) % 9 + 1) (hk : 0 < k) : t * 1000000000 + numTo (l.drop m) n = numTo l (m + n) := by
  rw [numTo_add, ht]
  rcases h with h | h
  · rw [h]; simp [numTo]
  · have : n = 9 := by omega
    rw [this]; rfl

set_option maxHeartbeats 3200000 in
set_option maxRecDepth 100000 in
theorem join_any (s : ByteArray) (w : World) (hs : s.size ≤ 65536) (hd : Dg s.data.toList) :
    Calls Tryz.prog 64 #[.string s] w fun e w' => ∃ (v : Value) (zs : List Int), e = .returned v ∧ w'.ownsRow w.heap.size 30 1 v zs.length (zs.map (Value.int .u32)) ∧ Wd zs ∧ zs.length ≤ s.size ∧ val zs = numTo s.data.toList s.size ∧ Below w.heap.size w w' := by
  have HD := hid hd
  have HL := hid (size_list s)
  clear hd
  go_enter Tryz.func64, Tryz.ntmps64
  go_wp2_with fail
  go_loopg [0, 3] s.size (fun k t v wr => ∃ (m : Nat) (s' : ByteArray) (ys : List Int), t = .string s' ∧ m + k = s.size ∧ s'.size = k ∧ Hid (s'.data.toList = s.data.toList.drop m) ∧ wr.ownsRow w.heap.size 30 1 v ys.length (ys.map (Value.int .u32)) ∧ Wd ys ∧ ys.length ≤ m ∧
    Hid (val ys = numTo s.data.toList m) ∧ Hid (m = 0 ∨ k % 9 = 0) ∧ Below w.heap.size w wr)
  case atStart => exact ⟨0, s, [], rfl, by omega, rfl, show _ = _ by simp, World.ownsRow_nil _ _ _ _, Wd.nil, by simp, show _ = _ by simp [val, valTo, numTo], .inl rfl, Below.refl _ _⟩
  case round =>
    obtain ⟨m, s', ys, rfl, hmk, hsz, HS, hop, hwy, hly, HV, HN, hb⟩ := hrel
    by_cases h0 : s'.size = 0
    · have hse : s' = ⟨#[]⟩ := by
        obtain ⟨d⟩ := s'
        have : d = #[] := Array.eq_empty_of_size_eq_zero h0
        rw [this]
      subst hse
      have hm : m = s.size := by omega
      have HV' : Hid (val ys = numTo s.data.toList s.size) := by show _ = _; rw [HV.out, hm]
      have HO := hid hop
      clear hop HS h0
      go_wp2_with fail
      go_ret
      exact ⟨_, ys, rfl, HO.out, hwy, by omega, HV'.out, hb⟩
    · have hp : 0 < s'.size := by omega
      have hem : s'.toList.isEmpty = false := by
        rw [ByteArray.toList_eq]
        have hl := size_list s'
        cases hx : s'.data.toList with
        | nil => rw [hx] at hl; simp at hl; omega
        | cons _ _ => rfl
      have hen : ¬ s'.toList = [] := fun e => by rw [e] at hem; simp at hem
      have hl1 : (s'.extract 0 ((gk - 1) % 9 + 1)).data.toList = (s.data.toList.drop m).take ((gk - 1) % 9 + 1) := by rw [extract_list, HS.out]; simp
      have hl2 : (s'.extract ((gk - 1) % 9 + 1) gk).data.toList = s.data.toList.drop (m + ((gk - 1) % 9 + 1)) := by
        rw [extract_list, HS.out, List.drop_drop, List.take_of_length_le (by rw [List.length_drop, HL.out]; omega)]
      have z1 : (s'.extract 0 ((gk - 1) % 9 + 1)).size = (gk - 1) % 9 + 1 := by
        rw [list_size _ hl1, List.length_take, List.length_drop, HL.out]; omega
      have z2 : (s'.extract ((gk - 1) % 9 + 1) gk).size = gk - ((gk - 1) % 9 + 1) := by
        rw [list_size _ hl2, List.length_drop, HL.out]; omega
      have hdg : Dg (s'.extract 0 ((gk - 1) % 9 + 1)).data.toList := by rw [hl1]; exact (HD.out.drop _).take _
      have hnum : numTo (s'.extract 0 ((gk - 1) % 9 + 1)).data.toList (s'.extract 0 ((gk - 1) % 9 + 1)).size = numTo (s.data.toList.drop m) ((gk - 1) % 9 + 1) := by
        rw [z1, hl1, numTo_take]
      have hpc := numTo_piece s.data.toList m ((gk - 1) % 9 + 1) gk _ HV.out HN.out rfl (by omega)
      have hbd := numTo_bounds (HD.out.drop m) ((gk - 1) % 9 + 1)
      have hp9 : (10 : Int) ^ ((gk - 1) % 9 + 1) ≤ 10 ^ 9 := by
        have h9 : (gk - 1) % 9 + 1 ≤ 9 := by omega
        generalize (gk - 1) % 9 + 1 = q at h9
        obtain ⟨d, hd⟩ : ∃ d, 9 = q + d := ⟨9 - q, by omega⟩
        rw [hd, Int.pow_add]
        have h1 : (0 : Int) < 10 ^ q := Int.pow_pos (by decide)
        have h2 : (0 : Int) < 10 ^ d := Int.pow_pos (by decide)
        have h3 : (10 : Int) ^ q * 1 ≤ 10 ^ q * 10 ^ d := Int.mul_le_mul_of_nonneg_left (by omega) (by omega)
        omega
      have HW := hid (wordOf_any (s'.extract 0 ((gk - 1) % 9 + 1)) wr (by rw [z1]; omega) hdg)
      rw [hnum] at HW
      obtain ⟨x, hx⟩ : ∃ x, x = numTo (s.data.toList.drop m) ((gk - 1) % 9 + 1) := ⟨_, rfl⟩
      rw [← hx] at HW hpc hbd
      have hx0 := hbd.1
      have hx1 : x ≤ 4294967295 := by have := hbd.2; omega
      have hbs := hb.size
      have HT := hid (timesPiece_any w.heap.size _ u3 ys x wr hop hwy (by omega) ⟨hx0, hx1⟩ hbs)
      have HPC := hid hpc
      have HL2 := hid hl2
      have HN' : Hid (m + ((gk - 1) % 9 + 1) = 0 ∨ (gk - ((gk - 1) % 9 + 1)) % 9 = 0) := by right; omega
      clear hop hx hl1 hl2 z1 hdg hnum hpc hbd hp9 HV HN HS
      go_wp2_with fail
      refine Calls.mono HW.out ?_
      rintro e w1 ⟨rfl, rfl⟩
      go_wp2_with fail
      refine Calls.mono HT.out ?_
      rintro e w2 ⟨v2, zs, rfl, ho2, hwz, hlz, hvz, hb2⟩
      have HO2 := hid ho2
      have HV2 : Hid (val zs = numTo s.data.toList (m + ((gk - 1) % 9 + 1))) := by show _ = _; rw [hvz]; exact HPC.out
      clear ho2 hvz HT HW HPC
      go_wp2_with fail
      go_roundg (gk - ((gk - 1) % 9 + 1))
      case measure => omega
      case rel => exact ⟨m + ((gk - 1) % 9 + 1), _, zs, rfl, by omega, z2, HL2, HO2.out, hwz, by omega, HV2, HN', hb.trans hb2⟩

set_option maxHeartbeats 800000 in
set_option maxRecDepth 100000 in
theorem told_own (base n : Nat) (v : Value) (ys : List Int) (w : World) (ho : w.ownsRow base 30 1 v n (ys.map (Value.int .u32))) (hw : Wd ys) (hN : n ≤ 1099511627776) :
    Calls Tryz.prog 63 #[v] w fun e w' => ∃ v zs code, e = .returned (.tuple #[v, .int .i64 code]) ∧ w.ownsRow base 30 1 v zs.length (zs.map (Value.int .u32)) ∧ Tells 0 (val ys) zs code ∧ w = w' := by
  have hlen : ys.length = n := by have := ho.1; simpa using this
  have sx := sz_le ys
  rw [hlen] at sx
  have HT := hid (Tells.told hw)
  rcases ho.2 with ⟨rfl, rfl⟩ | ⟨g, cap, cur, rfl, hrest⟩
  · have hy : ys = [] := List.eq_nil_of_length_eq_zero hlen
    subst hy
    rw [if_neg (by simp [sz, szTo]), if_neg (by simp [sz, szTo])] at HT
    have HZ := hid (size_any none 0 0 [] w.heap.size w (by obtain ⟨a, cap, hv, hr⟩ := Reads.own ho hw; simp only [Value.slice.injEq] at hv; obtain ⟨rfl, _, rfl⟩ := hv; exact hr) (by omega))
    clear ho
    go_enter Tryz.func63, Tryz.ntmps63
    go_wp2_with fail
    refine Calls.mono HZ.out ?_
    rintro e w' ⟨rfl, rfl⟩
    rw [show sz [] = 0 from rfl]
    go_wp2
    go_ret2
    exact ⟨_, [], _, rfl, World.ownsRow_nil _ _ _ _, HT.out, rfl⟩
  · have ho' : OwnC w base g n cap ys := ho
    have hcap := ho'.cap
    have hcp1 := hcap.1
    have hcp2 : cap ≤ 9223372036854775807 := by have := hcap.2; unfold maxLen at this; omega
    have hr : Reads w w.heap.size (some ⟨g, 0, none⟩) n cap ys := by
      obtain ⟨a, cap, hv, hr⟩ := Reads.own ho' hw
      simp only [Value.slice.injEq] at hv
      obtain ⟨rfl, _, rfl⟩ := hv
      exact hr
    by_cases hs : 8192 < sz ys
    · rw [if_pos hs, if_pos hs] at HT
      have hsi : (8192 : Int) < (sz ys : Int) := by omega
      clear hlen hrest hcap
      go_enter Tryz.func63, Tryz.ntmps63
      go_wp2_with fail
      refine (size_any _ _ _ ys _ _ hr (by omega)).mono ?_
      rintro e w' ⟨rfl, rfl⟩
      go_wp2
      go_ret2
      exact ⟨_, [], _, rfl, World.ownsRow_nil _ _ _ _, HT.out, rfl⟩
    · rw [if_neg hs, if_neg hs] at HT
      have hsi : (sz ys : Int) ≤ 8192 := by omega
      have HO := hid (owns_len (ho'.take (sz ys) sx))
      clear hlen hrest hcap
      go_enter Tryz.func63, Tryz.ntmps63
      go_wp2_with fail
      refine (size_any _ _ _ ys _ _ hr (by omega)).mono ?_
      rintro e w' ⟨rfl, rfl⟩
      go_wp2
      go_ret2
      exact ⟨_, _, _, rfl, HO.out, HT.out, rfl⟩

open Classical in
/-- Parse's error, of a text. -/
noncomputable def pErr (s : ByteArray) : Int := if 65536 < s.size then 3 else if IsNum s.data.toList then 0 else 110

open Classical in
set_option maxHeartbeats 1600000 in
set_option maxRecDepth 100000 in
theorem parse_any (s : ByteArray) (w : World) (hs : s.size ≤ maxLen) :
    Calls Tryz.prog 41 #[.string s] w (Told w (pErr s) (numTo s.data.toList s.size)) := by
  unfold maxLen at hs
  by_cases h1 : 65536 < s.size
  · have HE : Hid (pErr s = 3) := by show _ = _; unfold pErr; rw [if_pos h1]
    have HT := hid (Tells.err (t := numTo s.data.toList s.size) (e := 3) (by decide))
    rw [HE.out]
    go_enter Tryz.func41, Tryz.ntmps41
    go_wp2_with fail
    go_ret2
    exact ⟨_, [], _, rfl, World.ownsRow_nil _ _ _ _, HT.out, Below.refl _ _⟩
  · have h2 : s.size ≤ 65536 := by omega
    by_cases hnum : IsNum s.data.toList
    · have HE : Hid (pErr s = 0) := by show _ = _; unfold pErr; rw [if_neg h1, if_pos hnum]
      have HI := hid (isNumber_any s w h2)
      rw [decide_eq_true hnum] at HI
      have HJ := hid (join_any s w h2 hnum.2.2)
      rw [HE.out]
      clear h1 hnum
      go_enter Tryz.func41, Tryz.ntmps41
      go_wp2_with fail
      refine Calls.mono HI.out ?_
      rintro e w' ⟨rfl, rfl⟩
      go_wp2_with fail
      refine Calls.mono HJ.out ?_
      rintro e w1 ⟨v, zs, rfl, ho, hwz, hlz, hvz, hb⟩
      have HT := hid (told_own _ _ v zs w1 ho hwz (by omega))
      clear ho
      go_wp2_with fail
      refine Calls.mono HT.out ?_
      rintro e w2 ⟨v2, us, code, rfl, ho2, ht2, rfl⟩
      rw [hvz] at ht2
      have HO2 := hid ho2
      have HT2 := hid ht2
      clear ho2 ht2 hvz
      go_wp2
      go_ret2
      exact ⟨_, us, code, rfl, HO2.out, HT2.out, hb⟩
    · have HE : Hid (pErr s = 110) := by show _ = _; unfold pErr; rw [if_neg h1, if_neg hnum]
      have HI := hid (isNumber_any s w h2)
      rw [decide_eq_false hnum] at HI
      have HT := hid (Tells.err (t := numTo s.data.toList s.size) (e := 110) (by decide))
      rw [HE.out]
      clear h1 hnum
      go_enter Tryz.func41, Tryz.ntmps41
      go_wp2_with fail
      refine Calls.mono HI.out ?_
      rintro e w' ⟨rfl, rfl⟩
      go_wp2_with fail
      go_ret2
      exact ⟨_, [], _, rfl, World.ownsRow_nil _ _ _ _, HT.out, Below.refl _ _⟩
end Go.Proofs.YtmncfbjoplfikaaGreatDoor

/- What the laws' own example says. -/
namespace Go.Proofs.YtmncfbjoplfikaaGreatDoor
open Go.RowKit
set_option linter.unusedVariables false

theorem digits_ex : Lib.decDigits 4294967296 = [52, 50, 57, 52, 57, 54, 55, 50, 57, 54] := by simp [Lib.decDigits]

end Go.Proofs.YtmncfbjoplfikaaGreatDoor

/- The law NatBack answers true, and writes nothing that was there: whatever list and text come in, where the library's table of powers of ten stands as its text lays it. -/
namespace Go.Proofs.YtmncfbjoplfikaaGreatDoor
open Go.RowKit Go.Lib
set_option linter.unusedVariables false

theorem numTo_snoc (l : List UInt8) (c : UInt8) : numTo (l ++ [c]) (l.length + 1) = numTo l l.length * 10 + ((c.toNat : Int) - 48) := by
  show numTo (l ++ [c]) l.length * 10 + _ = _
  rw [numTo_congr (l ++ [c]) l l.length (fun j hj => by rw [List.getElem?_append_left hj])]
  simp
theorem toNat_digit (d : Nat) (h : d < 10) : (UInt8.ofNat (48 + d)).toNat = 48 + d := by
  rw [UInt8.toNat_ofNat']; omega
theorem Dg.snoc {l : List UInt8} (h : Dg l) {c : UInt8} (hc : 48 ≤ (c.toNat : Int) ∧ (c.toNat : Int) ≤ 57) : Dg (l ++ [c]) := fun x hx => by
  rcases List.mem_append.1 hx with hx | hx
  · exact h x hx
  · simp at hx; rw [hx]; exact hc
theorem isNum_dec : ∀ n : Nat, IsNum (decDigits n) ∧ numTo (decDigits n) (decDigits n).length = n ∧ (0 < n → ¬ (decDigits n)[0]?.getD 0 = 48)
  | n => by
    by_cases h : n < 10
    · rw [decDigits_one h]
      have e := toNat_digit n h
      refine ⟨⟨by simp, fun _ => by simp, fun c hc => ?_⟩, ?_, fun h0 => ?_⟩
      · rw [List.mem_singleton.1 hc, e]; omega
      · show (0 : Int) * 10 + (((UInt8.ofNat (48 + n)).toNat : Int) - 48) = n
        rw [e]; omega
      · intro e2
        have e2 : UInt8.ofNat (48 + n) = 48 := e2
        rw [e2] at e
        have : (48 : UInt8).toNat = 48 := rfl
        omega
    · obtain ⟨⟨h1, h2, h3⟩, h4, h5⟩ := isNum_dec (n / 10)
      have e := toNat_digit (n % 10) (by omega)
      rw [decDigits, dif_neg h]
      have h6 := h5 (by omega)
      have hz : (decDigits (n / 10) ++ [UInt8.ofNat (48 + n % 10)])[0]?.getD 0 = (decDigits (n / 10))[0]?.getD 0 := by rw [List.getElem?_append_left h1]
      refine ⟨⟨by simp, fun e2 => ?_, h3.snoc (by rw [e]; omega)⟩, ?_, fun _ => by rw [hz]; exact h6⟩
      · rw [hz] at e2; exact absurd e2 h6
      · rw [List.length_append, List.length_singleton, numTo_snoc, h4, e]; omega
theorem num_pos (l : List UInt8) (hd : Dg l) (h0 : ¬ l[0]?.getD 0 = 48) (hp : 0 < l.length) : ∀ k, 1 ≤ numTo l (k + 1)
  | 0 => by
    show 1 ≤ (0 : Int) * 10 + (((l[0]?.getD 48).toNat : Int) - 48)
    rw [List.getElem?_eq_getElem hp] at h0 ⊢
    have h1 := hd _ (List.getElem_mem hp)
    have h2 : ¬ (l[0].toNat : Int) = 48 := fun e => h0 (UInt8.toNat_inj.1 (by show l[0].toNat = 48; omega))
    simp only [Option.getD_some]
    omega
  | k + 1 => by
    have ih := num_pos l hd h0 hp k
    have hb := numTo_bounds hd (k + 1)
    show 1 ≤ numTo l (k + 1) * 10 + (((l[k + 1]?.getD 48).toNat : Int) - 48)
    have hc : 48 ≤ ((l[k + 1]?.getD 48).toNat : Int) := by
      by_cases hk : k + 1 < l.length
      · rw [List.getElem?_eq_getElem hk]; exact (hd _ (List.getElem_mem hk)).1
      · rw [List.getElem?_eq_none (by omega)]; decide
    omega
theorem dec_num : ∀ (k : Nat) (l : List UInt8), l.length = k + 1 → IsNum l → decDigits (numTo l l.length).toNat = l
  | 0, l, hl, h => by
    obtain ⟨c, rfl⟩ := List.length_eq_one_iff.1 hl
    have hc := h.2.2 c (by simp)
    have e : numTo [c] [c].length = (c.toNat : Int) - 48 := by simp [numTo]
    rw [e, decDigits_one (by omega)]
    congr 1
    refine UInt8.toNat_inj.1 ?_
    rw [toNat_digit _ (by omega)]; omega
  | k + 1, l, hl, h => by
    have hne : l ≠ [] := fun e => by rw [e] at hl; simp at hl
    obtain ⟨l', c, rfl⟩ : ∃ l' c, l = l' ++ [c] := ⟨l.dropLast, l.getLast hne, (List.dropLast_concat_getLast hne).symm⟩
    have hl' : l'.length = k + 1 := by simp at hl; exact hl
    have hd' : Dg l' := fun x hx => h.2.2 x (List.mem_append_left _ hx)
    have hc := h.2.2 c (by simp)
    have h0 : ¬ l'[0]?.getD 0 = 48 := fun e => by
      have := h.2.1 (by rw [List.getElem?_append_left (by omega)]; exact e)
      omega
    have hn : IsNum l' := ⟨by omega, fun e => absurd e h0, hd'⟩
    have ih := dec_num k l' hl' hn
    have hp := num_pos l' hd' h0 (by omega) k
    rw [← hl'] at hp
    rw [List.length_append, List.length_singleton, numTo_snoc]
    obtain ⟨q, hq⟩ : ∃ q : Nat, numTo l' l'.length = q := ⟨(numTo l' l'.length).toNat, by omega⟩
    rw [hq] at ih hp ⊢
    rw [decDigits, dif_neg (by omega)]
    have e1 : ((q : Int) * 10 + ((c.toNat : Int) - 48)).toNat / 10 = q := by omega
    have e2 : ((q : Int) * 10 + ((c.toNat : Int) - 48)).toNat % 10 = c.toNat - 48 := by omega
    rw [e1, e2]
    have ih : decDigits q = l' := ih
    rw [ih]
    congr 2
    refine UInt8.toNat_inj.1 ?_
    rw [toNat_digit _ (by omega)]; omega
theorem nDigits_le : ∀ (k n : Nat), n < 10 ^ (k + 1) → nDigits n ≤ k + 1
  | k, n, h => (pad_eq k n h).2
theorem digits_few {x : Int} {L : Nat} (h0 : 0 ≤ x) (h : x < 4294967296 ^ L) : nDigits x.toNat ≤ 10 * L + 1 := by
  refine nDigits_le _ _ ?_
  have h1 : (4294967296 : Int) ^ L ≤ 10 ^ (10 * L) := by
    have e : (4294967296 : Nat) ^ L ≤ (10 ^ 10) ^ L := Nat.pow_le_pow_left (by decide) _
    rw [← Nat.pow_mul] at e
    have := Int.ofNat_le.2 e
    rw [Int.natCast_pow, Int.natCast_pow] at this
    exact this
  have h2 : x < 10 ^ (10 * L) := by omega
  have h3 : (x.toNat : Int) < ((10 ^ (10 * L) : Nat) : Int) := by rw [Int.natCast_pow]; rw [Int.toNat_of_nonneg h0]; exact h2
  have h4 := Int.ofNat_lt.1 h3
  have h5 : (10 : Nat) ^ (10 * L) ≤ 10 ^ (10 * L + 1) := Nat.pow_le_pow_right (by decide) (by omega)
  omega

open Classical in
/-- Whether the first k signs are digits, the text not being empty, and without a nought ahead. -/
noncomputable def rightTo (l : List UInt8) (k : Nat) : Bool := decide (0 < l.length ∧ (l[0]?.getD 0 = 48 → l.length ≤ 1) ∧ ∀ j : Nat, j < k → 48 ≤ ((l[j]?.getD 0).toNat : Int) ∧ ((l[j]?.getD 0).toNat : Int) ≤ 57)
open Classical in
theorem rightTo_all (l : List UInt8) : rightTo l l.length = decide (IsNum l) := by
  unfold rightTo
  by_cases h : IsNum l
  · rw [decide_eq_true h]
    refine decide_eq_true ⟨h.1, h.2.1, fun j hj => ?_⟩
    rw [List.getElem?_eq_getElem hj]; exact h.2.2 _ (List.getElem_mem hj)
  · rw [decide_eq_false h]
    refine decide_eq_false (fun g => h ⟨g.1, g.2.1, fun c hc => ?_⟩)
    obtain ⟨j, hj, e⟩ := mem_at hc
    have := g.2.2 j hj
    rw [e] at this
    exact this
theorem rightTo_no {l : List UInt8} {k : Nat} (h : rightTo l k = false) : rightTo l (k + 1) = false := by
  unfold rightTo at h ⊢
  have := of_decide_eq_false h
  exact decide_eq_false (fun g => this ⟨g.1, g.2.1, fun j hj => g.2.2 j (by omega)⟩)
theorem rightTo_bad {l : List UInt8} {k : Nat} {c : UInt8} (h : l[k]? = some c) (hc : ¬ (48 ≤ (c.toNat : Int) ∧ (c.toNat : Int) ≤ 57)) : rightTo l (k + 1) = false := by
  unfold rightTo
  refine decide_eq_false (fun g => hc ?_)
  have := g.2.2 k (by omega)
  rw [h] at this
  exact this
theorem rightTo_good {l : List UInt8} {k : Nat} {c : UInt8} (hr : rightTo l k = true) (h : l[k]? = some c) (hc : 48 ≤ (c.toNat : Int) ∧ (c.toNat : Int) ≤ 57) : rightTo l (k + 1) = true := by
  unfold rightTo at hr ⊢
  have g := of_decide_eq_true hr
  refine decide_eq_true ⟨g.1, g.2.1, fun j hj => ?_⟩
  by_cases e : j = k
  · rw [e, h]; exact hc
  · exact g.2.2 j (by omega)
end Go.Proofs.YtmncfbjoplfikaaGreatDoor

/- Whole numbers as texts: whole.Print, strings.CutPrefix by a minus, whole.Parse. -/
namespace Go.Proofs.YtmncfbjoplfikaaGreatDoor
open Go.RowKit Go.Lib
set_option linter.unusedVariables false

theorem wdec_len : ∀ (k n : Nat), n < 10 ^ (k + 1) → (decDigits n).length ≤ k + 1
  | 0, n, h => by rw [decDigits_one (by simpa using h)]; simp
  | k + 1, n, h => by
    by_cases c : n < 10
    · rw [decDigits_one c]; simp
    · have ih := wdec_len k (n / 10) (by rw [Nat.pow_succ] at h; omega)
      rw [decDigits, dif_neg c, List.length_append, List.length_singleton]
      omega
theorem ten_pow (m : Nat) : (4294967296 : Int) ^ m ≤ 10 ^ (10 * m) := by
  induction m with
  | zero => simp
  | succ m ih =>
    rw [pw_succ, show 10 * (m + 1) = 10 * m + 10 by omega, Int.pow_add]
    have p := pw_pos m
    have e : (10 : Int) ^ 10 = 10000000000 := by decide
    rw [e]
    omega
theorem dec_short' {xs : List Int} (hw : Wd xs) (m : Nat) (hl : xs.length ≤ m) : (decDigits (val xs).toNat).length ≤ 10 * m + 1 := by
  have h1 := val_lt hw
  have h2 : (4294967296 : Int) ^ xs.length ≤ 4294967296 ^ m := pw_le hl
  have h3 := ten_pow m
  have h0 := val_nonneg hw
  have h4 : val xs < 10 ^ (10 * m) := Int.lt_of_lt_of_le h1 (Int.le_trans h2 h3)
  have h6 : (10 : Int) ^ (10 * m + 1) = 10 ^ (10 * m) * 10 := Int.pow_succ _ _
  have h7 : (0 : Int) < 10 ^ (10 * m) := Int.pow_pos (by decide)
  have h5 : (((val xs).toNat : Nat) : Int) < ((10 ^ (10 * m + 1) : Nat) : Int) := by
    rw [Int.toNat_of_nonneg h0, Int.natCast_pow]
    show _ < (10 : Int) ^ (10 * m + 1)
    rw [h6]; omega
  exact wdec_len (10 * m) _ (Int.ofNat_lt.1 h5)
theorem dec_short {xs : List Int} (hw : Wd xs) (hl : xs.length ≤ 2048) : (decDigits (val xs).toNat).length ≤ 20481 := by
  have := dec_short' hw 2048 hl
  omega
theorem ten_le (k : Nat) : (10 : Int) ^ k ≤ 4294967296 ^ k := by
  induction k with
  | zero => simp
  | succ k ih =>
    rw [Int.pow_succ, pw_succ]
    have p := pw_pos k
    omega

/-- The text of a whole number. -/
def wtext (n : Bool) (xs : List Int) : List UInt8 := (if n then [45] else []) ++ decDigits (val xs).toNat

set_option maxHeartbeats 1600000 in
set_option maxRecDepth 100000 in
theorem wprint_any (n : Bool) (v : Value) (xs : List Int) (w : World) (h : Sl w v xs) (hx : wchk n xs = 0) (htab : Tab w) :
    Calls Tryz.prog 36 #[.agg #[.bool n, v]] w fun e w' => ∃ T : ByteArray, e = .returned (.tuple #[.string T, .int .i64 0]) ∧ T.data.toList = wtext n xs ∧ Below w.heap.size w w' := by
  obtain ⟨lx, tx, _⟩ := wchk_ok hx
  have wx := h.wd
  have HB := hid (alloc_later w (.cells #[.bool n, v] 41))
  have HX := hid (Box.made w 41 #[.bool n, v])
  have HC := hid (wcheck_any n v xs _ (h.later HB.out) (by omega))
  rw [hx] at HC
  have HP := hid (fun w1 (hb : Below (w.alloc (.cells #[.bool n, v] 41)).heap.size (w.alloc (.cells #[.bool n, v] 41)) w1) => print_any v xs w1 ((h.later HB.out).later hb) (by omega) (htab.later (bt HB.out hb)))
  rw [chk_good (by omega) tx, if_pos rfl] at HP
  obtain ⟨D, hD⟩ : ∃ D : ByteArray, D = ⟨(decDigits (val xs).toNat).toArray⟩ := ⟨_, rfl⟩
  have hds : D.size ≤ 20481 := by
    have e : D.size = (decDigits (val xs).toNat).length := by rw [hD]; exact (size_list _).symm
    rw [e]; exact dec_short wx lx
  have HDL : Hid (D.data.toList = decDigits (val xs).toNat) := by rw [hD]; rfl
  rw [← hD] at HP
  obtain ⟨a, cap, rfl, hr⟩ := h
  clear hr hD hx
  cases n with
  | false =>
    go_enter Tryz.func36, Tryz.ntmps36
    go_wp2_with fail
    refine Calls.mono HC.out ?_
    rintro e w1 ⟨rfl, hb1⟩
    obtain ⟨p0, p1, _, _⟩ := res_box HX.out hb1
    have HP1 := hid (HP.out w1 hb1)
    have HB1 := hid hb1
    clear hb1 HP
    go_wp2_with fail
    refine Calls.mono HP1.out ?_
    rintro e w2 ⟨rfl, hb2⟩
    obtain ⟨q0, q1, _, _⟩ := res_box HX.out (bt HB1.out hb2)
    have hbF := bt HB.out (bt HB1.out hb2)
    clear hb2 p0 p1
    go_wp2_with fail
    go_ret2
    exact ⟨D, rfl, HDL.out, hbF⟩
  | true =>
    go_enter Tryz.func36, Tryz.ntmps36
    go_wp2_with fail
    refine Calls.mono HC.out ?_
    rintro e w1 ⟨rfl, hb1⟩
    obtain ⟨p0, p1, _, _⟩ := res_box HX.out hb1
    have HP1 := hid (HP.out w1 hb1)
    have HB1 := hid hb1
    clear hb1 HP
    go_wp2_with fail
    refine Calls.mono HP1.out ?_
    rintro e w2 ⟨rfl, hb2⟩
    obtain ⟨q0, q1, _, _⟩ := res_box HX.out (bt HB1.out hb2)
    have hbF := bt HB.out (bt HB1.out hb2)
    clear hb2 p0 p1
    go_wp2_with fail
    go_ret2
    refine ⟨_, rfl, ?_, hbF⟩
    show _ = 45 :: decDigits (val xs).toNat
    rw [← HDL.out]
    simp

theorem cut_minus (s : ByteArray) (w : World) (hs : s.size ≤ 65536) :
    Calls Tryz.prog 60 #[.string s, .string ⟨#[45]⟩] w fun e w' => ∃ (T : ByteArray) (b : Bool), e = .returned (.tuple #[.string T, .bool b]) ∧ b = decide (s.data.toList[0]? = some 45) ∧ T.data.toList = (if b then s.data.toList.drop 1 else s.data.toList) ∧ w = w' := by
  have HH := hid (Tryz.stringslite_HasPrefix s ⟨#[45]⟩ w)
  have e0 : Lib.hasPrefix s.data.toList (⟨#[45]⟩ : ByteArray).data.toList = decide (s.data.toList[0]? = some 45) := by
    cases hl : s.data.toList with
    | nil => simp [Lib.hasPrefix]
    | cons c l =>
      by_cases hc : c = 45
      · subst hc; simp [Lib.hasPrefix, List.isPrefixOf]
      · have hc' : ¬ (45 : UInt8) = c := fun e => hc e.symm
        simp [Lib.hasPrefix, List.isPrefixOf, hc, hc']
  rw [e0] at HH
  by_cases c : s.data.toList[0]? = some 45
  · have hd : decide (s.data.toList[0]? = some 45) = true := decide_eq_true c
    rw [hd] at HH ⊢
    have h1 : 1 ≤ s.size := by
      rw [← size_list]
      by_cases z : s.data.toList.length = 0
      · rw [List.getElem?_eq_none (by omega)] at c; cases c
      · omega
    have HX := hid (extract_list s 1 s.size)
    clear c hd e0
    go_enter Tryz.func60, Tryz.ntmps60
    go_wp2_with fail
    refine Calls.mono HH.out ?_
    rintro e w' ⟨rfl, rfl⟩
    go_wp2_with fail
    go_ret2
    refine ⟨_, true, rfl, rfl, ?_, rfl⟩
    rw [if_pos rfl, HX.out, List.take_of_length_le (by rw [List.length_drop, size_list]; omega)]
  · have hd : decide (s.data.toList[0]? = some 45) = false := decide_eq_false c
    rw [hd] at HH ⊢
    clear c hd e0
    go_enter Tryz.func60, Tryz.ntmps60
    go_wp2_with fail
    refine Calls.mono HH.out ?_
    rintro e w' ⟨rfl, rfl⟩
    go_wp2_with fail
    go_ret2
    exact ⟨s, false, rfl, rfl, rfl, rfl⟩

theorem cutPrefix_minus (s : ByteArray) (w : World) (hs : s.size ≤ 65536) :
    Calls Tryz.prog 39 #[.string s, .string ⟨#[45]⟩] w fun e w' => ∃ (T : ByteArray) (b : Bool), e = .returned (.tuple #[.string T, .bool b]) ∧ b = decide (s.data.toList[0]? = some 45) ∧ T.data.toList = (if b then s.data.toList.drop 1 else s.data.toList) ∧ w = w' := by
  have HH := hid (cut_minus s w hs)
  go_enter Tryz.func39, Tryz.ntmps39
  go_wp2_with fail
  refine Calls.mono HH.out ?_
  rintro e w' ⟨T, b, rfl, h1, h2, rfl⟩
  have HR := hid (And.intro h1 h2)
  clear h1 h2
  go_wp2_with fail
  go_ret2
  exact ⟨T, b, rfl, HR.out.1, HR.out.2, rfl⟩
/-- What stands behind a minus. -/
def wdig (b : Bool) (l : List UInt8) : List UInt8 := if b then l.drop 1 else l
def wneg (s : ByteArray) : Bool := decide (s.data.toList[0]? = some 45)
def wnum (s : ByteArray) : Int := numTo (wdig (wneg s) s.data.toList) (wdig (wneg s) s.data.toList).length
open Classical in
/-- Parse's error, of a text. -/
noncomputable def wpErr (s : ByteArray) : Int := if 65536 < s.size then 3 else if IsNum (wdig (wneg s) s.data.toList) ∧ (wneg s = false ∨ 0 < wnum s) then 0 else 120
theorem pErr_ok (s : ByteArray) (hs : s.size ≤ 65536) (h : IsNum s.data.toList) : pErr s = 0 := by unfold pErr; rw [if_neg (by omega), if_pos h]
theorem pErr_not (s : ByteArray) (hs : s.size ≤ 65536) (h : ¬ IsNum s.data.toList) : pErr s = 110 := by unfold pErr; rw [if_neg (by omega), if_neg h]

set_option maxHeartbeats 800000 in
set_option maxRecDepth 100000 in
theorem wprint_err (n : Bool) (v : Value) (xs : List Int) (w : World) (h : Sl w v xs) (hl : xs.length ≤ 281474976710656) (hx : wchk n xs ≠ 0) :
    Calls Tryz.prog 36 #[.agg #[.bool n, v]] w fun e w' => e = .returned (.tuple #[.string ⟨#[]⟩, .int .i64 (wchk n xs)]) ∧ Below w.heap.size w w' := by
  have HB := hid (alloc_later w (.cells #[.bool n, v] 41))
  have HC := hid (wcheck_any n v xs _ (h.later HB.out) (by omega))
  have hne : (wchk n xs != 0) = true := by simp [hx]
  obtain ⟨c, hc⟩ : ∃ c, wchk n xs = c := ⟨_, rfl⟩
  rw [hc] at HC hne ⊢
  obtain ⟨a, cap, rfl, hr⟩ := h
  clear hr hc hx
  go_enter Tryz.func36, Tryz.ntmps36
  go_wp2_with fail
  refine Calls.mono HC.out ?_
  rintro e w1 ⟨rfl, hb1⟩
  have hbF := bt HB.out hb1
  clear hb1
  go_wp2_with fail
  go_ret2
  exact ⟨rfl, hbF⟩

theorem digit_first {l : List UInt8} (h : IsNum l) : ¬ l[0]? = some 45 := fun e => by
  have h1 := h.2.2 45 (List.mem_of_getElem? e)
  have h2 : ((45 : UInt8).toNat : Int) = 45 := rfl
  omega
/-- A whole number's text is read as it. -/
theorem text_parse {n : Bool} {xs : List Int} (wx : Wd xs) (hx : wchk n xs = 0) (T : ByteArray) (hT : T.data.toList = wtext n xs) : T.size ≤ 65536 ∧ wpErr T = 0 ∧ sg (wneg T) (wnum T) = wval n xs := by
  obtain ⟨lx, tx, sx⟩ := wchk_ok hx
  obtain ⟨d1, d2, _⟩ := isNum_dec (val xs).toNat
  have d3 := dec_short wx lx
  have v0 := val_nonneg wx
  have hneg : wneg T = n := by
    unfold wneg
    rw [hT]
    unfold wtext
    cases n with
    | false => exact decide_eq_false (digit_first d1)
    | true => rfl
  have hdig : wdig n T.data.toList = decDigits (val xs).toNat := by
    rw [hT]; unfold wdig wtext
    cases n <;> rfl
  have hnum : wnum T = val xs := by
    unfold wnum
    rw [hneg, hdig, d2]
    omega
  have hsz : T.size ≤ 65536 := by
    rw [← size_list, hT]
    unfold wtext
    rw [List.length_append]
    have : (if n = true then [(45 : UInt8)] else []).length ≤ 1 := by cases n <;> simp
    omega
  refine ⟨hsz, ?_, ?_⟩
  · unfold wpErr
    have hcond : IsNum (wdig (wneg T) T.data.toList) ∧ (wneg T = false ∨ 0 < wnum T) := ⟨by rw [hneg, hdig]; exact d1, by
      rcases sx with e | e
      · left; rw [hneg]; exact e
      · right; rw [hnum]; have := val_pos' wx tx e; omega⟩
    rw [if_neg (by omega), if_pos hcond]
  · rw [hneg, hnum]; rfl
/-- Unlike numbers have unlike texts. -/
theorem text_inj {n m : Bool} {xs ys : List Int} (wx : Wd xs) (wy : Wd ys) (hx : wchk n xs = 0) (hy : wchk m ys = 0) (T U : ByteArray) (hT : T.data.toList = wtext n xs) (hU : U.data.toList = wtext m ys) : T = U ↔ (n = m ∧ xs = ys) := by
  constructor
  · intro e
    have a1 := (text_parse wx hx T hT).2.2
    have a2 := (text_parse wy hy U hU).2.2
    rw [e, a2] at a1
    obtain ⟨_, tx, sx⟩ := wchk_ok hx
    obtain ⟨_, ty, sy⟩ := wchk_ok hy
    exact wsame' wx wy tx ty sx sy a1.symm
  · rintro ⟨rfl, rfl⟩
    have e : T.data.toList = U.data.toList := hT.trans hU.symm
    exact ByteArray.ext (Array.toList_inj.1 e)
/-- What a text is read as has that text. -/
theorem parse_text (s : ByteArray) (he : wpErr s = 0) {n : Bool} {zs : List Int} (wz : Wd zs) (hz : wchk n zs = 0) (hv : wval n zs = sg (wneg s) (wnum s)) : wtext n zs = s.data.toList := by
  unfold wpErr at he
  by_cases h1 : 65536 < s.size
  · rw [if_pos h1] at he; omega
  · rw [if_neg h1] at he
    by_cases h2 : IsNum (wdig (wneg s) s.data.toList) ∧ (wneg s = false ∨ 0 < wnum s)
    · obtain ⟨hN, hs⟩ := h2
      have h0 : 0 ≤ wnum s := (numTo_bounds hN.2.2 _).1
      obtain ⟨_, tz, sz'⟩ := wchk_ok hz
      have v0 := val_nonneg wz
      have hp := val_pos' wz tz
      obtain ⟨hn, hval⟩ : n = wneg s ∧ val zs = wnum s := by
        generalize wneg s = b at *
        cases n <;> cases b <;> simp [wval, sg] at hv hs sz' ⊢
        · exact hv
        · omega
        · have := hp (by omega); omega
        · exact hv
      have hd : decDigits (wnum s).toNat = wdig (wneg s) s.data.toList := by
        obtain ⟨k, hk⟩ : ∃ k, (wdig (wneg s) s.data.toList).length = k + 1 := ⟨_, (Nat.succ_pred_eq_of_pos hN.1).symm⟩
        exact dec_num k _ hk hN
      unfold wtext
      rw [hval, hd, hn]
      unfold wdig
      cases hw : wneg s with
      | false => rfl
      | true =>
        have hc : s.data.toList[0]? = some 45 := of_decide_eq_true hw
        cases hl : s.data.toList with
        | nil => rw [hl] at hc; cases hc
        | cons c l => rw [hl] at hc; simp at hc; simp [hc]
    · rw [if_neg h2] at he; omega
theorem num_small (s : ByteArray) (hs : s.size ≤ 400) (he : wpErr s = 0) : -wlim < sg (wneg s) (wnum s) ∧ sg (wneg s) (wnum s) < wlim := by
  unfold wpErr at he
  rw [if_neg (by omega)] at he
  by_cases h2 : IsNum (wdig (wneg s) s.data.toList) ∧ (wneg s = false ∨ 0 < wnum s)
  · have hb := numTo_bounds h2.1.2.2 (wdig (wneg s) s.data.toList).length
    have hl : (wdig (wneg s) s.data.toList).length ≤ 400 := by
      have := size_list s
      unfold wdig
      split
      · rw [List.length_drop]; omega
      · omega
    have e1 : (10 : Int) ^ (wdig (wneg s) s.data.toList).length ≤ 4294967296 ^ (wdig (wneg s) s.data.toList).length := ten_le _
    have e2 : (4294967296 : Int) ^ (wdig (wneg s) s.data.toList).length ≤ wlim := by unfold wlim; exact pw_le (by omega)
    have e3 : wnum s < wlim := Int.lt_of_lt_of_le hb.2 (Int.le_trans e1 e2)
    have e4 : 0 ≤ wnum s := hb.1
    have e5 := wlim_pos
    cases wneg s <;> simp [sg] <;> omega
  · rw [if_neg h2] at he; omega
end Go.Proofs.YtmncfbjoplfikaaGreatDoor

/- Fractions: ratio.Print: of any fraction, good or refused. -/
namespace Go.Proofs.YtmncfbjoplfikaaGreatDoor
open Go.RowKit Go.Lib
set_option linter.unusedVariables false

/-- A fraction's text. -/
def rtext (n : Bool) (xs ys : List Int) : List UInt8 := if ys = [1] then wtext n xs else wtext n xs ++ 47 :: decDigits (val ys).toNat

set_option maxHeartbeats 1600000 in
set_option maxRecDepth 100000 in
theorem rPrint_err (n : Bool) (a : Option Addr) (ca : Nat) (xs : List Int) (b : Option Addr) (cb : Nat) (ys : List Int) (w : World) (sx : Sl w (.slice a xs.length ca) xs) (sy : Sl w (.slice b ys.length cb) ys) (he : rchk n xs ys ≠ 0) :
    Calls Tryz.prog 21 #[.agg #[.bool n, .slice a xs.length ca, .slice b ys.length cb]] w fun e w' => e = .returned (.tuple #[.string ⟨#[]⟩, .int .i64 (rchk n xs ys)]) ∧ Below w.heap.size w w' := by
  have HB := hid (alloc_later w (.cells #[.bool n, .slice a xs.length ca, .slice b ys.length cb] 24))
  have HC := hid (rcheck_any n _ xs _ ys (w.alloc (.cells #[.bool n, .slice a xs.length ca, .slice b ys.length cb] 24)) (sx.later HB.out) (sy.later HB.out))
  obtain ⟨E, hE⟩ : ∃ E, rchk n xs ys = E := ⟨_, rfl⟩
  rw [hE] at HC he ⊢
  have he' : (E == 0) = false := beq_eq_false_iff_ne.2 he
  clear he hE sx sy
  go_enter Tryz.func21, Tryz.ntmps21
  go_wp2_with fail
  refine Calls.mono HC.out ?_
  rintro e w1 ⟨rfl, hb1⟩
  have HBN := hid (bt HB.out hb1)
  clear hb1 HC
  go_wp2_with fail
  go_ret2
  exact ⟨rfl, HBN.out⟩

set_option maxHeartbeats 3200000 in
set_option maxRecDepth 100000 in
theorem rPrint_ok (n : Bool) (a : Option Addr) (ca : Nat) (xs : List Int) (b : Option Addr) (cb : Nat) (ys : List Int) (w : World) (sx : Sl w (.slice a xs.length ca) xs) (sy : Sl w (.slice b ys.length cb) ys) (hx : rchk n xs ys = 0) (htab : Tab w) :
    Calls Tryz.prog 21 #[.agg #[.bool n, .slice a xs.length ca, .slice b ys.length cb]] w fun e w' => ∃ T : ByteArray, e = .returned (.tuple #[.string T, .int .i64 0]) ∧ T.data.toList = rtext n xs ys ∧ Below w.heap.size w w' := by
  obtain ⟨lx, ly, tx, ty, y0', nx, g1⟩ := rchk_ok hx
  have wx := sx.wd
  have wy := sy.wd
  have HB := hid (alloc_later w (.cells #[.bool n, .slice a xs.length ca, .slice b ys.length cb] 24))
  have HN := hid (Box.made w 24 #[.bool n, .slice a xs.length ca, .slice b ys.length cb])
  have HS := hid (And.intro (sx.later HB.out) (sy.later HB.out))
  have HC := hid (rcheck_any n _ xs _ ys (w.alloc (.cells #[.bool n, .slice a xs.length ca, .slice b ys.length cb] 24)) HS.out.1 HS.out.2)
  rw [hx] at HC
  have HW := hid (fun ww (hb : Below (w.alloc (.cells #[.bool n, .slice a xs.length ca, .slice b ys.length cb] 24)).heap.size (w.alloc (.cells #[.bool n, .slice a xs.length ca, .slice b ys.length cb] 24)) ww) => wprint_any n _ xs ww (HS.out.1.later hb) (wchk_good lx tx nx) (htab.later (bt HB.out hb)))
  have HO := hid (fun ww (hb : Below (w.alloc (.cells #[.bool n, .slice a xs.length ca, .slice b ys.length cb] 24)).heap.size (w.alloc (.cells #[.bool n, .slice a xs.length ca, .slice b ys.length cb] 24)) ww) => isOne_any _ ys ww (HS.out.2.later hb))
  have HD := hid (fun ww (hb : Below (w.alloc (.cells #[.bool n, .slice a xs.length ca, .slice b ys.length cb] 24)).heap.size (w.alloc (.cells #[.bool n, .slice a xs.length ca, .slice b ys.length cb] 24)) ww) => print_any _ ys ww (HS.out.2.later hb) (by omega) (htab.later (bt HB.out hb)))
  rw [chk_good (by omega) ty, if_pos rfl] at HD
  have hd1 := dec_short wx lx
  have hd2 := dec_short wy ly
  obtain ⟨D, hD⟩ : ∃ D : ByteArray, D = ⟨(decDigits (val ys).toNat).toArray⟩ := ⟨_, rfl⟩
  rw [← hD] at HD
  have HDL : Hid (D.data.toList = decDigits (val ys).toNat) := by show _ = _; rw [hD]
  have hDs : D.size ≤ 20481 := by rw [hD]; show (decDigits (val ys).toNat).toArray.size ≤ _; rw [List.size_toArray]; exact hd2
  have HL1 : Hid ((wtext n xs).length ≤ 20482) := by
    show _ ≤ _
    unfold wtext
    rw [List.length_append]
    have : (if n then [45] else [] : List UInt8).length ≤ 1 := by cases n <;> simp
    omega
  clear sx sy hx tx ty g1 htab wx wy hD hd1 hd2 nx y0'
  by_cases h1 : ys = [1]
  · rw [decide_eq_true h1] at HO
    have HR : Hid (rtext n xs ys = wtext n xs) := by show _ = _; unfold rtext; rw [if_pos h1]
    rw [HR.out]
    clear h1
    go_enter Tryz.func21, Tryz.ntmps21
    go_wp2_with fail
    refine Calls.mono HC.out ?_
    generalize (w.alloc (.cells #[.bool n, .slice a xs.length ca, .slice b ys.length cb] 24)) = X at *
    rintro e w1 ⟨rfl, hb1⟩
    obtain ⟨p0, p1, p2, _⟩ := res_box3 HN.out hb1
    have HW1 := hid (HW.out w1 hb1)
    have HB1 := hid hb1
    clear hb1 HC HW HD
    go_wp2_with fail
    refine Calls.mono HW1.out ?_
    rintro e w2 ⟨T, rfl, hT, hb2⟩
    have HT := hid hT
    have HB2 := hid (bt HB1.out hb2)
    have HO2 := hid (HO.out w2 HB2.out)
    clear hT hb2 HW1 HO p0 p1 p2
    obtain ⟨p0, p1, p2, _⟩ := res_box3 HN.out HB2.out
    go_wp2_with fail
    refine Calls.mono HO2.out ?_
    rintro e w3 ⟨rfl, rfl⟩
    go_wp2_with fail
    go_ret2
    exact ⟨T, rfl, HT.out, bt HB.out HB2.out⟩
  · rw [decide_eq_false h1] at HO
    have HR : Hid (rtext n xs ys = wtext n xs ++ 47 :: decDigits (val ys).toNat) := by show _ = _; unfold rtext; rw [if_neg h1]
    rw [HR.out]
    clear h1
    go_enter Tryz.func21, Tryz.ntmps21
    go_wp2_with fail
    refine Calls.mono HC.out ?_
    generalize (w.alloc (.cells #[.bool n, .slice a xs.length ca, .slice b ys.length cb] 24)) = X at *
    rintro e w1 ⟨rfl, hb1⟩
    obtain ⟨p0, p1, p2, _⟩ := res_box3 HN.out hb1
    have HW1 := hid (HW.out w1 hb1)
    have HB1 := hid hb1
    clear hb1 HC HW
    go_wp2_with fail
    refine Calls.mono HW1.out ?_
    rintro e w2 ⟨T, rfl, hT, hb2⟩
    have HT := hid hT
    have hTs : T.size ≤ 20482 := by
      have e1 : T.data.toList.length = T.size := Array.length_toList
      rw [← e1, hT]
      exact HL1.out
    have HB2 := hid (bt HB1.out hb2)
    have HO2 := hid (HO.out w2 HB2.out)
    have HD2 := hid (HD.out w2 HB2.out)
    clear hT hb2 HW1 HO HD p0 p1 p2
    obtain ⟨p0, p1, p2, _⟩ := res_box3 HN.out HB2.out
    go_wp2_with fail
    refine Calls.mono HO2.out ?_
    rintro e w3 ⟨rfl, rfl⟩
    go_wp2_with fail
    refine Calls.mono HD2.out ?_
    rintro e w4 ⟨rfl, hb4⟩
    have HBN := hid (bt HB.out (bt HB2.out hb4))
    have hg1 : ¬ (9223372036854775807 : Int) < (T.size : Int) + 1 := by omega
    have hg2 : ¬ (9223372036854775807 : Int) < (T.size : Int) + 1 + (D.size : Int) := by omega
    clear hb4 HD2
    go_wp2_with fail
    go_ret2
    refine ⟨_, rfl, ?_, HBN.out⟩
    rw [← HDL.out, ← HT.out]
    simp
end Go.Proofs.YtmncfbjoplfikaaGreatDoor

/- Fractions as texts: what a text says, and that a fraction's own text says that fraction. -/
namespace Go.Proofs.YtmncfbjoplfikaaGreatDoor
open Go.RowKit Go.Lib
set_option linter.unusedVariables false

/-- A text taken apart: its sign, the place of the bar, what stands ahead of it, what behind it. -/
def rneg (l : List UInt8) : Bool := decide (l[0]? = some 45)
def rbar (l : List UInt8) : Int := indexByte (wdig (rneg l) l) 47
def rup (l : List UInt8) : List UInt8 := if rbar l = -1 then wdig (rneg l) l else (wdig (rneg l) l).take (rbar l).toNat
def rdn (l : List UInt8) : List UInt8 := if rbar l = -1 then [] else (wdig (rneg l) l).drop ((rbar l).toNat + 1)
def rnu (l : List UInt8) : Int := numTo (rup l) (rup l).length
def rde (l : List UInt8) : Int := if rbar l = -1 then 1 else numTo (rdn l) (rdn l).length
/-- Is it a fraction's own text? -/
def rgood (l : List UInt8) : Prop := IsNum (rup l) ∧ (rbar l = -1 ∨ IsNum (rdn l) ∧ rde l ≠ 1) ∧ 0 < rde l ∧ (rneg l = false ∨ 0 < rnu l) ∧ gcdI (rnu l) (rde l) = 1
open Classical in
/-- Parse's error, of a text. -/
noncomputable def prErr (s : ByteArray) : Int := if 65536 < s.size then 3 else if rgood s.data.toList then 0 else 130
def rpq (l : List UInt8) : Rat := Rat.divInt (sg (rneg l) (rnu l)) (rde l)

theorem bar_none {d : List UInt8} (h : Dg d) : indexByte d 47 = -1 := by
  have g := indexByte_ge d 47
  by_cases c : indexByte d 47 = -1
  · exact c
  · obtain ⟨e, _⟩ := indexByte_some (l := d) (c := 47) (o := (indexByte d 47).toNat) (by omega)
    have t := h _ (List.mem_of_getElem? e)
    exact absurd t.1 (by decide)
theorem bar_at {d : List UInt8} (h : Dg d) (e : List UInt8) : indexByte (d ++ 47 :: e) 47 = d.length := by
  have g := indexByte_ge (d ++ 47 :: e) 47
  have hat : (d ++ 47 :: e)[d.length]? = some 47 := by simp
  by_cases c : indexByte (d ++ 47 :: e) 47 = -1
  · exact absurd hat (indexByte_none c _)
  · obtain ⟨e1, e2⟩ := indexByte_some (l := d ++ 47 :: e) (c := 47) (o := (indexByte (d ++ 47 :: e) 47).toNat) (by omega)
    have hk : indexByte (d ++ 47 :: e) 47 = ((indexByte (d ++ 47 :: e) 47).toNat : Int) := by omega
    generalize (indexByte (d ++ 47 :: e) 47).toNat = K at e1 e2 hk
    have k1 : ¬ K < d.length := fun hk => by
      rw [List.getElem?_append_left hk] at e1
      have t := h _ (List.mem_of_getElem? e1)
      exact absurd t.1 (by decide)
    have k2 : ¬ d.length < K := fun hk => e2 _ hk hat
    omega
theorem bar_parts {l : List UInt8} (h : indexByte l 47 ≠ -1) : l = l.take (indexByte l 47).toNat ++ 47 :: l.drop ((indexByte l 47).toNat + 1) ∧ (indexByte l 47).toNat < l.length := by
  have g := indexByte_ge l 47
  obtain ⟨e1, _⟩ := indexByte_some (l := l) (c := 47) (o := (indexByte l 47).toNat) (by omega)
  generalize (indexByte l 47).toNat = K at e1 ⊢
  obtain ⟨hk, e2⟩ := List.getElem?_eq_some_iff.1 e1
  refine ⟨?_, hk⟩
  have e3 := List.drop_eq_getElem_cons hk
  rw [e2] at e3
  rw [← e3, List.take_append_drop]
theorem rtext_eq (n : Bool) (xs ys : List Int) : rtext n xs ys = (if n then [45] else []) ++ (decDigits (val xs).toNat ++ if ys = [1] then [] else 47 :: decDigits (val ys).toNat) := by
  unfold rtext wtext
  by_cases c : ys = [1]
  · rw [if_pos c, if_pos c]; simp
  · rw [if_neg c, if_neg c]; simp
theorem rneg_text (n : Bool) (xs ys : List Int) : rneg (rtext n xs ys) = n := by
  obtain ⟨d1, _, _⟩ := isNum_dec (val xs).toNat
  rw [rtext_eq]
  unfold rneg
  cases n with
  | true => simp
  | false =>
    apply decide_eq_false
    intro e
    simp only [Bool.false_eq_true, if_false, List.nil_append] at e
    rw [List.getElem?_append_left d1.1] at e
    have t := d1.2.2 _ (List.mem_of_getElem? e)
    exact absurd t.1 (by decide)
theorem wdig_text (n : Bool) (xs ys : List Int) : wdig (rneg (rtext n xs ys)) (rtext n xs ys) = decDigits (val xs).toNat ++ if ys = [1] then [] else 47 :: decDigits (val ys).toNat := by
  rw [rneg_text, rtext_eq]
  cases n <;> simp [wdig]
/-- What a fraction's text says. -/
theorem text_says (n : Bool) {xs ys : List Int} (wx : Wd xs) (wy : Wd ys) : IsNum (rup (rtext n xs ys)) ∧ (rbar (rtext n xs ys) = -1 ∨ IsNum (rdn (rtext n xs ys)) ∧ ys ≠ [1]) ∧ rnu (rtext n xs ys) = val xs ∧ rde (rtext n xs ys) = val ys := by
  obtain ⟨d1, d2, _⟩ := isNum_dec (val xs).toNat
  obtain ⟨f1, f2, _⟩ := isNum_dec (val ys).toNat
  have v0 := val_nonneg wx
  have u0 := val_nonneg wy
  have e := wdig_text n xs ys
  by_cases c : ys = [1]
  · rw [if_pos c, List.append_nil] at e
    have hb : rbar (rtext n xs ys) = -1 := by unfold rbar; rw [e]; exact bar_none d1.2.2
    have hu : rup (rtext n xs ys) = decDigits (val xs).toNat := by unfold rup; rw [if_pos hb, e]
    refine ⟨by rw [hu]; exact d1, .inl hb, ?_, ?_⟩
    · unfold rnu; rw [hu, d2]; omega
    · unfold rde; rw [if_pos hb, c]; simp [val, valTo]
  · rw [if_neg c] at e
    have hb : rbar (rtext n xs ys) = ((decDigits (val xs).toNat).length : Int) := by unfold rbar; rw [e]; exact bar_at d1.2.2 _
    have hn : ¬ rbar (rtext n xs ys) = -1 := by omega
    have ht : (rbar (rtext n xs ys)).toNat = (decDigits (val xs).toNat).length := by omega
    have hu : rup (rtext n xs ys) = decDigits (val xs).toNat := by unfold rup; rw [if_neg hn, e, ht]; simp
    have hd : rdn (rtext n xs ys) = decDigits (val ys).toNat := by unfold rdn; rw [if_neg hn, e, ht]; simp
    refine ⟨by rw [hu]; exact d1, .inr ⟨by rw [hd]; exact f1, c⟩, ?_, ?_⟩
    · unfold rnu; rw [hu, d2]; omega
    · unfold rde; rw [if_neg hn, hd, f2]; omega
theorem rpq_text (n : Bool) {xs ys : List Int} (wx : Wd xs) (wy : Wd ys) : rpq (rtext n xs ys) = rq n xs ys := by
  obtain ⟨_, _, e1, e2⟩ := text_says n wx wy
  unfold rpq rq
  rw [rneg_text, e1, e2]
  rfl
theorem rgood_text {n : Bool} {xs ys : List Int} (wx : Wd xs) (wy : Wd ys) (h : rform n xs ys) : rgood (rtext n xs ys) := by
  obtain ⟨hb, h0, hs, hg⟩ := h
  obtain ⟨h1, h2⟩ := both_ok hb
  obtain ⟨_, tx⟩ := chk_ok h1
  obtain ⟨_, ty⟩ := chk_ok h2
  obtain ⟨a1, a2, a3, a4⟩ := text_says n wx wy
  refine ⟨a1, ?_, by rw [a4]; exact val_pos' wy ty h0, ?_, by rw [a3, a4]; exact hg⟩
  · rcases a2 with a2 | ⟨a2, a5⟩
    · exact .inl a2
    · exact .inr ⟨a2, by rw [a4]; exact fun e => a5 ((one_iff wy ty).2 e)⟩
  · rcases hs with hs | hs
    · left; rw [rneg_text]; exact hs
    · right; rw [a3]; exact val_pos' wx tx hs
theorem wdig_back (l : List UInt8) : (if rneg l then [45] else []) ++ wdig (rneg l) l = l := by
  cases l with
  | nil => rfl
  | cons c l =>
    by_cases h : c = 45
    · subst h; simp [rneg, wdig]
    · have e : rneg (c :: l) = false := decide_eq_false (by simp [h])
      rw [e]; simp [wdig]
/-- A text that is a fraction's own is the text of what it says. -/
theorem says_text {l : List UInt8} (h : rgood l) {xs ys : List Int} (wy : Wd ys) (ty : Trimmed ys) (hx : val xs = rnu l) (hy : val ys = rde l) : rtext (rneg l) xs ys = l := by
  obtain ⟨h1, h2, _, _, _⟩ := h
  have d1 : decDigits (val xs).toNat = rup l := by
    rw [hx]
    unfold rnu
    exact dec_num ((rup l).length - 1) _ (by have := h1.1; omega) h1
  rw [rtext_eq, d1]
  conv => rhs; rw [← wdig_back l]
  congr 1
  rcases h2 with h2 | ⟨h2, h3⟩
  · have e1 : rde l = 1 := by unfold rde; rw [if_pos h2]
    rw [if_pos ((one_iff wy ty).2 (hy.trans e1))]
    unfold rup
    rw [if_pos h2]; simp
  · by_cases hb : rbar l = -1
    · exact absurd (show rde l = 1 by unfold rde; rw [if_pos hb]) h3
    · rw [if_neg (fun e => h3 (hy ▸ (one_iff wy ty).1 e))]
      have d2 : decDigits (val ys).toNat = rdn l := by
        rw [hy]
        unfold rde
        rw [if_neg hb]
        exact dec_num ((rdn l).length - 1) _ (by have := h2.1; omega) h2
      rw [d2]
      unfold rup rdn
      rw [if_neg hb, if_neg hb]
      exact (bar_parts (l := wdig (rneg l) l) hb).1.symm
theorem ten8 (k : Nat) : (10 : Int) ^ (8 * k) ≤ 4294967296 ^ k := by
  induction k with
  | zero => simp
  | succ k ih =>
    rw [show 8 * (k + 1) = 8 * k + 8 by omega, Int.pow_add, pw_succ]
    have e : (10 : Int) ^ 8 = 100000000 := by decide
    have p : (0 : Int) < 10 ^ (8 * k) := Int.pow_pos (by decide)
    rw [e]
    omega
theorem ten_mono {a b : Nat} (h : a ≤ b) : (10 : Int) ^ a ≤ 10 ^ b := by
  obtain ⟨c, rfl⟩ := Nat.le.dest h
  rw [Int.pow_add]
  have p : (0 : Int) < 10 ^ a := Int.pow_pos (by decide)
  have q : (0 : Int) < 10 ^ c := Int.pow_pos (by decide)
  have := Int.mul_le_mul_of_nonneg_left (show (1 : Int) ≤ 10 ^ c by omega) (Int.le_of_lt p)
  omega
/-- At most 65,536 digits go into 8,192 words. -/
theorem num_wide {l : List UInt8} (hd : Dg l) (hl : l.length ≤ 65536) : numTo l l.length < wide := by
  have h1 := (numTo_bounds hd l.length).2
  have h2 : (10 : Int) ^ l.length ≤ 10 ^ (8 * 8192) := ten_mono (by omega)
  have h3 := ten8 8192
  have e : wide = 4294967296 ^ 8192 := rfl
  rw [e]
  exact Int.lt_of_lt_of_le h1 (Int.le_trans h2 h3)
theorem RTells.self {n : Bool} {xs ys : List Int} (wx : Wd xs) (wy : Wd ys) (h : rchk n xs ys = 0) : RTells 0 (rq n xs ys) n xs ys 0 := by
  obtain ⟨lx, ly, tx, ty, y0, s0, g⟩ := rchk_ok h
  have hd := val_pos' wy ty y0
  obtain ⟨m, us, vs, c, e1, e2, e3, r⟩ := rtells_of (n := n) wx tx wy ty hd g
  have e4 := e1 none 0 none 0
  unfold rtoldV at e4
  rw [if_neg (by omega)] at e4
  have hc : c = 0 := by
    simp at e4
    exact e4.2.symm
  subst hc
  have hm : (n && decide (0 < xs.length)) = n := by
    rcases s0 with rfl | s0
    · rfl
    · rw [decide_eq_true s0, Bool.and_true]
  rw [hm] at e4
  have hn : n = m := by simp at e4; exact e4
  subst hn
  rw [if_pos rfl] at e2 e3
  subst e2 e3
  exact r
end Go.Proofs.YtmncfbjoplfikaaGreatDoor

/- strings.Cut by a bar. -/
namespace Go.Proofs.YtmncfbjoplfikaaGreatDoor
open Go.RowKit Go.Lib
set_option linter.unusedVariables false

set_option maxHeartbeats 3200000 in
set_option maxRecDepth 100000 in
theorem index_bar (s : ByteArray) (w : World) :
    Calls Tryz.prog 80 #[.string s, .string ⟨#[47]⟩] w fun e w' => e = .returned (.int .i64 (indexByte s.data.toList 47)) ∧ w = w' := by
  have HH := hid (Tryz.stringslite_IndexByte s 47 w)
  by_cases c : s.data.toList = [47]
  · have hc : (([47] : List UInt8) == s.toList) = true := by rw [toList_data, c]; rfl
    have hi : Hid (indexByte s.data.toList 47 = 0) := by show _ = _; rw [c]; rfl
    rw [hi.out]
    clear HH c
    go_enter Tryz.func80, Tryz.ntmps80
    go_wp2_with fail
    go_ret
    exact ⟨rfl, rfl⟩
  · have hc : (([47] : List UInt8) == s.toList) = false := by rw [toList_data]; exact beq_eq_false_iff_ne.2 (fun e => c e.symm)
    clear c
    go_enter Tryz.func80, Tryz.ntmps80
    go_wp2_with fail
    refine Calls.mono HH.out ?_
    rintro e w' ⟨rfl, rfl⟩
    go_wp2_with fail
    go_ret
    exact ⟨rfl, rfl⟩
set_option maxHeartbeats 3200000 in
set_option maxRecDepth 100000 in
theorem cutl_no (s : ByteArray) (w : World) (h : indexByte s.data.toList 47 = -1) :
    Calls Tryz.prog 61 #[.string s, .string ⟨#[47]⟩] w fun e w' => e = .returned (.tuple #[.string s, .string ⟨#[]⟩, .bool false]) ∧ w = w' := by
  have HH := hid (index_bar s w)
  rw [h] at HH
  clear h
  go_enter Tryz.func61, Tryz.ntmps61
  go_wp2_with fail
  refine Calls.mono HH.out ?_
  rintro e w' ⟨rfl, rfl⟩
  go_wp2_with fail
  go_ret3
  exact ⟨rfl, rfl⟩
set_option maxHeartbeats 3200000 in
set_option maxRecDepth 100000 in
theorem cutl_yes (s : ByteArray) (w : World) (i : Nat) (h : indexByte s.data.toList 47 = (i : Int)) (hi : i + 1 ≤ s.size) (hs : s.size ≤ 65536) :
    Calls Tryz.prog 61 #[.string s, .string ⟨#[47]⟩] w fun e w' => e = .returned (.tuple #[.string (s.extract 0 i), .string (s.extract (i + 1) s.size), .bool true]) ∧ Below w.heap.size w w' := by
  have HH := hid (index_bar s w)
  rw [h] at HH
  clear h
  have c1 : (0 : Int) ≤ ↑i := by omega
  have c2 : (↑i : Int) ≤ ↑s.size := by omega
  have c3 : (0 : Int) ≤ ↑i + 1 := by omega
  have c4 : (↑i + 1 : Int) ≤ ↑s.size := by omega
  have cw : IntKind.i64.wrap ((i : Int) + 1) = (i : Int) + 1 := by rw [IntKind.wrap_i64]; omega
  go_enter Tryz.func61, Tryz.ntmps61
  go_wp2_with fail
  refine Calls.mono HH.out ?_
  rintro e w' ⟨rfl, rfl⟩
  go_wp2_with fail
  go_region
  go_wp2_with fail
  go_ret3
  exact ⟨rfl, (Below.refl _ _).drew⟩
set_option maxHeartbeats 1600000 in
set_option maxRecDepth 100000 in
theorem cut_no (s : ByteArray) (w : World) (h : indexByte s.data.toList 47 = -1) :
    Calls Tryz.prog 40 #[.string s, .string ⟨#[47]⟩] w fun e w' => e = .returned (.tuple #[.string s, .string ⟨#[]⟩, .bool false]) ∧ w = w' := by
  have HH := hid (cutl_no s w h)
  clear h
  go_enter Tryz.func40, Tryz.ntmps40
  go_wp2_with fail
  refine Calls.mono HH.out ?_
  rintro e w' ⟨rfl, rfl⟩
  go_wp2_with fail
  go_ret3
  exact ⟨rfl, rfl⟩
set_option maxHeartbeats 1600000 in
set_option maxRecDepth 100000 in
theorem cut_yes (s : ByteArray) (w : World) (i : Nat) (h : indexByte s.data.toList 47 = (i : Int)) (hi : i + 1 ≤ s.size) (hs : s.size ≤ 65536) :
    Calls Tryz.prog 40 #[.string s, .string ⟨#[47]⟩] w fun e w' => e = .returned (.tuple #[.string (s.extract 0 i), .string (s.extract (i + 1) s.size), .bool true]) ∧ Below w.heap.size w w' := by
  have HH := hid (cutl_yes s w i h hi hs)
  clear h
  go_enter Tryz.func40, Tryz.ntmps40
  go_wp2_with fail
  refine Calls.mono HH.out ?_
  rintro e w' ⟨rfl, hb⟩
  go_wp2_with fail
  go_ret3
  exact ⟨rfl, hb⟩

end Go.Proofs.YtmncfbjoplfikaaGreatDoor

/- Fractions read from a text: ratio.read, for any text. -/
namespace Go.Proofs.YtmncfbjoplfikaaGreatDoor
open Go.RowKit Go.Lib
set_option linter.unusedVariables false

/-- What read tells: a sign, two rows of the call's own, apart; in a fraction's one form just where the text is one's own. -/
def RRead (w : World) (l : List UInt8) (x : Ending) (w' : World) : Prop :=
  ∃ n v xs u ys, x = .returned (.agg #[.bool n, v, u]) ∧ w'.ownsRow w.heap.size 30 1 v xs.length (xs.map (Value.int .u32)) ∧ w'.ownsRow w.heap.size 30 1 u ys.length (ys.map (Value.int .u32)) ∧ Wd xs ∧ Wd ys ∧ xs.length ≤ 8192 ∧ ys.length ≤ 8192 ∧ (rform n xs ys ↔ rgood l) ∧ (rgood l → n = rneg l ∧ Trimmed xs ∧ Trimmed ys ∧ val xs = rnu l ∧ val ys = rde l) ∧ Below w.heap.size w w' ∧ Cut w v u w'
theorem rread_bad {w w' : World} {l : List UInt8} (h : ¬ rgood l) (hb : Below w.heap.size w w') : RRead w l (.returned (.agg #[.bool false, .slice none 0 0, .slice none 0 0])) w' :=
  ⟨false, _, [], _, [], rfl, World.ownsRow_nil _ _ _ _, World.ownsRow_nil _ _ _ _, Wd.nil, Wd.nil, by simp, by simp, ⟨fun e => absurd e.2.1 (by simp), fun e => absurd e h⟩, fun e => absurd e h, hb, w'.heap.size, hb.size, Nat.le_refl _, fun g hg => by simp [Value.ownBlock] at hg, fun g hg => by simp [Value.ownBlock] at hg⟩
theorem rform_good {n : Bool} {xs ys : List Int} (wx : Wd xs) (wy : Wd ys) (tx : Trimmed xs) (ty : Trimmed ys) (lx : xs.length ≤ 8192) (ly : ys.length ≤ 8192) {l : List UInt8} (hn : n = rneg l) (hx : val xs = rnu l) (hy : val ys = rde l) (h1 : IsNum (rup l)) (h2 : rbar l = -1 ∨ IsNum (rdn l) ∧ rde l ≠ 1) : rform n xs ys ↔ rgood l := by
  have hp : 0 < ys.length ↔ 0 < rde l := by
    rw [← hy]
    exact ⟨fun h => val_pos' wy ty h, fun h => by
      by_cases c : ys.length = 0
      · obtain rfl := List.length_eq_zero_iff.1 c
        simp [val, valTo] at h
      · omega⟩
  have hq : 0 < xs.length ↔ 0 < rnu l := by
    rw [← hx]
    exact ⟨fun h => val_pos' wx tx h, fun h => by
      by_cases c : xs.length = 0
      · obtain rfl := List.length_eq_zero_iff.1 c
        simp [val, valTo] at h
      · omega⟩
  unfold rform rgood
  rw [hp, hq, hn, hx, hy]
  exact ⟨fun e => ⟨h1, h2, e.2.1, e.2.2.1, e.2.2.2⟩, fun e => ⟨both_good (chk_good lx tx) (chk_good ly ty), e.2.2.1, e.2.2.2.1, e.2.2.2.2⟩⟩
theorem rread_put {w U W : World} {l : List UInt8} {n : Bool} {v u : Value} {xs ys : List Int} (hU : Below w.heap.size w U) (hlt : w.heap.size < U.heap.size) (hW : Below U.heap.size U W) (o1 : One U W v xs (rnu l)) (o2 : One U W u ys (rde l)) (hc : Cut U v u W) (lx : xs.length ≤ 8192) (ly : ys.length ≤ 8192) (hn : n = rneg l) (h1 : IsNum (rup l)) (h2 : rbar l = -1 ∨ IsNum (rdn l) ∧ rde l ≠ 1) (x y z : Value) :
    RRead w l (.returned (.agg #[.bool n, v, u])) (((W.setCell ⟨w.heap.size, 0, none⟩ x).setCell ⟨w.heap.size, 1, none⟩ y).setCell ⟨w.heap.size, 2, none⟩ z) :=
  ⟨n, v, xs, u, ys, rfl, owns_base (own_put3 o1.1 _ (fun g hg => by have := (World.ownsRow.lt o1.1 g hg).1; omega) _ _ _) (by omega), owns_base (own_put3 o2.1 _ (fun g hg => by have := (World.ownsRow.lt o2.1 g hg).1; omega) _ _ _) (by omega), o1.2.1, o2.2.1, lx, ly, rform_good o1.2.1 o2.2.1 o1.2.2.1 o2.2.2.1 lx ly hn o1.2.2.2 o2.2.2.2 h1 h2, fun _ => ⟨hn, o1.2.2.1, o2.2.2.1, o1.2.2.2, o2.2.2.2⟩, below_put3 (bt hU hW) _ (Nat.le_refl _) _ _ _, hc.up (by omega) (by simp)⟩
theorem parse_good (T : ByteArray) (w : World) (hs : T.size ≤ 65536) (l : List UInt8) (hl : T.data.toList = l) (h : IsNum l) :
    Calls Tryz.prog 41 #[.string T] w fun x w' => ∃ a zs c, x = .returned (.tuple #[.slice a (List.length zs) c, .int .i64 0]) ∧ Hid (One w w' (.slice a (List.length zs) c) zs (numTo l l.length) ∧ zs.length ≤ 8192) ∧ Below w.heap.size w w' := by
  have HP := parse_any T w (by unfold maxLen; omega)
  rw [pErr_ok T hs (by rw [hl]; exact h)] at HP
  have hw := num_wide h.2.2 (by rw [← hl, size_list]; exact hs)
  refine Calls.mono HP ?_
  rintro x w' ⟨v, zs, code, rfl, o, t, hb⟩
  obtain ⟨a, c, hv⟩ := own_slice' o
  subst hv
  have e : numTo T.data.toList T.size = numTo l l.length := by rw [← size_list, hl]
  rw [e] at t
  obtain ⟨rfl, hz⟩ := t.good rfl hw
  exact ⟨a, zs, c, rfl, ⟨⟨o, t.wd, t.trim, hz⟩, own_len (U := w) (V := w') ⟨o, t.wd, t.trim, hz⟩ hw⟩, hb⟩
theorem parse_bad (T : ByteArray) (w : World) (hs : T.size ≤ 65536) (l : List UInt8) (hl : T.data.toList = l) (h : ¬ IsNum l) :
    Calls Tryz.prog 41 #[.string T] w fun x w' => ∃ a c, x = .returned (.tuple #[.slice a 0 c, .int .i64 110]) ∧ Below w.heap.size w w' := by
  have HP := parse_any T w (by unfold maxLen; omega)
  rw [pErr_not T hs (by rw [hl]; exact h)] at HP
  refine Calls.mono HP ?_
  rintro x w' ⟨v, zs, code, rfl, o, t, hb⟩
  obtain ⟨a, c, hv⟩ := own_slice' o
  subst hv
  obtain ⟨rfl, rfl⟩ := t.bad (by decide)
  exact ⟨a, c, rfl, hb⟩
theorem of_one (w : World) : Calls Tryz.prog 26 #[.int .u64 1] w fun x w' => ∃ a c, x = .returned (.slice a 1 c) ∧ Hid (One w w' (.slice a 1 c) [1] 1) ∧ Below w.heap.size w w' := by
  refine Calls.mono (of_any 1 w (by decide) (by decide)) ?_
  rintro x w' ⟨v, rfl, o, hb⟩
  have e1 : sz [(1 : Int) % 4294967296, 1 / 4294967296] = 1 := by decide
  have e2 : trimmed [(1 : Int) % 4294967296, 1 / 4294967296] = [1] := by decide
  rw [e1, e2] at o
  obtain ⟨a, c, hv⟩ := own_slice' o
  subst hv
  exact ⟨a, c, rfl, ⟨o, Wd.one (by omega), rfl, by simp [val, valTo]⟩, hb⟩

set_option maxHeartbeats 6400000 in
set_option maxRecDepth 100000 in
theorem read_A1 (s : ByteArray) (w : World) (hs : s.size ≤ 65536) (hB : rbar s.data.toList = -1) (hU : ¬ IsNum (rup s.data.toList)) :
    Calls Tryz.prog 22 #[.string s] w (RRead w s.data.toList) := by
  have HB := hid (alloc_later w (.cells #[.bool false, .slice none 0 0, .slice none 0 0] 24))
  have HZ := hid (Box.made w 24 #[.bool false, .slice none 0 0, .slice none 0 0])
  have HLT : Hid (w.heap.size < (w.alloc (.cells #[.bool false, .slice none 0 0, .slice none 0 0] 24)).heap.size) := by show _ < _; simp
  have HCP := hid (cutPrefix_minus s (w.alloc (.cells #[.bool false, .slice none 0 0, .slice none 0 0] 24)) hs)
  have hss := size_list s
  rw [show decide (s.data.toList[0]? = some 45) = rneg s.data.toList from rfl] at HCP
  have HBR := hid hB
  have HU := hid hU
  have HBAD : Hid (¬ rgood s.data.toList) := fun h => hU h.1
  clear hB hU
  go_enter Tryz.func22, Tryz.ntmps22
  go_wp2_with fail
  refine Calls.mono HCP.out ?_
  rintro e w' ⟨T, b, rfl, hbb, hTw, rfl⟩
  have hTs : T.size ≤ 65536 := by
    rw [← size_list, hTw]
    split
    · rw [List.length_drop]; omega
    · omega
  have hTb : indexByte T.data.toList 47 = rbar s.data.toList := by rw [hTw, hbb]; rfl
  have hTw' : T.data.toList = wdig (rneg s.data.toList) s.data.toList := by rw [hTw, hbb]; rfl
  clear hTw HCP
  have HC := hid (cut_no T (w.alloc (.cells #[.bool false, .slice none 0 0, .slice none 0 0] 24)) (by rw [hTb]; exact HBR.out))
  have HA : Hid (T.data.toList = rup s.data.toList) := by show _ = _; rw [hTw']; unfold rup; rw [if_pos HBR.out]
  clear hTb hTw'
  go_wp2_with fail
  refine Calls.mono HC.out ?_
  rintro e w1 ⟨rfl, rfl⟩
  clear HC
  have HH := hid (parse_bad T (w.alloc (.cells #[.bool false, .slice none 0 0, .slice none 0 0] 24)) hTs _ HA.out HU.out)
  go_wp2_with fail
  refine Calls.mono HH.out ?_
  rintro e w2 ⟨a2, c2, rfl, hb2⟩
  clear HH
  obtain ⟨r0, r1, r2, f0, f1, f2⟩ := res_box3 HZ.out hb2
  have HBA := hid (bt HB.out hb2)
  go_wp2_with fail
  refine bodyPost_ret (v := .agg #[.bool false, .slice none 0 0, .slice none 0 0]) (by simp [results, Tryz.results22, go_sem, r0, r1, r2]) rfl ?_
  exact rread_bad HBAD.out (below_put3 HBA.out _ (Nat.le_refl _) _ _ _)

set_option maxHeartbeats 6400000 in
set_option maxRecDepth 100000 in
theorem read_A2 (s : ByteArray) (w : World) (hs : s.size ≤ 65536) (hB : ¬ rbar s.data.toList = -1) (hU : ¬ IsNum (rup s.data.toList)) :
    Calls Tryz.prog 22 #[.string s] w (RRead w s.data.toList) := by
  have HB := hid (alloc_later w (.cells #[.bool false, .slice none 0 0, .slice none 0 0] 24))
  have HZ := hid (Box.made w 24 #[.bool false, .slice none 0 0, .slice none 0 0])
  have HLT : Hid (w.heap.size < (w.alloc (.cells #[.bool false, .slice none 0 0, .slice none 0 0] 24)).heap.size) := by show _ < _; simp
  have HCP := hid (cutPrefix_minus s (w.alloc (.cells #[.bool false, .slice none 0 0, .slice none 0 0] 24)) hs)
  have hss := size_list s
  rw [show decide (s.data.toList[0]? = some 45) = rneg s.data.toList from rfl] at HCP
  have HBR := hid hB
  have HU := hid hU
  have HBAD : Hid (¬ rgood s.data.toList) := fun h => hU h.1
  clear hB hU
  go_enter Tryz.func22, Tryz.ntmps22
  go_wp2_with fail
  refine Calls.mono HCP.out ?_
  rintro e w' ⟨T, b, rfl, hbb, hTw, rfl⟩
  have hTs : T.size ≤ 65536 := by
    rw [← size_list, hTw]
    split
    · rw [List.length_drop]; omega
    · omega
  have hTb : indexByte T.data.toList 47 = rbar s.data.toList := by rw [hTw, hbb]; rfl
  have hTw' : T.data.toList = wdig (rneg s.data.toList) s.data.toList := by rw [hTw, hbb]; rfl
  clear hTw HCP
  obtain ⟨i, hi⟩ : ∃ i : Nat, rbar s.data.toList = (i : Int) := ⟨(rbar s.data.toList).toNat, by have := indexByte_ge (wdig (rneg s.data.toList) s.data.toList) 47; have h := HBR.out; have e : rbar s.data.toList = indexByte (wdig (rneg s.data.toList) s.data.toList) 47 := rfl; omega⟩
  have hil : i + 1 ≤ T.size := by
    have h := (bar_parts (l := T.data.toList) (by rw [hTb]; exact HBR.out)).2
    rw [hTb, size_list] at h
    omega
  have HC := hid (cut_yes T (w.alloc (.cells #[.bool false, .slice none 0 0, .slice none 0 0] 24)) i (by rw [hTb]; exact hi) hil hTs)
  have HA : Hid ((T.extract 0 i).data.toList = rup s.data.toList) := by show _ = _; rw [extract_list, hTw']; unfold rup; rw [if_neg HBR.out, hi]; simp
  have HD : Hid ((T.extract (i + 1) T.size).data.toList = rdn s.data.toList) := by
    show _ = _
    rw [extract_list, List.take_of_length_le (by rw [List.length_drop, size_list]; omega), hTw']
    unfold rdn
    rw [if_neg HBR.out, hi]; simp
  have hAs : (T.extract 0 i).size ≤ 65536 := by rw [← size_list, extract_list, List.length_take, List.length_drop, size_list]; omega
  have hDs : (T.extract (i + 1) T.size).size ≤ 65536 := by rw [← size_list, extract_list, List.length_take, List.length_drop, size_list]; omega
  generalize T.extract 0 i = A at *
  generalize T.extract (i + 1) T.size = D at *
  clear hTw' hTb hi hil hTs
  go_wp2_with fail
  refine Calls.mono HC.out ?_
  rintro e w1 ⟨rfl, hb1⟩
  clear HC
  have HH := hid (parse_bad A w1 hAs _ HA.out HU.out)
  go_wp2_with fail
  refine Calls.mono HH.out ?_
  rintro e w2 ⟨a2, c2, rfl, hb2⟩
  clear HH
  obtain ⟨r0, r1, r2, f0, f1, f2⟩ := res_box3 HZ.out (bt hb1 hb2)
  have HBA := hid (bt HB.out (bt hb1 hb2))
  go_wp2_with fail
  refine bodyPost_ret (v := .agg #[.bool false, .slice none 0 0, .slice none 0 0]) (by simp [results, Tryz.results22, go_sem, r0, r1, r2]) rfl ?_
  exact rread_bad HBAD.out (below_put3 HBA.out _ (Nat.le_refl _) _ _ _)

set_option maxHeartbeats 6400000 in
set_option maxRecDepth 100000 in
theorem read_B (s : ByteArray) (w : World) (hs : s.size ≤ 65536) (hB : rbar s.data.toList = -1) (hU : IsNum (rup s.data.toList)) :
    Calls Tryz.prog 22 #[.string s] w (RRead w s.data.toList) := by
  have HB := hid (alloc_later w (.cells #[.bool false, .slice none 0 0, .slice none 0 0] 24))
  have HZ := hid (Box.made w 24 #[.bool false, .slice none 0 0, .slice none 0 0])
  have HLT : Hid (w.heap.size < (w.alloc (.cells #[.bool false, .slice none 0 0, .slice none 0 0] 24)).heap.size) := by show _ < _; simp
  have HCP := hid (cutPrefix_minus s (w.alloc (.cells #[.bool false, .slice none 0 0, .slice none 0 0] 24)) hs)
  have hss := size_list s
  rw [show decide (s.data.toList[0]? = some 45) = rneg s.data.toList from rfl] at HCP
  have HBR := hid hB
  have HU := hid hU
  clear hB hU
  go_enter Tryz.func22, Tryz.ntmps22
  go_wp2_with fail
  refine Calls.mono HCP.out ?_
  rintro e w' ⟨T, b, rfl, hbb, hTw, rfl⟩
  have hTs : T.size ≤ 65536 := by
    rw [← size_list, hTw]
    split
    · rw [List.length_drop]; omega
    · omega
  have hTb : indexByte T.data.toList 47 = rbar s.data.toList := by rw [hTw, hbb]; rfl
  have hTw' : T.data.toList = wdig (rneg s.data.toList) s.data.toList := by rw [hTw, hbb]; rfl
  clear hTw HCP
  have HC := hid (cut_no T (w.alloc (.cells #[.bool false, .slice none 0 0, .slice none 0 0] 24)) (by rw [hTb]; exact HBR.out))
  have HA : Hid (T.data.toList = rup s.data.toList) := by show _ = _; rw [hTw']; unfold rup; rw [if_pos HBR.out]
  clear hTb hTw'
  go_wp2_with fail
  refine Calls.mono HC.out ?_
  rintro e w1 ⟨rfl, rfl⟩
  clear HC
  have HH := hid (parse_good T (w.alloc (.cells #[.bool false, .slice none 0 0, .slice none 0 0] 24)) hTs _ HA.out HU.out)
  go_wp2_with fail
  refine Calls.mono HH.out ?_
  rintro e w2 ⟨a2, z2, c2, rfl, H2, hb2⟩
  clear HH
  have HH := hid (of_one w2)
  go_wp2_with fail
  refine Calls.mono HH.out ?_
  rintro e w3 ⟨a3, c3, rfl, H3, hb3⟩
  clear HH
  have HW := hid (bt hb2 hb3)
  obtain ⟨r0, r1, r2, f0, f1, f2⟩ := res_box3 HZ.out HW.out
  have hz2 := hb2.size
  have hz3 := hb3.size
  have HO2 : Hid (One (w.alloc (.cells #[.bool false, .slice none 0 0, .slice none 0 0] 24)) w3 (.slice a2 z2.length c2) z2 (rnu s.data.toList)) := ⟨owns_later H2.out.1.1 hb3, H2.out.1.2⟩
  have HDE : Hid (rde s.data.toList = 1) := by show _ = _; unfold rde; rw [if_pos HBR.out]
  have HO3 : Hid (One (w.alloc (.cells #[.bool false, .slice none 0 0, .slice none 0 0] 24)) w3 (.slice a3 1 c3) [1] (rde s.data.toList)) := ⟨owns_base H3.out.1 (by omega), H3.out.2.1, H3.out.2.2.1, by rw [HDE.out]; exact H3.out.2.2.2⟩
  have HCUT : Hid (Cut (w.alloc (.cells #[.bool false, .slice none 0 0, .slice none 0 0] 24)) (.slice a2 z2.length c2) (.slice a3 1 c3) w3) := cut_two (Nat.le_refl _) hz2 hz3 (World.ownsRow.lt H2.out.1.1) (World.ownsRow.lt H3.out.1)
  have HLL := hid H2.out.2
  clear hb2 hb3 hz2 hz3 H2 H3
  subst hbb
  go_wp2_with fail
  refine bodyPost_ret (v := .agg #[.bool (rneg s.data.toList), .slice a2 z2.length c2, .slice a3 1 c3]) (by simp [results, Tryz.results22, go_sem, r0, r1, r2]) rfl ?_
  exact rread_put HB.out HLT.out HW.out HO2.out HO3.out HCUT.out HLL.out (by simp) rfl HU.out (.inl HBR.out) _ _ _

set_option maxHeartbeats 6400000 in
set_option maxRecDepth 100000 in
theorem read_C (s : ByteArray) (w : World) (hs : s.size ≤ 65536) (hB : ¬ rbar s.data.toList = -1) (hU : IsNum (rup s.data.toList)) (hV : ¬ IsNum (rdn s.data.toList)) :
    Calls Tryz.prog 22 #[.string s] w (RRead w s.data.toList) := by
  have HB := hid (alloc_later w (.cells #[.bool false, .slice none 0 0, .slice none 0 0] 24))
  have HZ := hid (Box.made w 24 #[.bool false, .slice none 0 0, .slice none 0 0])
  have HLT : Hid (w.heap.size < (w.alloc (.cells #[.bool false, .slice none 0 0, .slice none 0 0] 24)).heap.size) := by show _ < _; simp
  have HCP := hid (cutPrefix_minus s (w.alloc (.cells #[.bool false, .slice none 0 0, .slice none 0 0] 24)) hs)
  have hss := size_list s
  rw [show decide (s.data.toList[0]? = some 45) = rneg s.data.toList from rfl] at HCP
  have HBR := hid hB
  have HU := hid hU
  have HV := hid hV
  have HBAD : Hid (¬ rgood s.data.toList) := fun h => h.2.1.elim hB (fun e => hV e.1)
  clear hB hU hV
  go_enter Tryz.func22, Tryz.ntmps22
  go_wp2_with fail
  refine Calls.mono HCP.out ?_
  rintro e w' ⟨T, b, rfl, hbb, hTw, rfl⟩
  have hTs : T.size ≤ 65536 := by
    rw [← size_list, hTw]
    split
    · rw [List.length_drop]; omega
    · omega
  have hTb : indexByte T.data.toList 47 = rbar s.data.toList := by rw [hTw, hbb]; rfl
  have hTw' : T.data.toList = wdig (rneg s.data.toList) s.data.toList := by rw [hTw, hbb]; rfl
  clear hTw HCP
  obtain ⟨i, hi⟩ : ∃ i : Nat, rbar s.data.toList = (i : Int) := ⟨(rbar s.data.toList).toNat, by have := indexByte_ge (wdig (rneg s.data.toList) s.data.toList) 47; have h := HBR.out; have e : rbar s.data.toList = indexByte (wdig (rneg s.data.toList) s.data.toList) 47 := rfl; omega⟩
  have hil : i + 1 ≤ T.size := by
    have h := (bar_parts (l := T.data.toList) (by rw [hTb]; exact HBR.out)).2
    rw [hTb, size_list] at h
    omega
  have HC := hid (cut_yes T (w.alloc (.cells #[.bool false, .slice none 0 0, .slice none 0 0] 24)) i (by rw [hTb]; exact hi) hil hTs)
  have HA : Hid ((T.extract 0 i).data.toList = rup s.data.toList) := by show _ = _; rw [extract_list, hTw']; unfold rup; rw [if_neg HBR.out, hi]; simp
  have HD : Hid ((T.extract (i + 1) T.size).data.toList = rdn s.data.toList) := by
    show _ = _
    rw [extract_list, List.take_of_length_le (by rw [List.length_drop, size_list]; omega), hTw']
    unfold rdn
    rw [if_neg HBR.out, hi]; simp
  have hAs : (T.extract 0 i).size ≤ 65536 := by rw [← size_list, extract_list, List.length_take, List.length_drop, size_list]; omega
  have hDs : (T.extract (i + 1) T.size).size ≤ 65536 := by rw [← size_list, extract_list, List.length_take, List.length_drop, size_list]; omega
  generalize T.extract 0 i = A at *
  generalize T.extract (i + 1) T.size = D at *
  clear hTw' hTb hi hil hTs
  go_wp2_with fail
  refine Calls.mono HC.out ?_
  rintro e w1 ⟨rfl, hb1⟩
  clear HC
  have HH := hid (parse_good A w1 hAs _ HA.out HU.out)
  go_wp2_with fail
  refine Calls.mono HH.out ?_
  rintro e w2 ⟨a2, z2, c2, rfl, H2, hb2⟩
  clear HH
  have HH := hid (parse_bad D w2 hDs _ HD.out HV.out)
  go_wp2_with fail
  refine Calls.mono HH.out ?_
  rintro e w3 ⟨a3, c3, rfl, hb3⟩
  clear HH
  obtain ⟨r0, r1, r2, f0, f1, f2⟩ := res_box3 HZ.out (bt hb1 (bt hb2 hb3))
  have HBA := hid (bt HB.out (bt hb1 (bt hb2 hb3)))
  go_wp2_with fail
  refine bodyPost_ret (v := .agg #[.bool false, .slice none 0 0, .slice none 0 0]) (by simp [results, Tryz.results22, go_sem, r0, r1, r2]) rfl ?_
  exact rread_bad HBAD.out (below_put3 HBA.out _ (Nat.le_refl _) _ _ _)

set_option maxHeartbeats 6400000 in
set_option maxRecDepth 100000 in
theorem read_D (s : ByteArray) (w : World) (hs : s.size ≤ 65536) (hB : ¬ rbar s.data.toList = -1) (hU : IsNum (rup s.data.toList)) (hV : IsNum (rdn s.data.toList)) (hO : rde s.data.toList = 1) :
    Calls Tryz.prog 22 #[.string s] w (RRead w s.data.toList) := by
  have HB := hid (alloc_later w (.cells #[.bool false, .slice none 0 0, .slice none 0 0] 24))
  have HZ := hid (Box.made w 24 #[.bool false, .slice none 0 0, .slice none 0 0])
  have HLT : Hid (w.heap.size < (w.alloc (.cells #[.bool false, .slice none 0 0, .slice none 0 0] 24)).heap.size) := by show _ < _; simp
  have HCP := hid (cutPrefix_minus s (w.alloc (.cells #[.bool false, .slice none 0 0, .slice none 0 0] 24)) hs)
  have hss := size_list s
  rw [show decide (s.data.toList[0]? = some 45) = rneg s.data.toList from rfl] at HCP
  have HBR := hid hB
  have HU := hid hU
  have HV := hid hV
  have HBAD : Hid (¬ rgood s.data.toList) := fun h => h.2.1.elim hB (fun e => e.2 hO)
  have hde : rde s.data.toList = numTo (rdn s.data.toList) (rdn s.data.toList).length := by unfold rde; rw [if_neg hB]
  have hval : ∀ z : List Int, Wd z → Trimmed z → val z = numTo (rdn s.data.toList) (rdn s.data.toList).length → decide (z = [1]) = true := fun z w t v => decide_eq_true ((one_iff w t).2 (by rw [v, ← hde]; exact hO))
  clear hB hU hV hO hde
  go_enter Tryz.func22, Tryz.ntmps22
  go_wp2_with fail
  refine Calls.mono HCP.out ?_
  rintro e w' ⟨T, b, rfl, hbb, hTw, rfl⟩
  have hTs : T.size ≤ 65536 := by
    rw [← size_list, hTw]
    split
    · rw [List.length_drop]; omega
    · omega
  have hTb : indexByte T.data.toList 47 = rbar s.data.toList := by rw [hTw, hbb]; rfl
  have hTw' : T.data.toList = wdig (rneg s.data.toList) s.data.toList := by rw [hTw, hbb]; rfl
  clear hTw HCP
  obtain ⟨i, hi⟩ : ∃ i : Nat, rbar s.data.toList = (i : Int) := ⟨(rbar s.data.toList).toNat, by have := indexByte_ge (wdig (rneg s.data.toList) s.data.toList) 47; have h := HBR.out; have e : rbar s.data.toList = indexByte (wdig (rneg s.data.toList) s.data.toList) 47 := rfl; omega⟩
  have hil : i + 1 ≤ T.size := by
    have h := (bar_parts (l := T.data.toList) (by rw [hTb]; exact HBR.out)).2
    rw [hTb, size_list] at h
    omega
  have HC := hid (cut_yes T (w.alloc (.cells #[.bool false, .slice none 0 0, .slice none 0 0] 24)) i (by rw [hTb]; exact hi) hil hTs)
  have HA : Hid ((T.extract 0 i).data.toList = rup s.data.toList) := by show _ = _; rw [extract_list, hTw']; unfold rup; rw [if_neg HBR.out, hi]; simp
  have HD : Hid ((T.extract (i + 1) T.size).data.toList = rdn s.data.toList) := by
    show _ = _
    rw [extract_list, List.take_of_length_le (by rw [List.length_drop, size_list]; omega), hTw']
    unfold rdn
    rw [if_neg HBR.out, hi]; simp
  have hAs : (T.extract 0 i).size ≤ 65536 := by rw [← size_list, extract_list, List.length_take, List.length_drop, size_list]; omega
  have hDs : (T.extract (i + 1) T.size).size ≤ 65536 := by rw [← size_list, extract_list, List.length_take, List.length_drop, size_list]; omega
  generalize T.extract 0 i = A at *
  generalize T.extract (i + 1) T.size = D at *
  clear hTw' hTb hi hil hTs
  go_wp2_with fail
  refine Calls.mono HC.out ?_
  rintro e w1 ⟨rfl, hb1⟩
  clear HC
  have HH := hid (parse_good A w1 hAs _ HA.out HU.out)
  go_wp2_with fail
  refine Calls.mono HH.out ?_
  rintro e w2 ⟨a2, z2, c2, rfl, H2, hb2⟩
  clear HH
  have HH := hid (parse_good D w2 hDs _ HD.out HV.out)
  go_wp2_with fail
  refine Calls.mono HH.out ?_
  rintro e w3 ⟨a3, z3, c3, rfl, H3, hb3⟩
  clear HH
  have HI := isOne_any _ z3 w3 (Sl.own H3.out.1.1 H3.out.1.2.1)
  rw [hval z3 H3.out.1.2.1 H3.out.1.2.2.1 H3.out.1.2.2.2] at HI
  clear hval
  have HH := hid (HI)
  go_wp2_with fail
  refine Calls.mono HH.out ?_
  rintro e w4 ⟨rfl, rfl⟩
  clear HH
  obtain ⟨r0, r1, r2, f0, f1, f2⟩ := res_box3 HZ.out (bt hb1 (bt hb2 hb3))
  have HBA := hid (bt HB.out (bt hb1 (bt hb2 hb3)))
  go_wp2_with fail
  refine bodyPost_ret (v := .agg #[.bool false, .slice none 0 0, .slice none 0 0]) (by simp [results, Tryz.results22, go_sem, r0, r1, r2]) rfl ?_
  exact rread_bad HBAD.out (below_put3 HBA.out _ (Nat.le_refl _) _ _ _)

set_option maxHeartbeats 6400000 in
set_option maxRecDepth 100000 in
theorem read_E (s : ByteArray) (w : World) (hs : s.size ≤ 65536) (hB : ¬ rbar s.data.toList = -1) (hU : IsNum (rup s.data.toList)) (hV : IsNum (rdn s.data.toList)) (hO : ¬ rde s.data.toList = 1) :
    Calls Tryz.prog 22 #[.string s] w (RRead w s.data.toList) := by
  have HB := hid (alloc_later w (.cells #[.bool false, .slice none 0 0, .slice none 0 0] 24))
  have HZ := hid (Box.made w 24 #[.bool false, .slice none 0 0, .slice none 0 0])
  have HLT : Hid (w.heap.size < (w.alloc (.cells #[.bool false, .slice none 0 0, .slice none 0 0] 24)).heap.size) := by show _ < _; simp
  have HCP := hid (cutPrefix_minus s (w.alloc (.cells #[.bool false, .slice none 0 0, .slice none 0 0] 24)) hs)
  have hss := size_list s
  rw [show decide (s.data.toList[0]? = some 45) = rneg s.data.toList from rfl] at HCP
  have HBR := hid hB
  have HU := hid hU
  have HV := hid hV
  have HO := hid hO
  have hde : rde s.data.toList = numTo (rdn s.data.toList) (rdn s.data.toList).length := by unfold rde; rw [if_neg hB]
  have hval : ∀ z : List Int, Wd z → Trimmed z → val z = numTo (rdn s.data.toList) (rdn s.data.toList).length → decide (z = [1]) = false := fun z w t v => decide_eq_false (fun e => hO (by rw [hde, ← v]; exact (one_iff w t).1 e))
  have HDE := hid hde
  clear hB hU hV hO hde
  go_enter Tryz.func22, Tryz.ntmps22
  go_wp2_with fail
  refine Calls.mono HCP.out ?_
  rintro e w' ⟨T, b, rfl, hbb, hTw, rfl⟩
  have hTs : T.size ≤ 65536 := by
    rw [← size_list, hTw]
    split
    · rw [List.length_drop]; omega
    · omega
  have hTb : indexByte T.data.toList 47 = rbar s.data.toList := by rw [hTw, hbb]; rfl
  have hTw' : T.data.toList = wdig (rneg s.data.toList) s.data.toList := by rw [hTw, hbb]; rfl
  clear hTw HCP
  obtain ⟨i, hi⟩ : ∃ i : Nat, rbar s.data.toList = (i : Int) := ⟨(rbar s.data.toList).toNat, by have := indexByte_ge (wdig (rneg s.data.toList) s.data.toList) 47; have h := HBR.out; have e : rbar s.data.toList = indexByte (wdig (rneg s.data.toList) s.data.toList) 47 := rfl; omega⟩
  have hil : i + 1 ≤ T.size := by
    have h := (bar_parts (l := T.data.toList) (by rw [hTb]; exact HBR.out)).2
    rw [hTb, size_list] at h
    omega
  have HC := hid (cut_yes T (w.alloc (.cells #[.bool false, .slice none 0 0, .slice none 0 0] 24)) i (by rw [hTb]; exact hi) hil hTs)
  have HA : Hid ((T.extract 0 i).data.toList = rup s.data.toList) := by show _ = _; rw [extract_list, hTw']; unfold rup; rw [if_neg HBR.out, hi]; simp
  have HD : Hid ((T.extract (i + 1) T.size).data.toList = rdn s.data.toList) := by
    show _ = _
    rw [extract_list, List.take_of_length_le (by rw [List.length_drop, size_list]; omega), hTw']
    unfold rdn
    rw [if_neg HBR.out, hi]; simp
  have hAs : (T.extract 0 i).size ≤ 65536 := by rw [← size_list, extract_list, List.length_take, List.length_drop, size_list]; omega
  have hDs : (T.extract (i + 1) T.size).size ≤ 65536 := by rw [← size_list, extract_list, List.length_take, List.length_drop, size_list]; omega
  generalize T.extract 0 i = A at *
  generalize T.extract (i + 1) T.size = D at *
  clear hTw' hTb hi hil hTs
  go_wp2_with fail
  refine Calls.mono HC.out ?_
  rintro e w1 ⟨rfl, hb1⟩
  clear HC
  have HH := hid (parse_good A w1 hAs _ HA.out HU.out)
  go_wp2_with fail
  refine Calls.mono HH.out ?_
  rintro e w2 ⟨a2, z2, c2, rfl, H2, hb2⟩
  clear HH
  have HH := hid (parse_good D w2 hDs _ HD.out HV.out)
  go_wp2_with fail
  refine Calls.mono HH.out ?_
  rintro e w3 ⟨a3, z3, c3, rfl, H3, hb3⟩
  clear HH
  have HI := isOne_any _ z3 w3 (Sl.own H3.out.1.1 H3.out.1.2.1)
  rw [hval z3 H3.out.1.2.1 H3.out.1.2.2.1 H3.out.1.2.2.2] at HI
  clear hval
  have HH := hid (HI)
  go_wp2_with fail
  refine Calls.mono HH.out ?_
  rintro e w4 ⟨rfl, rfl⟩
  clear HH
  have HW := hid (bt hb1 (bt hb2 hb3))
  obtain ⟨r0, r1, r2, f0, f1, f2⟩ := res_box3 HZ.out HW.out
  have hz1 := hb1.size
  have hz2 := hb2.size
  have hz3 := hb3.size
  have HO2 : Hid (One (w.alloc (.cells #[.bool false, .slice none 0 0, .slice none 0 0] 24)) w3 (.slice a2 z2.length c2) z2 (rnu s.data.toList)) := ⟨owns_base (owns_later H2.out.1.1 hb3) hz1, H2.out.1.2⟩
  have HO3 : Hid (One (w.alloc (.cells #[.bool false, .slice none 0 0, .slice none 0 0] 24)) w3 (.slice a3 z3.length c3) z3 (rde s.data.toList)) := ⟨owns_base H3.out.1.1 (by omega), H3.out.1.2.1, H3.out.1.2.2.1, by rw [HDE.out]; exact H3.out.1.2.2.2⟩
  have HCUT : Hid (Cut (w.alloc (.cells #[.bool false, .slice none 0 0, .slice none 0 0] 24)) (.slice a2 z2.length c2) (.slice a3 z3.length c3) w3) := cut_two hz1 hz2 hz3 (World.ownsRow.lt H2.out.1.1) (World.ownsRow.lt H3.out.1.1)
  have HLL := hid (And.intro H2.out.2 H3.out.2)
  clear hb1 hb2 hb3 hz1 hz2 hz3 H2 H3
  have HBB := hid hbb
  subst hbb
  go_wp2_with fail
  refine bodyPost_ret (v := .agg #[.bool (rneg s.data.toList), .slice a2 z2.length c2, .slice a3 z3.length c3]) (by simp [results, Tryz.results22, go_sem, r0, r1, r2]) rfl ?_
  exact rread_put HB.out HLT.out HW.out HO2.out HO3.out HCUT.out HLL.out.1 HLL.out.2 rfl HU.out (.inr ⟨HV.out, HO.out⟩) _ _ _
end Go.Proofs.YtmncfbjoplfikaaGreatDoor

/- Fractions read from a text: ratio.Parse, for any text. -/
namespace Go.Proofs.YtmncfbjoplfikaaGreatDoor
open Go.RowKit Go.Lib
set_option linter.unusedVariables false

theorem read_any (s : ByteArray) (w : World) (hs : s.size ≤ 65536) : Calls Tryz.prog 22 #[.string s] w (RRead w s.data.toList) := by
  by_cases hB : rbar s.data.toList = -1
  · by_cases hU : IsNum (rup s.data.toList)
    · exact read_B s w hs hB hU
    · exact read_A1 s w hs hB hU
  · by_cases hU : IsNum (rup s.data.toList)
    · by_cases hV : IsNum (rdn s.data.toList)
      · by_cases hO : rde s.data.toList = 1
        · exact read_D s w hs hB hU hV hO
        · exact read_E s w hs hB hU hV hO
      · exact read_C s w hs hB hU hV
    · exact read_A2 s w hs hB hU
theorem prErr_good {s : ByteArray} (hs : s.size ≤ 65536) (h : rgood s.data.toList) : prErr s = 0 := by unfold prErr; rw [if_neg (by omega), if_pos h]
theorem prErr_bad {s : ByteArray} (hs : s.size ≤ 65536) (h : ¬ rgood s.data.toList) : prErr s = 130 := by unfold prErr; rw [if_neg (by omega), if_neg h]
theorem prErr_long {s : ByteArray} (hs : 65536 < s.size) : prErr s = 3 := by unfold prErr; rw [if_pos hs]
theorem rtold_zero {w W : World} {e : Int} {q : Rat} (he : e ≠ 0) (hb : Below w.heap.size w W) : RToldA w e q (.returned (.tuple #[.agg #[.bool false, .slice none 0 0, .slice none 0 0], .int .i64 e])) W :=
  ⟨false, _, [], _, [], e, rfl, World.ownsRow_nil _ _ _ _, World.ownsRow_nil _ _ _ _, RTells.err he, hb, W.heap.size, hb.size, Nat.le_refl _, fun g hg => by simp [Value.ownBlock] at hg, fun g hg => by simp [Value.ownBlock] at hg⟩

set_option maxHeartbeats 3200000 in
set_option maxRecDepth 100000 in
theorem rparse_long (s : ByteArray) (w : World) (hs : 65536 < s.size) (hm : s.size ≤ 9223372036854775807) (q : Rat) : Calls Tryz.prog 11 #[.string s] w (RToldA w 3 q) := by
  have hs' : (65536 : Int) < (s.size : Int) := by omega
  go_enter Tryz.func11, Tryz.ntmps11
  go_wp2_with fail
  refine bodyPost_ret (v := .tuple #[.agg #[.bool false, .slice none 0 0, .slice none 0 0], .int .i64 3]) (by simp [results, Tryz.results11, go_sem]) rfl ?_
  exact rtold_zero (by decide) (alloc_later _ _)
set_option maxHeartbeats 6400000 in
set_option maxRecDepth 100000 in
theorem rparse_any (s : ByteArray) (w : World) (hs : s.size ≤ 65536) : Calls Tryz.prog 11 #[.string s] w (RToldA w (prErr s) (rpq s.data.toList)) := by
  have hs' : ¬ (65536 : Int) < (s.size : Int) := by omega
  have HB := hid (alloc_later w (.cells #[.bool false, .slice none 0 0, .slice none 0 0] 24))
  have HZ := hid (Box.made w 24 #[.bool false, .slice none 0 0, .slice none 0 0])
  have HLT : Hid (w.heap.size < (w.alloc (.cells #[.bool false, .slice none 0 0, .slice none 0 0] 24)).heap.size) := by show _ < _; simp
  have HR := hid (read_any s (w.alloc (.cells #[.bool false, .slice none 0 0, .slice none 0 0] 24)) hs)
  by_cases hg : rgood s.data.toList
  · rw [prErr_good hs hg]
    have HG := hid hg
    clear hg hs
    go_enter Tryz.func11, Tryz.ntmps11
    go_wp2_with fail
    refine Calls.mono HR.out ?_
    generalize (w.alloc (.cells #[.bool false, .slice none 0 0, .slice none 0 0] 24)) = X at *
    rintro e w1 ⟨n, v, xs, u, ys, rfl, o1, o2, wx, wy, lx, ly, hiff, hval, hb1, hcut⟩
    obtain ⟨a1, c1, hv⟩ := own_slice' o1
    subst hv
    obtain ⟨a2, c2, hv⟩ := own_slice' o2
    subst hv
    obtain ⟨hn, tx, ty, vx, vy⟩ := hval HG.out
    have HAL := hid (alloc_later w1 (.cells #[.bool n, .slice a1 xs.length c1, .slice a2 ys.length c2] 24))
    have HBX := hid (Box.made w1 24 #[.bool n, .slice a1 xs.length c1, .slice a2 ys.length c2])
    have HI := inOneForm_any n _ xs _ ys (w1.alloc (.cells #[.bool n, .slice a1 xs.length c1, .slice a2 ys.length c2] 24)) ((Sl.own o1 wx).later HAL.out) ((Sl.own o2 wy).later HAL.out) (by omega) (by omega)
    rw [decide_eq_true (hiff.2 HG.out)] at HI
    have HH := hid HI
    have HO1 : Hid (One X w1 (.slice a1 xs.length c1) xs (rnu s.data.toList)) := ⟨o1, wx, tx, vx⟩
    have HO2 : Hid (One X w1 (.slice a2 ys.length c2) ys (rde s.data.toList)) := ⟨o2, wy, ty, vy⟩
    have HCUT := hid hcut
    have HN := hid hn
    have HB1 := hid (bt hb1 HAL.out)
    clear o1 o2 wx wy lx ly hiff hval hb1 hcut HI hn tx ty vx vy HR
    go_wp2_with fail
    refine Calls.mono HH.out ?_
    rintro e w2 ⟨rfl, hb2⟩
    obtain ⟨p0, p1, p2, _, _, _⟩ := res_box3 HBX.out hb2
    have HAB := hid (bt HAL.out hb2)
    have hz := HAB.out.size
    have HT := hid (rtold_cut2 (n := n) (q := rpq s.data.toList) (bt HB1.out hb2) (HO1.out.later HAB.out) (HO2.out.later HAB.out) (HCUT.out.up (Nat.le_refl _) hz) HG.out.2.2.1 HG.out.2.2.2.2 (by rw [HN.out]; rfl))
    have HB2 := hid (bt HB1.out hb2)
    clear hb2 HH HAB HBX HAL
    go_wp2_with fail
    refine Calls.mono HT.out ?_
    rintro e w3 ⟨k9, a8, z8, c8, a9, z9, c9, code, rfl, HE9, hb3, _⟩
    obtain ⟨r0, r1, r2, f0, f1, f2⟩ := res_box3 HZ.out hb3
    have HBW := hid (bt HB.out hb3)
    clear hb3 HT
    go_wp2_with fail
    refine bodyPost_ret (v := .tuple #[.agg #[.bool k9, .slice a8 z8.length c8, .slice a9 z9.length c9], .int .i64 code]) (by simp [results, Tryz.results11, go_sem, r0, r1, r2]) rfl ?_
    exact RToldA.put HE9.out w.heap.size HLT.out (Nat.le_refl _) HBW.out _ _ _
  · rw [prErr_bad hs hg]
    have HG := hid hg
    clear hg hs
    go_enter Tryz.func11, Tryz.ntmps11
    go_wp2_with fail
    refine Calls.mono HR.out ?_
    generalize (w.alloc (.cells #[.bool false, .slice none 0 0, .slice none 0 0] 24)) = X at *
    rintro e w1 ⟨n, v, xs, u, ys, rfl, o1, o2, wx, wy, lx, ly, hiff, hval, hb1, hcut⟩
    obtain ⟨a1, c1, hv⟩ := own_slice' o1
    subst hv
    obtain ⟨a2, c2, hv⟩ := own_slice' o2
    subst hv
    have HAL := hid (alloc_later w1 (.cells #[.bool n, .slice a1 xs.length c1, .slice a2 ys.length c2] 24))
    have HI := inOneForm_any n _ xs _ ys (w1.alloc (.cells #[.bool n, .slice a1 xs.length c1, .slice a2 ys.length c2] 24)) ((Sl.own o1 wx).later HAL.out) ((Sl.own o2 wy).later HAL.out) (by omega) (by omega)
    rw [decide_eq_false (fun e => HG.out (hiff.1 e))] at HI
    have HH := hid HI
    have HB1 := hid (bt hb1 HAL.out)
    clear o1 o2 wx wy lx ly hiff hval hb1 hcut HI HR
    go_wp2_with fail
    refine Calls.mono HH.out ?_
    rintro e w2 ⟨rfl, hb2⟩
    obtain ⟨r0, r1, r2, f0, f1, f2⟩ := res_box3 HZ.out (bt HB1.out hb2)
    have HBW := hid (bt HB.out (bt HB1.out hb2))
    clear hb2 HH
    go_wp2_with fail
    refine bodyPost_ret (v := .tuple #[.agg #[.bool false, .slice none 0 0, .slice none 0 0], .int .i64 130]) (by simp [results, Tryz.results11, go_sem, r0, r1, r2]) rfl ?_
    exact rtold_zero (by decide) (below_put3 HBW.out _ (Nat.le_refl _) _ _ _)
end Go.Proofs.YtmncfbjoplfikaaGreatDoor

/- The laws of fractions: small, is, and awake (the document's examples), whatever the world, where the table of powers of ten stands. -/
namespace Go.Proofs.YtmncfbjoplfikaaGreatDoor
open Go.RowKit Go.Lib
set_option linter.unusedVariables false

/-- A fraction told alone. -/
def RVal (w : World) (e : Int) (q : Rat) (x : Ending) (w' : World) : Prop :=
  ∃ n v xs u ys code, x = .returned (.agg #[.bool n, v, u]) ∧ w'.ownsRow w.heap.size 30 1 v xs.length (xs.map (Value.int .u32)) ∧ w'.ownsRow w.heap.size 30 1 u ys.length (ys.map (Value.int .u32)) ∧ RTells e q n xs ys code ∧ Below w.heap.size w w' ∧ Cut w v u w'
theorem RVal.put {w U w3 : World} {e : Int} {q : Rat} {k : Bool} {v u : Value} {zs ds : List Int} {code : Int} (h : w3.ownsRow U.heap.size 30 1 v zs.length (zs.map (Value.int .u32)) ∧ w3.ownsRow U.heap.size 30 1 u ds.length (ds.map (Value.int .u32)) ∧ RTells e q k zs ds code ∧ Cut U v u w3) (b : Nat) (hb : b < U.heap.size) (hw : w.heap.size ≤ b) (hbw : Below w.heap.size w w3) (x y z : Value) :
    RVal w e q (.returned (.agg #[.bool k, v, u])) (((w3.setCell ⟨b, 0, none⟩ x).setCell ⟨b, 1, none⟩ y).setCell ⟨b, 2, none⟩ z) :=
  ⟨k, v, zs, u, ds, code, rfl, owns_base (own_put3 h.1 b (fun g hg => by have := (World.ownsRow.lt h.1 g hg).1; omega) _ _ _) (by omega), owns_base (own_put3 h.2.1 b (fun g hg => by have := (World.ownsRow.lt h.2.1 g hg).1; omega) _ _ _) (by omega), h.2.2.1, below_put3 hbw b hw _ _ _, h.2.2.2.up (by omega) (by simp)⟩
set_option maxHeartbeats 1600000 in
set_option maxRecDepth 100000 in
theorem lawSmall_any (x y : Int) (w : World) (x0 : -9223372036854775808 ≤ x) (x1 : x ≤ 9223372036854775807) (y0 : -9223372036854775808 ≤ y) (y1 : y ≤ 9223372036854775807) :
    Calls Tryz.prog 6 #[.int .i64 x, .int .i64 y] w (RVal w (if y = 0 then 7 else 0) (Rat.divInt x y)) := by
  have HB := hid (alloc_later w (.cells #[.bool false, .slice none 0 0, .slice none 0 0] 24))
  have HZ := hid (Box.made w 24 #[.bool false, .slice none 0 0, .slice none 0 0])
  have HLT : Hid (w.heap.size < (w.alloc (.cells #[.bool false, .slice none 0 0, .slice none 0 0] 24)).heap.size) := by show _ < _; simp
  have HR := hid (rsmall_any x y (w.alloc (.cells #[.bool false, .slice none 0 0, .slice none 0 0] 24)) x0 x1 y0 y1)
  clear x0 x1 y0 y1
  generalize (if y = 0 then (7 : Int) else 0) = ee at *
  generalize Rat.divInt x y = q at *
  go_enter Tryz.func6, Tryz.ntmps6
  go_wp2_with fail
  refine Calls.mono HR.out ?_
  generalize (w.alloc (.cells #[.bool false, .slice none 0 0, .slice none 0 0] 24)) = X at *
  rintro e w1 ⟨n, v, xs, u, ys, code, rfl, o1, o2, t, hb1, hcut⟩
  obtain ⟨a1, c1, hv⟩ := own_slice' o1
  subst hv
  obtain ⟨a2, c2, hv⟩ := own_slice' o2
  subst hv
  have hb4 := bt hb1 (alloc_later w1 (.cells #[.bool n, .slice a1 xs.length c1, .slice a2 ys.length c2] 24))
  obtain ⟨r0, r1, r2, f0, f1, f2⟩ := res_box3 HZ.out hb4
  have HE := hid (And.intro (owns_later o1 (alloc_later w1 (.cells #[.bool n, .slice a1 xs.length c1, .slice a2 ys.length c2] 24))) (And.intro (owns_later o2 (alloc_later w1 (.cells #[.bool n, .slice a1 xs.length c1, .slice a2 ys.length c2] 24))) (And.intro t (hcut.up (Nat.le_refl _) (alloc_later w1 (.cells #[.bool n, .slice a1 xs.length c1, .slice a2 ys.length c2] 24)).size))))
  have HW := hid (bt HB.out hb4)
  have hne : w1.heap.size ≠ w.heap.size := by have := hb1.size; have := HLT.out; omega
  clear o1 o2 t hcut hb1 hb4 HR
  go_wp2_with fail
  refine bodyPost_ret (v := .agg #[.bool n, .slice a1 xs.length c1, .slice a2 ys.length c2]) (by simp [results, Tryz.results6, go_sem, r0, r1, r2]) rfl ?_
  exact RVal.put HE.out w.heap.size HLT.out (Nat.le_refl _) HW.out _ _ _
set_option maxHeartbeats 1600000 in
set_option maxRecDepth 100000 in
theorem lawIs_yes (n : Bool) (a : Option Addr) (ca : Nat) (xs : List Int) (b : Option Addr) (cb : Nat) (ys : List Int) (t : ByteArray) (w : World) (sx : Sl w (.slice a xs.length ca) xs) (sy : Sl w (.slice b ys.length cb) ys) (hx : rchk n xs ys = 0) (ht : t.data.toList = rtext n xs ys) (htab : Tab w) :
    Calls Tryz.prog 10 #[.agg #[.bool n, .slice a xs.length ca, .slice b ys.length cb], .int .i64 0, .string t] w fun e w' => e = .returned (.bool true) ∧ Below w.heap.size w w' := by
  have HB := hid (alloc_later w (.cells #[.bool n, .slice a xs.length ca, .slice b ys.length cb] 24))
  have HP := hid (rPrint_ok n a ca xs b cb ys (w.alloc (.cells #[.bool n, .slice a xs.length ca, .slice b ys.length cb] 24)) (sx.later HB.out) (sy.later HB.out) hx (htab.later HB.out))
  have HT := hid ht
  have hq : (t.toList == t.toList) = true := by simp
  clear sx sy hx ht htab
  go_enter Tryz.func10, Tryz.ntmps10
  go_wp2_with fail
  refine Calls.mono HP.out ?_
  rintro e w1 ⟨T, rfl, hT, hb1⟩
  obtain rfl : T = t := ByteArray.ext (Array.toList_inj.1 (hT.trans HT.out.symm))
  have HW := hid (bt HB.out hb1)
  clear hb1 HP hT HT
  go_wp2_with fail
  go_ret
  exact ⟨rfl, HW.out⟩
/-- What a call tells is the fraction that is known. -/
theorem RTells.lit {e : Int} {q : Rat} {n m : Bool} {xs ys us vs : List Int} {c : Int} (h : RTells e q n xs ys c) (he : e = 0) (wu : Wd us) (wv : Wd vs) (hk : rchk m us vs = 0) (hq : rq m us vs = q) : n = m ∧ xs = us ∧ ys = vs ∧ c = 0 := by
  subst he
  have g := RTells.self wu wv hk
  rw [hq] at g
  exact h.same g
theorem lit_wd {x : Int} (h0 : 0 ≤ x) (h1 : x < 4294967296) : Wd [x] := Wd.one ⟨h0, by omega⟩
theorem trim_one {x : Int} (h : x ≠ 0) : Trimmed [x] := by
  unfold Trimmed
  show szTo [x] 1 = 1
  simp [szTo, h]
theorem chk_lit (n : Bool) (x y : Int) (hx : 0 < x ∧ x < 4294967296) (hy : 0 < y ∧ y < 4294967296) (hg : gcdI x y = 1) : rchk n [x] [y] = 0 := by
  have e1 : val [x] = x := by simp [val, valTo]
  have e2 : val [y] = y := by simp [val, valTo]
  exact rchk_good (by simp) (by simp) (trim_one (by omega)) (trim_one (by omega)) (by simp) (.inr (by simp)) (by rw [e1, e2]; exact hg)
theorem wdn (x : Int) (h : 0 ≤ x ∧ x ≤ 4294967295) : Wd [x] := Wd.one h
theorem k32 : rchk true [3] [2] = 0 := chk_lit _ _ _ (by decide) (by decide) (by decide)
theorem k12 : rchk false [1] [2] = 0 := chk_lit _ _ _ (by decide) (by decide) (by decide)
theorem k13 : rchk false [1] [3] = 0 := chk_lit _ _ _ (by decide) (by decide) (by decide)
theorem k14 : rchk true [1] [4] = 0 := chk_lit _ _ _ (by decide) (by decide) (by decide)
theorem k56 : rchk false [5] [6] = 0 := chk_lit _ _ _ (by decide) (by decide) (by decide)
theorem k21 : rchk true [2] [1] = 0 := chk_lit _ _ _ (by decide) (by decide) (by decide)
theorem rq_lit (n : Bool) (x y : Int) : rq n [x] [y] = Rat.divInt (sg n x) y := by
  have e1 : val [x] = x := by simp [val, valTo]
  have e2 : val [y] = y := by simp [val, valTo]
  show Rat.divInt (sg n (val [x])) (val [y]) = _
  rw [e1, e2]
theorem q32 : rq true [3] [2] = Rat.divInt 6 (-4) := by rw [rq_lit]; decide +kernel
theorem q12 : rq false [1] [2] = Rat.divInt 1 2 := by rw [rq_lit]; decide +kernel
theorem q13 : rq false [1] [3] = Rat.divInt 1 3 := by rw [rq_lit]; decide +kernel
theorem q14 : rq true [1] [4] = Rat.divInt (-1) 4 := by rw [rq_lit]; decide +kernel
theorem q56 : rq false [5] [6] = rq false [1] [2] + rq false [1] [3] := by rw [rq_lit, rq_lit, rq_lit]; decide +kernel
theorem q21 : rq true [2] [1] = rq false [1] [2] / rq true [1] [4] := by rw [rq_lit, rq_lit, rq_lit]; decide +kernel
theorem t32 : ([45, 51, 47, 50] : List UInt8) = rtext true [3] [2] := by
  rw [rtext_eq, show val [3] = 3 by simp [val, valTo], show val [2] = 2 by simp [val, valTo], show (3 : Int).toNat = 3 from rfl, show (2 : Int).toNat = 2 from rfl, decDigits_one (by decide), decDigits_one (by decide)]
  decide
theorem t56 : ([53, 47, 54] : List UInt8) = rtext false [5] [6] := by
  rw [rtext_eq, show val [5] = 5 by simp [val, valTo], show val [6] = 6 by simp [val, valTo], show (5 : Int).toNat = 5 from rfl, show (6 : Int).toNat = 6 from rfl, decDigits_one (by decide), decDigits_one (by decide)]
  decide
theorem t21 : ([45, 50] : List UInt8) = rtext true [2] [1] := by
  rw [rtext_eq, show val [2] = 2 by simp [val, valTo], show (2 : Int).toNat = 2 from rfl, decDigits_one (by decide)]
  decide
theorem good32 : prErr ⟨#[45, 51, 47, 50]⟩ = 0 ∧ rpq (⟨#[45, 51, 47, 50]⟩ : ByteArray).data.toList = rq true [3] [2] := by
  have e : (⟨#[45, 51, 47, 50]⟩ : ByteArray).data.toList = rtext true [3] [2] := t32
  have w1 := wdn 3 (by decide)
  have w2 := wdn 2 (by decide)
  have hf : rform true [3] [2] := by
    have k := k32
    unfold rchk at k
    rw [if_neg (by decide)] at k
    by_cases c : rform true [3] [2]
    · exact c
    · rw [if_neg c] at k; exact absurd k (by decide)
  refine ⟨prErr_good (by decide) (by rw [e]; exact rgood_text w1 w2 hf), ?_⟩
  rw [e]
  exact rpq_text true w1 w2
theorem qErr_good {n m : Bool} {xs ys us vs : List Int} (h : rchk n xs ys = 0) (g : rchk m us vs = 0) (h0 : us ≠ []) : qErr n xs ys m us vs = 0 := by
  unfold qErr
  rw [if_pos (rboth_good h g), if_neg (fun e => h0 (List.length_eq_zero_iff.1 e))]

set_option maxHeartbeats 12800000 in
set_option maxRecDepth 100000 in
theorem rawake_any (w : World) (htab : Tab w) : Calls Tryz.prog 16 #[] w fun e w' => e = .returned (.bool true) ∧ Below w.heap.size w w' := by
  have H : Hid (St w w [] []) := ⟨(fun p hp => by cases hp), (fun p hp => by cases hp), Below.refl _ _⟩
  have HTAB := hid htab
  clear htab
  go_enter Tryz.func16, Tryz.ntmps16
  have HC := hid (rsmall_any 6 (-4) w (by decide) (by decide) (by decide) (by decide))
  go_wp2_with fail
  refine Calls.mono HC.out ?_
  rintro e w1 ⟨N1, U1, Z1, T1, D1, C1, rfl, o1, q1, t1, hb, hcut⟩
  clear HC
  obtain ⟨A1, K1, hs⟩ := own_slice' o1
  subst hs
  obtain ⟨B1, L1, hs⟩ := own_slice' q1
  subst hs
  have HT1 := hid t1
  have wz1 := t1.wx
  have wd1 := t1.wy
  obtain ⟨lz1, ld1⟩ := t1.len
  clear t1 hcut
  replace H := hid (H.out.later hb)
  clear hb
  replace H := hid (H.out.more o1)
  clear o1
  replace H := hid (H.out.more q1)
  clear q1
  have HL1 : Hid (N1 = true ∧ Z1 = [3] ∧ D1 = [2] ∧ C1 = 0) := HT1.out.lit (by decide) (wdn 3 (by decide)) (wdn 2 (by decide)) k32 (q32)
  clear HT1
  have hc1 : C1 = 0 := HL1.out.2.2.2
  subst hc1
  replace H := hid (H.out.put N1 (.slice A1 Z1.length K1) (.slice B1 D1.length L1))
  have HC := hid (lawSmall_any 1 2 (w1.alloc (.cells #[.bool N1, .slice A1 Z1.length K1, .slice B1 D1.length L1] 24)) (by decide) (by decide) (by decide) (by decide))
  go_wp2_with fail
  refine Calls.mono HC.out ?_
  generalize (w1.alloc (.cells #[.bool N1, .slice A1 Z1.length K1, .slice B1 D1.length L1] 24)) = V1 at *
  rintro e w2 ⟨N2, U2, Z2, T2, D2, C2, rfl, o2, q2, t2, hb, hcut⟩
  clear HC
  obtain ⟨A2, K2, hs⟩ := own_slice' o2
  subst hs
  obtain ⟨B2, L2, hs⟩ := own_slice' q2
  subst hs
  have HT2 := hid t2
  have wz2 := t2.wx
  have wd2 := t2.wy
  obtain ⟨lz2, ld2⟩ := t2.len
  clear t2 hcut
  replace H := hid (H.out.later hb)
  clear hb
  replace H := hid (H.out.more o2)
  clear o2
  replace H := hid (H.out.more q2)
  clear q2
  have HL2 : Hid (N2 = false ∧ Z2 = [1] ∧ D2 = [2] ∧ C2 = 0) := HT2.out.lit (by decide) (wdn 1 (by decide)) (wdn 2 (by decide)) k12 (q12)
  clear HT2
  have HC := hid (lawSmall_any 1 3 w2 (by decide) (by decide) (by decide) (by decide))
  go_wp2_with fail
  refine Calls.mono HC.out ?_
  rintro e w3 ⟨N3, U3, Z3, T3, D3, C3, rfl, o3, q3, t3, hb, hcut⟩
  clear HC
  obtain ⟨A3, K3, hs⟩ := own_slice' o3
  subst hs
  obtain ⟨B3, L3, hs⟩ := own_slice' q3
  subst hs
  have HT3 := hid t3
  have wz3 := t3.wx
  have wd3 := t3.wy
  obtain ⟨lz3, ld3⟩ := t3.len
  clear t3 hcut
  replace H := hid (H.out.later hb)
  clear hb
  replace H := hid (H.out.more o3)
  clear o3
  replace H := hid (H.out.more q3)
  clear q3
  have HL3 : Hid (N3 = false ∧ Z3 = [1] ∧ D3 = [3] ∧ C3 = 0) := HT3.out.lit (by decide) (wdn 1 (by decide)) (wdn 3 (by decide)) k13 (q13)
  clear HT3
  have HC := hid (rAdd_full N2 _ _ Z2 _ _ D2 N3 _ _ Z3 _ _ D3 _ (H.out.sl wz2 (.tail _ (.tail _ (.tail _ (.head _))))) (H.out.sl wd2 (.tail _ (.tail _ (.head _)))) (H.out.sl wz3 (.tail _ (.head _))) (H.out.sl wd3 (.head _)))
  go_wp2_with fail
  refine Calls.mono HC.out ?_
  rintro e w4 ⟨N4, U4, Z4, T4, D4, C4, rfl, o4, q4, t4, hb, hcut⟩
  clear HC
  obtain ⟨A4, K4, hs⟩ := own_slice' o4
  subst hs
  obtain ⟨B4, L4, hs⟩ := own_slice' q4
  subst hs
  have HT4 := hid t4
  have wz4 := t4.wx
  have wd4 := t4.wy
  obtain ⟨lz4, ld4⟩ := t4.len
  clear t4 hcut
  replace H := hid (H.out.later hb)
  clear hb
  replace H := hid (H.out.more o4)
  clear o4
  replace H := hid (H.out.more q4)
  clear q4
  have HL4 : Hid (N4 = false ∧ Z4 = [5] ∧ D4 = [6] ∧ C4 = 0) := HT4.out.lit (by rw [HL2.out.1, HL2.out.2.1, HL2.out.2.2.1, HL3.out.1, HL3.out.2.1, HL3.out.2.2.1]; exact rboth_good k12 k13) (wdn 5 (by decide)) (wdn 6 (by decide)) k56 (by rw [HL2.out.1, HL2.out.2.1, HL2.out.2.2.1, HL3.out.1, HL3.out.2.1, HL3.out.2.2.1]; exact q56)
  clear HT4
  have hc4 : C4 = 0 := HL4.out.2.2.2
  subst hc4
  replace H := hid (H.out.put N4 (.slice A4 Z4.length K4) (.slice B4 D4.length L4))
  have HC := hid (lawSmall_any 1 2 (w4.alloc (.cells #[.bool N4, .slice A4 Z4.length K4, .slice B4 D4.length L4] 24)) (by decide) (by decide) (by decide) (by decide))
  go_wp2_with fail
  refine Calls.mono HC.out ?_
  generalize (w4.alloc (.cells #[.bool N4, .slice A4 Z4.length K4, .slice B4 D4.length L4] 24)) = V4 at *
  rintro e w5 ⟨N5, U5, Z5, T5, D5, C5, rfl, o5, q5, t5, hb, hcut⟩
  clear HC
  obtain ⟨A5, K5, hs⟩ := own_slice' o5
  subst hs
  obtain ⟨B5, L5, hs⟩ := own_slice' q5
  subst hs
  have HT5 := hid t5
  have wz5 := t5.wx
  have wd5 := t5.wy
  obtain ⟨lz5, ld5⟩ := t5.len
  clear t5 hcut
  replace H := hid (H.out.later hb)
  clear hb
  replace H := hid (H.out.more o5)
  clear o5
  replace H := hid (H.out.more q5)
  clear q5
  have HL5 : Hid (N5 = false ∧ Z5 = [1] ∧ D5 = [2] ∧ C5 = 0) := HT5.out.lit (by decide) (wdn 1 (by decide)) (wdn 2 (by decide)) k12 (q12)
  clear HT5
  have HC := hid (lawSmall_any (-1) 4 w5 (by decide) (by decide) (by decide) (by decide))
  go_wp2_with fail
  refine Calls.mono HC.out ?_
  rintro e w6 ⟨N6, U6, Z6, T6, D6, C6, rfl, o6, q6, t6, hb, hcut⟩
  clear HC
  obtain ⟨A6, K6, hs⟩ := own_slice' o6
  subst hs
  obtain ⟨B6, L6, hs⟩ := own_slice' q6
  subst hs
  have HT6 := hid t6
  have wz6 := t6.wx
  have wd6 := t6.wy
  obtain ⟨lz6, ld6⟩ := t6.len
  clear t6 hcut
  replace H := hid (H.out.later hb)
  clear hb
  replace H := hid (H.out.more o6)
  clear o6
  replace H := hid (H.out.more q6)
  clear q6
  have HL6 : Hid (N6 = true ∧ Z6 = [1] ∧ D6 = [4] ∧ C6 = 0) := HT6.out.lit (by decide) (wdn 1 (by decide)) (wdn 4 (by decide)) k14 (q14)
  clear HT6
  have HC := hid (rQuo_full N5 _ _ Z5 _ _ D5 N6 _ _ Z6 _ _ D6 _ (H.out.sl wz5 (.tail _ (.tail _ (.tail _ (.head _))))) (H.out.sl wd5 (.tail _ (.tail _ (.head _)))) (H.out.sl wz6 (.tail _ (.head _))) (H.out.sl wd6 (.head _)))
  go_wp2_with fail
  refine Calls.mono HC.out ?_
  rintro e w7 ⟨N7, U7, Z7, T7, D7, C7, rfl, o7, q7, t7, hb, hcut⟩
  clear HC
  obtain ⟨A7, K7, hs⟩ := own_slice' o7
  subst hs
  obtain ⟨B7, L7, hs⟩ := own_slice' q7
  subst hs
  have HT7 := hid t7
  have wz7 := t7.wx
  have wd7 := t7.wy
  obtain ⟨lz7, ld7⟩ := t7.len
  clear t7 hcut
  replace H := hid (H.out.later hb)
  clear hb
  replace H := hid (H.out.more o7)
  clear o7
  replace H := hid (H.out.more q7)
  clear q7
  have HL7 : Hid (N7 = true ∧ Z7 = [2] ∧ D7 = [1] ∧ C7 = 0) := HT7.out.lit (by rw [HL5.out.1, HL5.out.2.1, HL5.out.2.2.1, HL6.out.1, HL6.out.2.1, HL6.out.2.2.1]; exact qErr_good k12 k14 (by decide)) (wdn 2 (by decide)) (wdn 1 (by decide)) k21 (by rw [HL5.out.1, HL5.out.2.1, HL5.out.2.2.1, HL6.out.1, HL6.out.2.1, HL6.out.2.2.1]; exact q21)
  clear HT7
  have hc7 : C7 = 0 := HL7.out.2.2.2
  subst hc7
  replace H := hid (H.out.put N7 (.slice A7 Z7.length K7) (.slice B7 D7.length L7))
  have HC := hid (rparse_any ⟨#[45, 51, 47, 50]⟩ (w7.alloc (.cells #[.bool N7, .slice A7 Z7.length K7, .slice B7 D7.length L7] 24)) (by decide))
  go_wp2_with fail
  refine Calls.mono HC.out ?_
  generalize (w7.alloc (.cells #[.bool N7, .slice A7 Z7.length K7, .slice B7 D7.length L7] 24)) = V7 at *
  rintro e w8 ⟨N8, U8, Z8, T8, D8, C8, rfl, o8, q8, t8, hb, hcut⟩
  clear HC
  obtain ⟨A8, K8, hs⟩ := own_slice' o8
  subst hs
  obtain ⟨B8, L8, hs⟩ := own_slice' q8
  subst hs
  have HT8 := hid t8
  have wz8 := t8.wx
  have wd8 := t8.wy
  obtain ⟨lz8, ld8⟩ := t8.len
  clear t8 hcut
  replace H := hid (H.out.later hb)
  clear hb
  replace H := hid (H.out.more o8)
  clear o8
  replace H := hid (H.out.more q8)
  clear q8
  have HL8 : Hid (N8 = true ∧ Z8 = [3] ∧ D8 = [2] ∧ C8 = 0) := HT8.out.lit (good32.1) (wdn 3 (by decide)) (wdn 2 (by decide)) k32 (good32.2.symm)
  clear HT8
  have hc8 : C8 = 0 := HL8.out.2.2.2
  subst hc8
  replace H := hid (H.out.put N8 (.slice A8 Z8.length K8) (.slice B8 D8.length L8))
  have HC := hid (lawIs_yes N1 _ _ Z1 _ _ D1 ⟨#[45, 51, 47, 50]⟩ _ (H.out.sl wz1 (.tail _ (.tail _ (.tail _ (.tail _ (.tail _ (.tail _ (.tail _ (.tail _ (.tail _ (.tail _ (.tail _ (.tail _ (.tail _ (.tail _ (.tail _ (.head _))))))))))))))))) (H.out.sl wd1 (.tail _ (.tail _ (.tail _ (.tail _ (.tail _ (.tail _ (.tail _ (.tail _ (.tail _ (.tail _ (.tail _ (.tail _ (.tail _ (.tail _ (.head _)))))))))))))))) (by rw [HL1.out.1, HL1.out.2.1, HL1.out.2.2.1]; exact k32) (by rw [HL1.out.1, HL1.out.2.1, HL1.out.2.2.1]; exact t32) (HTAB.out.later H.out.bel))
  obtain ⟨p00, p01, p02⟩ := H.out.get (.tail _ (.tail _ (.tail _ (.head _))))
  go_wp2_with fail
  refine Calls.mono HC.out ?_
  generalize (w8.alloc (.cells #[.bool N8, .slice A8 Z8.length K8, .slice B8 D8.length L8] 24)) = V8 at *
  rintro e w9 ⟨rfl, hb⟩
  clear p00 p01 p02
  clear HC
  replace H := hid (H.out.later hb)
  clear hb
  have HC := hid (lawIs_yes N4 _ _ Z4 _ _ D4 ⟨#[53, 47, 54]⟩ _ (H.out.sl wz4 (.tail _ (.tail _ (.tail _ (.tail _ (.tail _ (.tail _ (.tail _ (.tail _ (.tail _ (.head _))))))))))) (H.out.sl wd4 (.tail _ (.tail _ (.tail _ (.tail _ (.tail _ (.tail _ (.tail _ (.tail _ (.head _)))))))))) (by rw [HL4.out.1, HL4.out.2.1, HL4.out.2.2.1]; exact k56) (by rw [HL4.out.1, HL4.out.2.1, HL4.out.2.2.1]; exact t56) (HTAB.out.later H.out.bel))
  obtain ⟨p00, p01, p02⟩ := H.out.get (.tail _ (.tail _ (.head _)))
  go_wp2_with fail
  refine Calls.mono HC.out ?_
  rintro e w10 ⟨rfl, hb⟩
  clear p00 p01 p02
  clear HC
  replace H := hid (H.out.later hb)
  clear hb
  have HC := hid (lawIs_yes N7 _ _ Z7 _ _ D7 ⟨#[45, 50]⟩ _ (H.out.sl wz7 (.tail _ (.tail _ (.tail _ (.head _))))) (H.out.sl wd7 (.tail _ (.tail _ (.head _)))) (by rw [HL7.out.1, HL7.out.2.1, HL7.out.2.2.1]; exact k21) (by rw [HL7.out.1, HL7.out.2.1, HL7.out.2.2.1]; exact t21) (HTAB.out.later H.out.bel))
  obtain ⟨p00, p01, p02⟩ := H.out.get (.tail _ (.head _))
  go_wp2_with fail
  refine Calls.mono HC.out ?_
  rintro e w11 ⟨rfl, hb⟩
  clear p00 p01 p02
  clear HC
  replace H := hid (H.out.later hb)
  clear hb
  have HC := hid (lawIs_yes N8 _ _ Z8 _ _ D8 ⟨#[45, 51, 47, 50]⟩ _ (H.out.sl wz8 (.tail _ (.head _))) (H.out.sl wd8 (.head _)) (by rw [HL8.out.1, HL8.out.2.1, HL8.out.2.2.1]; exact k32) (by rw [HL8.out.1, HL8.out.2.1, HL8.out.2.2.1]; exact t32) (HTAB.out.later H.out.bel))
  obtain ⟨p00, p01, p02⟩ := H.out.get (.head _)
  go_wp2_with fail
  refine Calls.mono HC.out ?_
  rintro e w12 ⟨rfl, hb⟩
  clear p00 p01 p02
  clear HC
  replace H := hid (H.out.later hb)
  clear hb
  have hsame : decide (N1 = N8 ∧ Z1 = Z8 ∧ D1 = D8) = true := decide_eq_true ⟨by rw [HL1.out.1, HL8.out.1], by rw [HL1.out.2.1, HL8.out.2.1], by rw [HL1.out.2.2.1, HL8.out.2.2.1]⟩
  have HSM := rSame_any N1 _ _ Z1 _ _ D1 N8 _ _ Z8 _ _ D8 w12 (H.out.sl wz1 (.tail _ (.tail _ (.tail _ (.tail _ (.tail _ (.tail _ (.tail _ (.tail _ (.tail _ (.tail _ (.tail _ (.tail _ (.tail _ (.tail _ (.tail _ (.head _))))))))))))))))) (H.out.sl wd1 (.tail _ (.tail _ (.tail _ (.tail _ (.tail _ (.tail _ (.tail _ (.tail _ (.tail _ (.tail _ (.tail _ (.tail _ (.tail _ (.tail _ (.head _)))))))))))))))) (H.out.sl wz8 (.tail _ (.head _))) (H.out.sl wd8 (.head _)) (by omega) (by omega) (by omega) (by omega)
  rw [hsame] at HSM
  clear hsame
  have HC := hid (HSM)
  obtain ⟨p00, p01, p02⟩ := H.out.get (.tail _ (.tail _ (.tail _ (.head _))))
  obtain ⟨p10, p11, p12⟩ := H.out.get (.head _)
  go_wp2_with fail
  refine Calls.mono HC.out ?_
  rintro e w13 ⟨rfl, hb⟩
  clear p00 p01 p02 p10 p11 p12
  clear HC
  replace H := hid (H.out.later hb)
  clear hb
  go_wp2_with fail
  go_ret
  exact ⟨rfl, H.out.bel⟩
end Go.Proofs.YtmncfbjoplfikaaGreatDoor

/- What RatioNames wants of the calls: fractions with known words, refused ones, texts that are no fraction's. -/
namespace Go.Proofs.YtmncfbjoplfikaaGreatDoor
open Go.RowKit Go.Lib
set_option linter.unusedVariables false

/-- A fraction told, its words known, with the code 0; alone; refused. -/
def RXk (w : World) (n : Bool) (xs : List Int) (k : Nat) (ys : List Int) (l : Nat) (x : Ending) (w' : World) : Prop := ∃ a ca b cb, x = .returned (.tuple #[.agg #[.bool n, .slice a k ca, .slice b l cb], .int .i64 0]) ∧ Hid (Sl w' (.slice a k ca) xs ∧ Sl w' (.slice b l cb) ys) ∧ Below w.heap.size w w'
def RXv (w : World) (n : Bool) (xs : List Int) (k : Nat) (ys : List Int) (l : Nat) (x : Ending) (w' : World) : Prop := ∃ a ca b cb, x = .returned (.agg #[.bool n, .slice a k ca, .slice b l cb]) ∧ Hid (Sl w' (.slice a k ca) xs ∧ Sl w' (.slice b l cb) ys) ∧ Below w.heap.size w w'
def RXe (w : World) (c : Int) (x : Ending) (w' : World) : Prop := ∃ a ca b cb, x = .returned (.tuple #[.agg #[.bool false, .slice a 0 ca, .slice b 0 cb], .int .i64 c]) ∧ Below w.heap.size w w'
/-- What is known of a fraction's words. -/
structure RXn (n : Bool) (xs : List Int) (k : Nat) (ys : List Int) (l : Nat) (q : Rat) : Prop where
  wx : Wd xs
  wy : Wd ys
  chk : rchk n xs ys = 0
  num : rq n xs ys = q
  lx : xs.length = k
  ly : ys.length = l
theorem rxk_of {f : Nat} {args : Array Value} {w : World} {q : Rat} {n : Bool} {xs : List Int} {k : Nat} {ys : List Int} {l : Nat} (H : Calls Tryz.prog f args w (RToldA w 0 q)) (K : RXn n xs k ys l q) : Calls Tryz.prog f args w (RXk w n xs k ys l) := by
  refine Calls.mono H ?_
  rintro x w' ⟨m, v, us, u, vs, code, rfl, o1, o2, t, hb, _⟩
  obtain ⟨rfl, rfl, rfl, rfl⟩ := t.lit rfl K.wx K.wy K.chk K.num
  obtain ⟨a1, c1, rfl⟩ := own_slice' o1
  obtain ⟨b1, d1, rfl⟩ := own_slice' o2
  obtain rfl := K.lx
  obtain rfl := K.ly
  exact ⟨a1, c1, b1, d1, rfl, ⟨Sl.own o1 t.wx, Sl.own o2 t.wy⟩, hb⟩
theorem rxe_of {f : Nat} {args : Array Value} {w : World} {q : Rat} {e : Int} (H : Calls Tryz.prog f args w (RToldA w e q)) (he : e ≠ 0) : Calls Tryz.prog f args w (RXe w e) := by
  refine Calls.mono H ?_
  rintro x w' ⟨m, v, us, u, vs, code, rfl, o1, o2, t, hb, _⟩
  obtain ⟨rfl, rfl, rfl, rfl⟩ := t.bad he
  obtain ⟨a1, c1, rfl⟩ := own_slice' o1
  obtain ⟨b1, d1, rfl⟩ := own_slice' o2
  exact ⟨a1, c1, b1, d1, rfl, hb⟩
theorem rx_small (x y : Int) {n : Bool} {xs : List Int} {k : Nat} {ys : List Int} {l : Nat} (w : World) (x0 : -9223372036854775808 ≤ x) (x1 : x ≤ 9223372036854775807) (y0 : -9223372036854775808 ≤ y) (y1 : y ≤ 9223372036854775807) (h0 : y ≠ 0) (K : RXn n xs k ys l (Rat.divInt x y)) : Calls Tryz.prog 6 #[.int .i64 x, .int .i64 y] w (RXv w n xs k ys l) := by
  have H := lawSmall_any x y w x0 x1 y0 y1
  rw [if_neg h0] at H
  refine Calls.mono H ?_
  rintro x w' ⟨m, v, us, u, vs, code, rfl, o1, o2, t, hb, _⟩
  obtain ⟨rfl, rfl, rfl, rfl⟩ := t.lit rfl K.wx K.wy K.chk K.num
  obtain ⟨a1, c1, rfl⟩ := own_slice' o1
  obtain ⟨b1, d1, rfl⟩ := own_slice' o2
  obtain rfl := K.lx
  obtain rfl := K.ly
  exact ⟨a1, c1, b1, d1, rfl, ⟨Sl.own o1 t.wx, Sl.own o2 t.wy⟩, hb⟩
theorem rx_Small (x y : Int) {n : Bool} {xs : List Int} {k : Nat} {ys : List Int} {l : Nat} (w : World) (x0 : -9223372036854775808 ≤ x) (x1 : x ≤ 9223372036854775807) (y0 : -9223372036854775808 ≤ y) (y1 : y ≤ 9223372036854775807) (h0 : y ≠ 0) (K : RXn n xs k ys l (Rat.divInt x y)) : Calls Tryz.prog 4 #[.int .i64 x, .int .i64 y] w (RXk w n xs k ys l) := by
  have H := rsmall_any x y w x0 x1 y0 y1
  rw [if_neg h0] at H
  exact rxk_of H K
theorem rx_Small0 (w : World) : Calls Tryz.prog 4 #[.int .i64 1, .int .i64 0] w (RXe w 7) := by
  have H := rsmall_any 1 0 w (by decide) (by decide) (by decide) (by decide)
  rw [if_pos rfl] at H
  exact rxe_of H (by decide)
-- the known fractions
theorem xk_lit (n : Bool) (x y : Int) (q : Rat) (hx : 0 < x ∧ x < 4294967296) (hy : 0 < y ∧ y < 4294967296) (hg : gcdI x y = 1) (hq : Rat.divInt (sg n x) y = q) : RXn n [x] 1 [y] 1 q :=
  ⟨Wd.one ⟨by omega, by omega⟩, Wd.one ⟨by omega, by omega⟩, chk_lit n x y hx hy hg, by rw [rq_lit]; exact hq, rfl, rfl⟩
theorem xk_zero (q : Rat) (hq : q = 0) : RXn false [] 0 [1] 1 q := ⟨Wd.nil, Wd.one ⟨by omega, by omega⟩, rchk_zero, by rw [hq]; exact rsq_zero, rfl, rfl⟩
theorem x12 : RXn false [1] 1 [2] 1 (Rat.divInt 1 2) := xk_lit _ _ _ _ (by decide) (by decide) (by decide) (by decide +kernel)
theorem x13 : RXn false [1] 1 [3] 1 (Rat.divInt 1 3) := xk_lit _ _ _ _ (by decide) (by decide) (by decide) (by decide +kernel)
theorem x16 : RXn false [1] 1 [6] 1 (Rat.divInt 1 6) := xk_lit _ _ _ _ (by decide) (by decide) (by decide) (by decide +kernel)
theorem x11 : RXn false [1] 1 [1] 1 (Rat.divInt 1 1) := xk_lit _ _ _ _ (by decide) (by decide) (by decide) (by decide +kernel)
theorem xm32 : RXn true [3] 1 [2] 1 (Rat.divInt (-3) 2) := xk_lit _ _ _ _ (by decide) (by decide) (by decide) (by decide +kernel)
theorem x43 : RXn false [4] 1 [3] 1 (Rat.divInt 4 3) := xk_lit _ _ _ _ (by decide) (by decide) (by decide) (by decide +kernel)
theorem xm2 : RXn true [2] 1 [1] 1 (rq true [3] [2] * rq false [4] [3]) := xk_lit _ _ _ _ (by decide) (by decide) (by decide) (by rw [rq_lit, rq_lit]; decide +kernel)
theorem x0s : RXn false [] 0 [1] 1 (rq false [1] [2] - rq false [1] [2]) := xk_zero _ (by rw [rq_lit]; decide +kernel)
theorem x07 : RXn false [] 0 [1] 1 (Rat.divInt 0 (-7)) := xk_zero _ (by decide +kernel)
theorem xleast : RXn true [0, 2147483648] 2 [1] 1 (Rat.divInt (-9223372036854775808) 1) :=
  ⟨fun z hz => by
    simp at hz
    rcases hz with rfl | rfl <;> omega, Wd.one ⟨by omega, by omega⟩, rchk_good (by simp) (by simp) rfl rfl (by simp) (.inr (by simp)) (by decide +kernel), by decide +kernel, rfl, rfl⟩
/-- What is a fraction's text. -/
theorem tx0 : ([48] : List UInt8) = rtext false [] [1] := by decide +kernel
theorem txm2 : ([45, 50] : List UInt8) = rtext true [2] [1] := t21
theorem tx1 : ([49] : List UInt8) = rtext false [1] [1] := by decide +kernel
theorem txleast : ([45, 57, 50, 50, 51, 51, 55, 50, 48, 51, 54, 56, 53, 52, 55, 55, 53, 56, 48, 56] : List UInt8) = rtext true [0, 2147483648] [1] := by decide +kernel
theorem rx_is (n : Bool) (a : Option Addr) (ca : Nat) (xs : List Int) (b : Option Addr) (cb : Nat) (ys : List Int) (k l : Nat) (q : Rat) (t : ByteArray) (w : World) (s : Sl w (.slice a k ca) xs ∧ Sl w (.slice b l cb) ys) (K : RXn n xs k ys l q) (ht : t.data.toList = rtext n xs ys) (htab : Tab w) :
    Calls Tryz.prog 10 #[.agg #[.bool n, .slice a k ca, .slice b l cb], .int .i64 0, .string t] w fun e w' => e = .returned (.bool true) ∧ Below w.heap.size w w' := by
  obtain rfl := K.lx
  obtain rfl := K.ly
  exact lawIs_yes n a ca xs b cb ys t w s.1 s.2 K.chk ht htab
theorem rx_parse (t : ByteArray) (w : World) (hs : t.size ≤ 65536) (h : ¬ rgood t.data.toList) : Calls Tryz.prog 11 #[.string t] w (RXe w 130) := by
  have H := rparse_any t w hs
  rw [prErr_bad hs h] at H
  exact rxe_of H (by decide)
theorem xb0 : ¬ rgood ([] : List UInt8) := by unfold rgood IsNum Dg; decide +kernel
theorem xb1 : ¬ rgood ([52, 47, 50] : List UInt8) := by unfold rgood IsNum Dg; decide +kernel
theorem xb2 : ¬ rgood ([51, 47, 49] : List UInt8) := by unfold rgood IsNum Dg; decide +kernel
theorem xb3 : ¬ rgood ([45, 48] : List UInt8) := by unfold rgood IsNum Dg; decide +kernel
theorem xb4 : ¬ rgood ([43, 49] : List UInt8) := by unfold rgood IsNum Dg; decide +kernel
theorem xb5 : ¬ rgood ([49, 47, 48] : List UInt8) := by unfold rgood IsNum Dg; decide +kernel
theorem xb6 : ¬ rgood ([48, 49] : List UInt8) := by unfold rgood IsNum Dg; decide +kernel
theorem xb7 : ¬ rgood ([49, 47] : List UInt8) := by unfold rgood IsNum Dg; decide +kernel
theorem xb8 : ¬ rgood ([47, 50] : List UInt8) := by unfold rgood IsNum Dg; decide +kernel
theorem xb9 : ¬ rgood ([49, 32, 47, 50] : List UInt8) := by unfold rgood IsNum Dg; decide +kernel
theorem xb10 : ¬ rgood ([49, 47, 50, 47, 51] : List UInt8) := by unfold rgood IsNum Dg; decide +kernel
theorem xb11 : ¬ rgood ([48, 47, 53] : List UInt8) := by unfold rgood IsNum Dg; decide +kernel
theorem xb12 : ¬ rgood ([45, 45, 49] : List UInt8) := by unfold rgood IsNum Dg; decide +kernel
theorem xb13 : ¬ rgood ([49, 47, 45, 50] : List UInt8) := by unfold rgood IsNum Dg; decide +kernel
theorem xb14 : ¬ rgood ([45] : List UInt8) := by unfold rgood IsNum Dg; decide +kernel
theorem xb15 : ¬ rgood ([49, 46, 53] : List UInt8) := by unfold rgood IsNum Dg; decide +kernel
end Go.Proofs.YtmncfbjoplfikaaGreatDoor

/- What RatioNames wants: sums, floors and fractions made of known numbers; rows and boxes that a statement makes in any order. -/
namespace Go.Proofs.YtmncfbjoplfikaaGreatDoor
open Go.RowKit Go.Lib
set_option linter.unusedVariables false

theorem rx_sub (a : Option Addr) (ca : Nat) (b : Option Addr) (cb : Nat) (c : Option Addr) (cc : Nat) (d : Option Addr) (cd : Nat) (V : World) (s : Sl V (.slice a 1 ca) [1] ∧ Sl V (.slice b 1 cb) [2]) (t : Sl V (.slice c 1 cc) [1] ∧ Sl V (.slice d 1 cd) [2]) : Calls Tryz.prog 5 #[.agg #[.bool false, .slice a 1 ca, .slice b 1 cb], .agg #[.bool false, .slice c 1 cc, .slice d 1 cd]] V (RXk V false [] 0 [1] 1) :=
  rxk_of (rSub_ok false a ca [1] b cb [2] false c cc [1] d cd [2] V s.1 s.2 t.1 t.2 x12.chk x12.chk) x0s
theorem rx_mul (a : Option Addr) (ca : Nat) (b : Option Addr) (cb : Nat) (c : Option Addr) (cc : Nat) (d : Option Addr) (cd : Nat) (V : World) (s : Sl V (.slice a 1 ca) [3] ∧ Sl V (.slice b 1 cb) [2]) (t : Sl V (.slice c 1 cc) [4] ∧ Sl V (.slice d 1 cd) [3]) : Calls Tryz.prog 7 #[.agg #[.bool true, .slice a 1 ca, .slice b 1 cb], .agg #[.bool false, .slice c 1 cc, .slice d 1 cd]] V (RXk V true [2] 1 [1] 1) :=
  rxk_of (rMul_ok true a ca [3] b cb [2] false c cc [4] d cd [3] V s.1 s.2 t.1 t.2 xm32.chk x43.chk) xm2
theorem x0c : rchk false [] [1] = 0 := rchk_zero
/-- Divided by nothing. -/
theorem rx_quo0 (a : Option Addr) (ca : Nat) (b : Option Addr) (cb : Nat) (c : Option Addr) (cc : Nat) (d : Option Addr) (cd : Nat) (V : World) (s : Sl V (.slice a 1 ca) [1] ∧ Sl V (.slice b 1 cb) [1]) (t : Sl V (.slice c 0 cc) [] ∧ Sl V (.slice d 1 cd) [1]) : Calls Tryz.prog 8 #[.agg #[.bool false, .slice a 1 ca, .slice b 1 cb], .agg #[.bool false, .slice c 0 cc, .slice d 1 cd]] V (RXe V 7) :=
  rxe_of (rQuo_z false a ca [1] b cb [1] false c cc [] d cd [1] V s.1 s.2 t.1 t.2 x11.chk x0c rfl 0) (by decide)
theorem xc24 : rchk false [2] [4] = 11 := by
  unfold rchk
  rw [if_neg (by decide), if_neg (fun h => absurd h.2.2.2 (by decide))]
theorem xc10 : rchk false [1] [] = 11 := by
  unfold rchk
  rw [if_neg (by decide), if_neg (fun h => absurd h.2.1 (by decide))]
theorem xclong {xs ys : List Int} (h : 2048 < xs.length) : rchk false xs ys = 3 := by unfold rchk; rw [if_pos (by omega)]
theorem rx_add_rough (a : Option Addr) (ca : Nat) (b : Option Addr) (cb : Nat) (c : Option Addr) (cc : Nat) (d : Option Addr) (cd : Nat) (V : World) (s : Sl V (.slice a 1 ca) [2] ∧ Sl V (.slice b 1 cb) [4]) (t : Sl V (.slice c 0 cc) [] ∧ Sl V (.slice d 1 cd) [1]) : Calls Tryz.prog 9 #[.agg #[.bool false, .slice a 1 ca, .slice b 1 cb], .agg #[.bool false, .slice c 0 cc, .slice d 1 cd]] V (RXe V 11) := by
  have e : rboth false [2] [4] false [] [1] = 11 := by unfold rboth; rw [xc24]; rfl
  have H := rAdd_err false a ca [2] b cb [4] false c cc [] d cd [1] V s.1 s.2 t.1 t.2 (by rw [e]; decide) 0
  rw [e] at H
  exact rxe_of H (by decide)
def zs49 : List Int := List.replicate 2049 0
theorem zs49_len : zs49.length = 2049 := List.length_replicate
theorem zs49_wd : Wd zs49 := Wd.replicate 2049
theorem rx_add_long (a : Option Addr) (ca : Nat) (b : Option Addr) (cb : Nat) (c : Option Addr) (cc : Nat) (d : Option Addr) (cd : Nat) (V : World) (s1 : Sl V (.slice a 2049 ca) zs49) (s2 : Sl V (.slice b 1 cb) [1]) (t : Sl V (.slice c 0 cc) [] ∧ Sl V (.slice d 1 cd) [1]) : Calls Tryz.prog 9 #[.agg #[.bool false, .slice a 2049 ca, .slice b 1 cb], .agg #[.bool false, .slice c 0 cc, .slice d 1 cd]] V (RXe V 3) := by
  have l := zs49_len
  have e0 : rchk false zs49 [1] = 3 := xclong (by omega)
  have e : rboth false zs49 [1] false [] [1] = 3 := by unfold rboth; rw [e0]; rfl
  have H := rAdd_err false a ca zs49 b cb [1] false c cc [] d cd [1] V (by rw [l]; exact s1) s2 t.1 t.2 (by rw [e]; decide) 0
  rw [e, l] at H
  exact rxe_of H (by decide)
-- rows that are made
def rxRowN (n : Nat) : Obj := .cells (madeCells #[.int .u32 0] n) 30
theorem rx_makeN (n : Int) (hn : 0 ≤ n ∧ n ≤ 4096) (w : World) : (Instr.makeSlice 22 (.int .i64 n) (.int .i64 n)).run Tryz.prog w = .ok (.slice (some ⟨w.heap.size, 0, none⟩) n.toNat n.toNat) (w.alloc (rxRowN n.toNat)) := by
  obtain ⟨i0, hi, hz0, hz1, hz2⟩ := info_parts Tryz.infoW
  have := run_make (P := Tryz.prog) w 22 30 i0 (.int .u32 0) Tryz.underlying22 hi hz0 .i64 .i64 n n (by omega) (by omega) (by rw [hz2]; omega) (by omega)
  rw [hz1, show (Value.int .u32 0).cells = #[Value.int .u32 0] from rfl, Nat.mul_one] at this
  exact this
theorem rx_make (w : World) : (Instr.makeSlice 22 (.int .i64 2049) (.int .i64 2049)).run Tryz.prog w = .ok (.slice (some ⟨w.heap.size, 0, none⟩) 2049 2049) (w.alloc (rxRowN 2049)) := rx_makeN 2049 (by decide) w
theorem rx_sl_box {W : World} {g n : Nat} {ys : List Int} (h : Box W g 30 (ys.map (Value.int .u32)).toArray) (hl : ys.length = n) (hw : Wd ys) (hm : n ≤ maxLen) : Sl W (.slice (some ⟨g, 0, none⟩) n n) ys := by
  have h2 : W.ownsRow 0 30 1 (.slice (some ⟨g, 0, none⟩) n n) n (ys.map (Value.int .u32)) := whole_row h (by simp [hl]) (Nat.zero_le _) hm
  subst hl
  exact Sl.own h2 hw
theorem rx_sl_rep {W : World} {g : Nat} (n : Nat) (h : Box W g 30 (madeCells #[.int .u32 0] n)) (hm : n ≤ maxLen) : Sl W (.slice (some ⟨g, 0, none⟩) n n) (List.replicate n 0) := by
  have e : madeCells #[.int .u32 0] n = ((List.replicate n (0 : Int)).map (Value.int .u32)).toArray := by rw [← made_words]
  rw [e] at h
  exact rx_sl_box h List.length_replicate (Wd.replicate n) hm
theorem rx_sl_one {W : World} {g : Nat} {x : Int} (h : Box W g 30 #[.int .u32 x]) (h0 : 0 ≤ x ∧ x ≤ 4294967295) : Sl W (.slice (some ⟨g, 0, none⟩) 1 1) [x] := rx_sl_box (ys := [x]) h rfl (Wd.one h0) (by decide)
theorem rx_balloc1 {a w : World} (h : Below a.heap.size a w) (o : Obj) : Below a.heap.size a (w.alloc o) := bt h (alloc_later _ _)
theorem rx_at1 (V : World) (vs : Array Value) (t : Nat) (o1 : Obj) : Box ((V.alloc (.cells vs t)).alloc o1) V.heap.size t vs := (Box.made V t vs).later (alloc_later _ _) (Box.made V t vs).lt
theorem rx_at1' (V : World) (vs : Array Value) (t : Nat) (o1 o2 : Obj) : Box (((V.alloc (.cells vs t)).alloc o1).alloc o2) V.heap.size t vs := (rx_at1 V vs t o1).later (alloc_later _ _) (rx_at1 V vs t o1).lt
theorem rx_at2 (V : World) (vs : Array Value) (t : Nat) (o0 : Obj) : Box ((V.alloc o0).alloc (.cells vs t)) (V.heap.size + 1) t vs := by
  have e := Box.made (V.alloc o0) t vs
  rw [show (V.alloc o0).heap.size = V.heap.size + 1 by simp] at e
  exact e
theorem rx_at2' (V : World) (vs : Array Value) (t : Nat) (o0 o2 : Obj) : Box (((V.alloc o0).alloc (.cells vs t)).alloc o2) (V.heap.size + 1) t vs := (rx_at2 V vs t o0).later (alloc_later _ _) (rx_at2 V vs t o0).lt
theorem rx_at3 (V : World) (vs : Array Value) (t : Nat) (o0 o1 : Obj) : Box (((V.alloc o0).alloc o1).alloc (.cells vs t)) (V.heap.size + 1 + 1) t vs := by
  have e := Box.made ((V.alloc o0).alloc o1) t vs
  rw [show ((V.alloc o0).alloc o1).heap.size = V.heap.size + 1 + 1 by simp] at e
  exact e
/-- A long row of nothings, wherever it was made. -/
def RxLong (W : World) (g n : Nat) : Prop := Box W g 30 (madeCells #[.int .u32 0] n)
theorem rxl1 (V : World) (n : Nat) (o1 : Obj) : RxLong ((V.alloc (rxRowN n)).alloc o1) V.heap.size n := rx_at1 V _ _ o1
theorem rxl1' (V : World) (n : Nat) (o1 o2 : Obj) : RxLong (((V.alloc (rxRowN n)).alloc o1).alloc o2) V.heap.size n := rx_at1' V _ _ o1 o2
theorem rxl2 (V : World) (n : Nat) (o0 : Obj) : RxLong ((V.alloc o0).alloc (rxRowN n)) (V.heap.size + 1) n := rx_at2 V _ _ o0
theorem rxl2' (V : World) (n : Nat) (o0 o2 : Obj) : RxLong (((V.alloc o0).alloc (rxRowN n)).alloc o2) (V.heap.size + 1) n := rx_at2' V _ _ o0 o2
theorem rxl3 (V : World) (n : Nat) (o0 o1 : Obj) : RxLong (((V.alloc o0).alloc o1).alloc (rxRowN n)) (V.heap.size + 1 + 1) n := rx_at3 V _ _ o0 o1
theorem rxl_drew {W : World} {g n : Nat} (h : RxLong W g n) : RxLong W.drew g n := h
theorem rx_bdrew {W : World} {g t : Nat} {vs : Array Value} (h : Box W g t vs) : Box W.drew g t vs := h
theorem rx_sl_lng {W : World} {g : Nat} (h : RxLong W g 2049) : Sl W (.slice (some ⟨g, 0, none⟩) 2049 2049) zs49 := rx_sl_rep 2049 h (by decide)
theorem rx_make49 : ∃ M : Array Value, (∀ ww, (Instr.makeSlice 22 (.int .i64 2049) (.int .i64 2049)).run Tryz.prog ww = .ok (.slice (some ⟨ww.heap.size, 0, none⟩) 2049 2049) (ww.alloc (.cells M 30))) ∧ ∀ (W : World) (g : Nat), Box W g 30 M → Sl W (.slice (some ⟨g, 0, none⟩) 2049 2049) zs49 :=
  ⟨madeCells #[.int .u32 0] 2049, fun ww => rx_make ww, fun W g h => rx_sl_rep 2049 h (by decide)⟩
theorem rx_put3 {B : Nat} {a w : World} (h : Below B a w) (b : Nat) (hb : B ≤ b) (v0 v1 v2 : Value) : Below B a (((w.setCell ⟨b, 0, none⟩ v0).setCell ⟨b, 1, none⟩ v1).setCell ⟨b, 2, none⟩ v2) := below_put3 h b hb v0 v1 v2
theorem rx3_alloc {V : World} {p : Nat} {n : Bool} {v u : Value} (h : V.cell? ⟨p, 0, none⟩ = some (.bool n) ∧ V.cell? ⟨p, 1, none⟩ = some v ∧ V.cell? ⟨p, 2, none⟩ = some u) (o : Obj) : (V.alloc o).cell? ⟨p, 0, none⟩ = some (.bool n) ∧ (V.alloc o).cell? ⟨p, 1, none⟩ = some v ∧ (V.alloc o).cell? ⟨p, 2, none⟩ = some u := by
  have k : ∀ j v, V.cell? ⟨p, j, none⟩ = some v → (V.alloc o).cell? ⟨p, j, none⟩ = some v := by
    intro j v h
    have hlt : p < V.heap.size := by
      rcases Nat.lt_or_ge p V.heap.size with g | g
      · exact g
      · exfalso
        have e : V.heap[p]? = none := Array.getElem?_eq_none g
        simp [World.cell?, e] at h
    exact ((alloc_later V o).cell (p := ⟨p, j, none⟩) hlt).trans h
  exact ⟨k 0 _ h.1, k 1 _ h.2.1, k 2 _ h.2.2⟩
-- sums
def sel3 {α : Type} (x y z : α) (j : Nat) : α := match j with | 0 => x | 1 => y | _ => z
theorem xsum3 : rsums (fun _ => false) (fun _ => [1]) (sel3 [2] [3] [6]) 1 = Rat.divInt 1 2 ∧ rsums (fun _ => false) (fun _ => [1]) (sel3 [2] [3] [6]) 2 = Rat.divInt 5 6 ∧ rsums (fun _ => false) (fun _ => [1]) (sel3 [2] [3] [6]) 3 = Rat.divInt 1 1 := by
  refine ⟨?_, ?_, ?_⟩ <;> simp only [rsums, sel3, rq_lit] <;> decide +kernel
theorem xnl : ¬ rlong (Rat.divInt 1 2) ∧ ¬ rlong (Rat.divInt 5 6) ∧ ¬ rlong (Rat.divInt 1 1) := by unfold rlong; decide +kernel
theorem rx_sum3 (g : Nat) (a0 : Option Addr) (c0 : Nat) (b0 : Option Addr) (d0 : Nat) (a1 : Option Addr) (c1 : Nat) (b1 : Option Addr) (d1 : Nat) (a2 : Option Addr) (c2 : Nat) (b2 : Option Addr) (d2 : Nat) (V : World) (hb : Box V g 24 #[.bool false, .slice a0 1 c0, .slice b0 1 d0, .bool false, .slice a1 1 c1, .slice b1 1 d1, .bool false, .slice a2 1 c2, .slice b2 1 d2])
    (s0 : Sl V (.slice a0 1 c0) [1] ∧ Sl V (.slice b0 1 d0) [2]) (s1 : Sl V (.slice a1 1 c1) [1] ∧ Sl V (.slice b1 1 d1) [3]) (s2 : Sl V (.slice a2 1 c2) [1] ∧ Sl V (.slice b2 1 d2) [6]) :
    Calls Tryz.prog 12 #[.slice (some ⟨g, 0, none⟩) 3 3] V fun x w' => ∃ a c b d, x = .returned (.tuple #[.agg #[.bool false, .slice a 1 c, .slice b 1 d], .agg #[.int .i64 0, .int .i64 0]]) ∧ Hid (Sl w' (.slice a 1 c) [1] ∧ Sl w' (.slice b 1 d) [1]) ∧ Below V.heap.size V w' := by
  have H := rSum_any g 0 3 3 (fun _ => false) (sel3 a0 a1 a2) (sel3 c0 c1 c2) (fun _ => [1]) (sel3 b0 b1 b2) (sel3 d0 d1 d2) (sel3 [2] [3] [6]) V (some ⟨g, 0, none⟩) (.inr ⟨rfl, ⟨hb.lt, fun j hj => by
      rcases j with _ | _ | _ | j
      · exact ⟨hb.cell 0, hb.cell 1, hb.cell 2⟩
      · exact ⟨hb.cell 3, hb.cell 4, hb.cell 5⟩
      · exact ⟨hb.cell 6, hb.cell 7, hb.cell 8⟩
      · omega, fun j hj => by
      rcases j with _ | _ | _ | j
      · exact s0.1
      · exact s1.1
      · exact s2.1
      · omega, fun j hj => by
      rcases j with _ | _ | _ | j
      · exact s0.2
      · exact s1.2
      · exact s2.2
      · omega⟩⟩) (by decide) (by decide)
  refine Calls.mono H ?_
  rintro x w' ⟨n, v, xs, u, ys, err, loc, rfl, o1, o2, ⟨wx, wy, hS⟩, hb', _⟩
  have hE : ∀ i, i < 3 → rchk false [1] (sel3 [2] [3] [6] i) = 0 := by
    intro i hi
    rcases i with _ | _ | _ | i
    · exact x12.chk
    · exact x13.chk
    · exact x16.chk
    · omega
  rcases hS with ⟨j, hj, _, h2, _⟩ | ⟨_, k, hk, _, h2, _⟩ | ⟨_, _, hc, hq, rfl, rfl⟩
  · exact absurd (hE j hj) h2
  · exfalso
    obtain ⟨q1, q2, q3⟩ := xsum3
    obtain ⟨n1, n2, n3⟩ := xnl
    rcases k with _ | _ | _ | k
    · rw [q1] at h2; exact n1 h2
    · rw [q2] at h2; exact n2 h2
    · rw [q3] at h2; exact n3 h2
    · omega
  · obtain ⟨rfl, rfl, rfl⟩ := rsame_good wx wy x11.wx x11.wy hc x11.chk (hq.trans (xsum3.2.2.trans x11.num.symm))
    obtain ⟨a, c, rfl⟩ := own_slice' o1
    obtain ⟨b, d, rfl⟩ := own_slice' o2
    exact ⟨a, c, b, d, rfl, ⟨Sl.own o1 wx, Sl.own o2 wy⟩, hb'⟩
theorem rx_nil (w : World) : Sl w (.slice none 0 0) [] := ⟨none, 0, rfl, rfl, Wd.nil, .inl rfl, Nat.le_refl _, Nat.zero_le _, fun _ => rfl⟩
theorem rx_sum2 (g : Nat) (a0 : Option Addr) (c0 : Nat) (b0 : Option Addr) (d0 : Nat) (h : Nat) (V : World) (hb : Box V g 24 #[.bool false, .slice a0 1 c0, .slice b0 1 d0, .bool false, .slice (some ⟨h, 0, none⟩) 1 1, .slice none 0 0])
    (s0 : Sl V (.slice a0 1 c0) [1] ∧ Sl V (.slice b0 1 d0) [1]) (s1 : Sl V (.slice (some ⟨h, 0, none⟩) 1 1) [1]) :
    Calls Tryz.prog 12 #[.slice (some ⟨g, 0, none⟩) 2 2] V fun x w' => ∃ a c b d, x = .returned (.tuple #[.agg #[.bool false, .slice a 0 c, .slice b 0 d], .agg #[.int .i64 11, .int .i64 1]]) ∧ Below V.heap.size V w' := by
  have H := rSum_any g 0 2 2 (fun _ => false) (sel3 a0 (some ⟨h, 0, none⟩) none) (sel3 c0 1 0) (fun _ => [1]) (sel3 b0 none none) (sel3 d0 0 0) (sel3 [1] [] []) V (some ⟨g, 0, none⟩) (.inr ⟨rfl, ⟨hb.lt, fun j hj => by
      rcases j with _ | _ | j
      · exact ⟨hb.cell 0, hb.cell 1, hb.cell 2⟩
      · exact ⟨hb.cell 3, hb.cell 4, hb.cell 5⟩
      · omega, fun j hj => by
      rcases j with _ | _ | j
      · exact s0.1
      · exact s1
      · omega, fun j hj => by
      rcases j with _ | _ | j
      · exact s0.2
      · exact rx_nil V
      · omega⟩⟩) (by decide) (by decide)
  refine Calls.mono H ?_
  rintro x w' ⟨n, v, xs, u, ys, err, loc, rfl, o1, o2, ⟨wx, wy, hS⟩, hb', _⟩
  have e1 : rchk false [1] (sel3 [1] [] [] 1) = 11 := xc10
  have e0 : rchk false [1] (sel3 [1] [] [] 0) = 0 := x11.chk
  rcases hS with ⟨j, hj, h1, h2, rfl, rfl, rfl, rfl, rfl⟩ | ⟨hE, _⟩ | ⟨hE, _⟩
  · rcases j with _ | _ | j
    · exact absurd e0 h2
    · obtain ⟨a, c, rfl⟩ := own_slice' o1
      obtain ⟨b, d, rfl⟩ := own_slice' o2
      refine ⟨a, c, b, d, ?_, hb'⟩
      show Ending.returned (.tuple #[.agg #[.bool false, .slice a 0 c, .slice b 0 d], .agg #[.int .i64 (rchk false [1] (sel3 [1] [] [] 1)), .int .i64 1]]) = _
      rw [e1]
    · omega
  · exact absurd (hE 1 (by decide)) (by show rchk false [1] (sel3 [1] [] [] 1) ≠ 0; rw [e1]; decide)
  · exact absurd (hE 1 (by decide)) (by show rchk false [1] (sel3 [1] [] [] 1) ≠ 0; rw [e1]; decide)
-- whole numbers
structure RxW (x : Int) (n : Bool) (zs : List Int) (k : Nat) : Prop where
  wd : Wd zs
  chk : wchk n zs = 0
  num : wval n zs = x
  len : zs.length = k
theorem rxw1 (n : Bool) (z x : Int) (h : 0 < z ∧ z ≤ 4294967295) (e : (if n then -z else z) = x) : RxW x n [z] 1 := by
  refine ⟨Wd.one ⟨by omega, by omega⟩, wchk_good (by simp) (trim_one (by omega)) (.inr (by simp)), ?_, rfl⟩
  rw [← e]; cases n <;> simp [wval, val, valTo]
theorem rxw0 : RxW 0 false [] 0 := ⟨Wd.nil, by decide, by decide, rfl⟩
theorem rx_lim {n : Bool} {zs : List Int} (wz : Wd zs) (hz : wchk n zs = 0) : -wlim < wval n zs ∧ wval n zs < wlim := by
  have h1 := below2048 wz (wchk_ok hz).1
  have h2 := val_nonneg wz
  cases n <;> simp [wval] <;> omega
/-- The floor of a known fraction. -/
theorem rx_floor_reg (X : World) {n : Bool} {xs : List Int} {k : Nat} {ys : List Int} {l : Nat} {q : Rat} (K : RXn n xs k ys l q) {t : Int} {m : Bool} {zs : List Int} {kz : Nat} (L : RxW t m zs kz) (he : wval n xs / val ys = t) (V : World) (a : Option Addr) (ca : Nat) (b : Option Addr) (cb : Nat) (hv : Below X.heap.size X V) (s : Sl V (.slice a k ca) xs ∧ Sl V (.slice b l cb) ys) :
    Calls Tryz.prog 13 #[.agg #[.bool n, .slice a k ca, .slice b l cb]] V fun e w' => ∃ a1 c1, e = .returned (.tuple #[.agg #[.bool m, .slice a1 kz c1], .int .i64 0]) ∧ Below X.heap.size X w' ∧ Below V.heap.size V w' ∧ Hid (w'.ownsRow X.heap.size 30 1 (.slice a1 kz c1) zs.length (zs.map (Value.int .u32))) := by
  obtain rfl := K.lx
  obtain rfl := K.ly
  have H := rFloor_ok n a ca xs b cb ys V s.1 s.2 K.chk
  rw [he] at H
  refine Calls.mono H ?_
  rintro e w' ⟨m', v, us, code, rfl, o, ht, hb⟩
  have hl := rx_lim L.wd L.chk
  rw [L.num] at hl
  obtain ⟨rfl, vy⟩ := ht.good rfl hl.1 hl.2
  obtain ⟨_, tz, sz⟩ := wchk_ok L.chk
  obtain ⟨rfl, rfl⟩ := wsame' L.wd ht.wd tz ht.trim sz ht.sign (L.num.trans vy.symm)
  obtain ⟨a1, c1, hs⟩ := own_slice' o
  subst hs
  obtain rfl := L.len
  exact ⟨a1, c1, rfl, bt hv hb, hb, owns_base o hv.size⟩
structure RxCut (X : World) (m : Bool) (zs : List Int) (kz : Nat) (s28 s29 : Value) (wx : World) : Prop where
  ex : ∃ (p : Nat) (a1 : Option Addr) (c1 : Nat), s28 = .pointer (some ⟨p, 0, none⟩) ∧ s29 = .int .i64 0 ∧ Box wx p 41 #[.bool m, .slice a1 kz c1] ∧ wx.ownsRow X.heap.size 30 1 (.slice a1 kz c1) zs.length (zs.map (Value.int .u32))
  bel : Below X.heap.size X wx
theorem rx_new {X z2 : World} {m : Bool} {zs : List Int} {kz : Nat} {a1 : Option Addr} {c1 : Nat} (hb : Below X.heap.size X z2) (o : z2.ownsRow X.heap.size 30 1 (.slice a1 kz c1) zs.length (zs.map (Value.int .u32))) : RxCut X m zs kz (.pointer (some ⟨z2.heap.size, 0, none⟩)) (.int .i64 0) (z2.alloc (.cells #[.bool m, .slice a1 kz c1] 41)) := by
  have l := alloc_later z2 (.cells #[.bool m, .slice a1 kz c1] 41)
  exact ⟨⟨_, a1, c1, rfl, rfl, Box.made z2 _ _, owns_later o l⟩, bt hb l⟩
theorem rx_ne32 : 30 ≠ 41 := by decide
theorem rx_old {X z2 : World} {m : Bool} {zs : List Int} {kz : Nat} {a1 : Option Addr} {c1 : Nat} {p : Nat} {u0 u1 : Value} (hb : Below X.heap.size X z2) (o : z2.ownsRow X.heap.size 30 1 (.slice a1 kz c1) zs.length (zs.map (Value.int .u32))) (hp : Box z2 p 41 #[u0, u1]) (hl : X.heap.size ≤ p) : RxCut X m zs kz (.pointer (some ⟨p, 0, none⟩)) (.int .i64 0) ((z2.setCell ⟨p, 0, none⟩ (.bool m)).setCell ⟨p, 1, none⟩ (.slice a1 kz c1)) :=
  ⟨⟨_, a1, c1, rfl, rfl, (hp.set 0 _).set 1 _, own_put2 o p (own_ne_box o hp rx_ne32) _ _⟩, below_put2 hb p hl _ _⟩
/-- A whole number over 1. -/
theorem rx_made {t : Int} {m : Bool} {zs : List Int} {kz : Nat} (L : RxW t m zs kz) (K : RXn m zs kz [1] 1 (Rat.divInt t 1)) (a : Option Addr) (c : Nat) (b : Option Addr) (d : Nat) (V : World) (s : Sl V (.slice a kz c) zs) (u : Sl V (.slice b 1 d) [1]) : Calls Tryz.prog 14 #[.agg #[.bool m, .slice a kz c], .agg #[.bool false, .slice b 1 d]] V (RXk V m zs kz [1] 1) := by
  obtain rfl := L.len
  have c1 : RxW 1 false [1] 1 := rxw1 false 1 1 (by decide) (by decide)
  have H := rmake_ok m a c zs false b d [1] V s u (by have := (wchk_ok L.chk).1; omega) (by decide) L.chk c1.chk (by decide)
  rw [L.num, c1.num] at H
  exact rxk_of H K
theorem rx_make_z (b : Option Addr) (d : Nat) (V : World) (u : Sl V (.slice b 1 d) [1]) : Calls Tryz.prog 14 #[.agg #[.bool false, .slice b 1 d], .agg #[.bool false, .slice none 0 0]] V (RXe V 7) := by
  have c1 : RxW 1 false [1] 1 := rxw1 false 1 1 (by decide) (by decide)
  exact rxe_of (rmake_z false b d [1] false none 0 [] V u (rx_nil V) (by decide) (by decide) c1.chk rxw0.chk rfl 0) (by decide)
theorem xwneg : wchk true [] = 11 := by decide
theorem rx_make_n (V : World) : Calls Tryz.prog 14 #[.agg #[.bool true, .slice none 0 0], .agg #[.bool false, .slice none 0 0]] V (RXe V 11) := by
  have H := rmake_e1 true none 0 [] false none 0 [] V (rx_nil V) (rx_nil V) (by decide) (by decide) (by rw [xwneg]; decide) 0
  rw [xwneg] at H
  exact rxe_of H (by decide)
theorem rx_same {n : Bool} {xs : List Int} {k : Nat} {ys : List Int} {l : Nat} {q : Rat} (K : RXn n xs k ys l q) (a : Option Addr) (ca : Nat) (b : Option Addr) (cb : Nat) (c : Option Addr) (cc : Nat) (d : Option Addr) (cd : Nat) (V : World) (s : Sl V (.slice a k ca) xs ∧ Sl V (.slice b l cb) ys) (t : Sl V (.slice c k cc) xs ∧ Sl V (.slice d l cd) ys) : Calls Tryz.prog 15 #[.agg #[.bool n, .slice a k ca, .slice b l cb], .agg #[.bool n, .slice c k cc, .slice d l cd]] V fun e w' => e = .returned (.bool true) ∧ Below V.heap.size V w' := by
  obtain ⟨lx, ly, _⟩ := rchk_ok K.chk
  exact gsameRatio_eq n _ _ _ _ xs ys V s.1 s.2 t.1 t.2 (by omega) (by omega)
theorem rxFault (a b : Int) (w : World) : (Op.equalIn 10000 35 (.agg #[.int .i64 a, .int .i64 b]) (.agg #[.int .i64 a, .int .i64 b])).run Tryz.prog w = .ok true w := by
  have u1 := Tryz.underlying25
  have a1 := Tryz.isAgg25
  have z1 := Tryz.sizeOf25
  have u3 := Tryz.underlying3
  have a3 := Tryz.isAgg3
  have z3 := Tryz.sizeOf3
  have hS : Tryz.prog.underlying 35 = some (.struct (Tryz.prog.fieldsOf 35)) := by kernel_rfl
  rw [show (10000 : Nat) = 9999 + 1 from rfl, run_equalIn_agg w 9999 35 _ _ hS (by kernel_rfl)]
  simp only [Program.fieldsOf, Tryz.underlying35]
  go_simp
theorem rx_far {ww w' : World} (h : Below ww.heap.size ww w') : (∀ H, H < ww.heap.size → H < w'.heap.size) ∧ (∀ H j, H < ww.heap.size → w'.cell? ⟨H, j, none⟩ = ww.cell? ⟨H, j, none⟩) ∧ (∀ H j, H < ww.heap.size → w'.frozen? ⟨H, j, none⟩ = ww.frozen? ⟨H, j, none⟩) := ⟨fun H hl => Nat.lt_of_lt_of_le hl h.size, fun H j hl => h.cell (p := ⟨H, j, none⟩) hl, fun H j hl => h.frozen (p := ⟨H, j, none⟩) hl⟩
theorem rx_zero2 {W : World} {b : Nat} (h : Box W b 35 #[.int .i64 0, .int .i64 0]) : (W.cell? ⟨b, 0, none⟩ = some (.int .i64 0) ∧ W.cell? ⟨b, 1, none⟩ = some (.int .i64 0)) ∧ (W.frozen? ⟨b, 0, none⟩ = false ∧ W.frozen? ⟨b, 1, none⟩ = false) ∧ W.setCell ⟨b, 0, none⟩ (.int .i64 0) = W ∧ W.setCell ⟨b, 1, none⟩ (.int .i64 0) = W :=
  ⟨⟨h.cell 0, h.cell 1⟩, ⟨h.free 0, h.free 1⟩, h.same rfl, h.same rfl⟩
end Go.Proofs.YtmncfbjoplfikaaGreatDoor

