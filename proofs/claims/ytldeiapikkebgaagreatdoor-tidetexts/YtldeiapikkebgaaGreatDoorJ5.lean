/- My texts on the way to TideTexts, one behind the other: contracts of the program and of the document's answers. -/
import Derived.Test.YtldeiapikkebgaaGreatDoorJ1
import Derived.Test.YtldeiapikkebgaaGreatDoorJ2
import Derived.Test.YtldeiapikkebgaaGreatDoorJ3
import Derived.Test.YtldeiapikkebgaaGreatDoorShelf
import Derived.Lib.ItoaMem
import Derived.Lib.ItoaLen
import Derived.Lib.Walk
import Derived.Deep.LoopGhost
import Derived.Handy
import Derived.Laws.BytesString
import Derived.Laws.Cells
import Derived.Lib.IndexLaws
import Derived.Deep.RegionHeld3
import Derived.Deep.RegionLaw
import Derived.Laws.AppendOwnNone
/- strconv.FormatUint to the base 10 tells a number's digits: of every number of 64 bits, where the library's table of powers of ten stands as its text lays it. -/
namespace Go.Proofs.YtldeiapikkebgaaGreatDoor
open Go.RowKit Go.Lib Go.Sort
set_option linter.unusedVariables false

def Tab (w : World) : Prop := Lib.TabIs Tryz.prog w "internal/strconv.uint64pow10" .u64 Lib.pow10Tab
theorem Tab.later {w w' : World} (h : Tab w) (hb : Below w.heap.size w w') : Tab w' := by
  unfold Tab Lib.TabIs World.var? at *
  cases hg : Tryz.prog.globalNamed "internal/strconv.uint64pow10" with
  | none => simp [hg] at h
  | some g =>
    simp only [hg, Option.bind_some] at h ⊢
    have hlt : g < w.heap.size := by
      rcases Nat.lt_or_ge g w.heap.size with h' | h'
      · exact h'
      · rw [Array.getElem?_eq_none h'] at h; simp at h
    rw [hb.block g hlt]
    exact h

theorem holds_zero0 (w : World) (T : TypeId) (nd : Nat) (hs : nd ≤ 24) : Holds (fun (b : UInt8) => Value.int .u8 (b.toNat : Int)) (w.alloc (.cells zeros24 T)) w.heap.size 0 (Array.replicate nd (0 : UInt8)) := fun j hj => by
  have hj' : j < nd := by simpa using hj
  refine ⟨?_, World.frozen?_alloc_new _ _ _ _⟩
  rw [World.cell?_alloc_new, zeros24_at _ (by omega), getElem!_pos _ j hj]
  simp
theorem fin_pos0 (w : World) (o : Obj) (dk : Array UInt8) (k : Nat) : Below w.heap.size w ((putRow (fun (b : UInt8) => Value.int .u8 (b.toNat : Int)) (w.alloc o) w.heap.size 0 dk).drewN k) := by
  rw [alloc_eq_grow]
  obtain ⟨os', _, e⟩ := putRow_grow_new (fun (b : UInt8) => Value.int .u8 (b.toNat : Int)) w #[o] w.heap.size 0 dk (Nat.le_refl _)
  rw [e]
  refine ⟨rfl, rfl, rfl, ?_, fun j hj => ?_⟩
  · show w.heap.size ≤ (w.heap ++ os').size
    simp
  · show (w.heap ++ os')[j]? = _
    rw [Array.getElem?_append_left hj]

set_option maxHeartbeats 3200000 in
set_option maxRecDepth 100000 in
theorem formatUint_any (u : Nat) (hu64 : u < 18446744073709551616) (w : World) (htab : Tab w) :
    Calls Tryz.prog 114 #[.int .u64 u, .int .i64 10] w fun e w' => e = .returned (.string ⟨(Lib.decDigits u).toArray⟩) ∧ Below w.heap.size w w' := by
  by_cases hs : u < 100
  · have hlt : (u : Int) < 100 := by omega
    go_enter Tryz.func114, Tryz.ntmps114
    go_wp2_with fail
    refine (Tryz.internal_strconv_small u hs _).mono ?_
    rintro e w' ⟨rfl, rfl⟩
    go_wp2
    go_ret
    exact ⟨rfl, Below.refl _ _⟩
  · have hu1 : 1 ≤ u := by omega
    have hge : ¬ (u : Int) < 100 := by omega
    have hnd20 : Lib.nDigits u ≤ 20 := nDigits_le20 u hu64
    have hnd24 : Lib.nDigits u ≤ 24 := by omega
    have hal : Tryz.prog.arrayLen 137 = 24 := by kernel_rfl
    have hsl : ∀ W, (Instr.sliceAt 137 (.pointer (some ⟨w.heap.size, 0, none⟩)) none (some (.int .i64 (Lib.nDigits u : Int))) none).run Tryz.prog W = .ok (.slice (some ⟨w.heap.size, 0, none⟩) (Lib.nDigits u) 24) W := fun W => by
      rw [run_sliceAt_array_h W 137 ⟨w.heap.size, 0, none⟩ (by kernel_rfl) .i64 (Lib.nDigits u : Int) (by omega) (by rw [hal]; omega)]
      go_simp
    have hH0 := holds_zero0 w 137 (Lib.nDigits u) (by omega)
    have hfmt := Tryz.internal_strconv_formatBase10 w.heap.size 0 24 u (Array.replicate (Lib.nDigits u) 0) (w.alloc (.cells Lib.zeros24 137)) hH0 (by rw [Array.size_replicate]; exact Lib.lt_pow_nDigits u) hu64 (by rw [Array.size_replicate]; omega)
    rw [Array.size_replicate] at hfmt
    have HH0 := hid hH0
    have HFM := hid hfmt
    have HT := hid (Lib.tabIs_alloc htab (.cells Lib.zeros24 137))
    clear hH0 hal hfmt htab
    go_enter Tryz.func114, Tryz.ntmps114
    go_wp2_with fail
    refine (Tryz.internal_strconv_numDigits u hu1 hu64 _ HT.out).mono ?_
    rintro e w' ⟨rfl, rfl⟩
    go_wp2_with fail
    refine Calls.mono HFM.out ?_
    rintro e w' ⟨rfl, k, v', dk, rfl, hF⟩
    have HF := hid hF
    have hcv : (convert 75 9 (.slice (some ⟨w.heap.size, 0, none⟩) (Lib.nDigits u) 24)).run Tryz.prog ((putRow (fun (b : UInt8) => Value.int .u8 (b.toNat : Int)) (w.alloc (.cells Lib.zeros24 137)) w.heap.size 0 dk).drewN k) = .ok (.string ⟨(Lib.decDigits u).toArray⟩) ((putRow (fun (b : UInt8) => Value.int .u8 (b.toNat : Int)) (w.alloc (.cells Lib.zeros24 137)) w.heap.size 0 dk).drewN k) := by
      have h := run_convert_bytes_back (P := Tryz.prog) ((putRow (fun (b : UInt8) => Value.int .u8 (b.toNat : Int)) (w.alloc (.cells Lib.zeros24 137)) w.heap.size 0 dk).drewN k) 75 9 5 ⟨w.heap.size, 0, none⟩ 24 (Lib.decDigits u) Tryz.underlying75 Tryz.underlying5 Tryz.underlying9 (fun j hj => by
        rw [Lib.add_plain, Lib.row_is_numeral hF j hj, World.cell?_drewN]
        exact cell?_putRow (fun (b : UInt8) => Value.int .u8 (b.toNat : Int)) _ w.heap.size 0 _ dk HH0.out (by rw [hF.size, Array.size_replicate]) j (by rw [hF.size]; rw [Lib.decDigits_length] at hj; exact hj))
      rw [Lib.decDigits_length] at h
      exact h
    clear hF
    go_wp2
    go_ret
    exact ⟨rfl, fin_pos0 w _ dk k⟩

set_option maxHeartbeats 800000 in
set_option maxRecDepth 100000 in
theorem format_any (u : Nat) (hu64 : u < 18446744073709551616) (w : World) (htab : Tab w) :
    Calls Tryz.prog 90 #[.int .u64 u, .int .i64 10] w fun e w' => e = .returned (.string ⟨(Lib.decDigits u).toArray⟩) ∧ Below w.heap.size w w' := by
  go_enter Tryz.func90, Tryz.ntmps90
  go_wp2_with fail
  refine (formatUint_any u hu64 w htab).mono ?_
  rintro e w' ⟨rfl, hb⟩
  go_wp2
  go_ret
  exact ⟨rfl, hb⟩
end Go.Proofs.YtldeiapikkebgaaGreatDoor

/- nat.Print tells the decimal digits of a number's value, or its error: of every list that can be read, where the library's table of powers of ten stands as its text lays it. -/
namespace Go.Proofs.YtldeiapikkebgaaGreatDoor
open Go.RowKit Go.Lib
set_option linter.unusedVariables false

def pad : Nat → Nat → List UInt8
  | 0, _ => []
  | k + 1, p => pad k (p / 10) ++ [UInt8.ofNat (48 + p % 10)]
theorem digits_pad (hi : Nat) (h : 1 ≤ hi) : ∀ (k p : Nat), p < 10 ^ k → decDigits (hi * 10 ^ k + p) = decDigits hi ++ pad k p
  | 0, p, hp => by
    have : p = 0 := by simpa using hp
    subst this; simp [pad]
  | k + 1, p, hp => by
    have hk : 1 ≤ 10 ^ k := Nat.one_le_pow _ _ (by decide)
    have e1 : hi * 10 ^ (k + 1) = hi * 10 ^ k * 10 := by rw [Nat.pow_succ, Nat.mul_assoc]
    have h2 : hi ≤ hi * 10 ^ k := Nat.le_mul_of_pos_right hi hk
    have hge : ¬ hi * 10 ^ (k + 1) + p < 10 := by omega
    rw [decDigits, dif_neg hge]
    have e2 : (hi * 10 ^ (k + 1) + p) / 10 = hi * 10 ^ k + p / 10 := by omega
    have e3 : (hi * 10 ^ (k + 1) + p) % 10 = p % 10 := by omega
    rw [e2, e3, digits_pad hi h k (p / 10) (by rw [Nat.pow_succ] at hp; omega), pad, List.append_assoc]
theorem pad_eq : ∀ (k p : Nat), p < 10 ^ (k + 1) → pad (k + 1) p = List.replicate (k + 1 - nDigits p) 48 ++ decDigits p ∧ nDigits p ≤ k + 1
  | 0, p, hp => by
    have h10 : p < 10 := by simpa using hp
    rw [nDigits_small h10, decDigits_one h10]
    refine ⟨?_, Nat.le_refl _⟩
    simp [pad]
    congr 1
    omega
  | k + 1, p, hp => by
    by_cases h10 : p < 10
    · have ih := pad_eq k (p / 10) (by rw [Nat.pow_succ] at hp; omega)
      have e0 : p / 10 = 0 := by omega
      rw [e0, nDigits_small (by omega), decDigits_one (by omega)] at ih
      rw [nDigits_small h10, decDigits_one h10]
      refine ⟨?_, by omega⟩
      show pad (k + 1) (p / 10) ++ _ = _
      rw [e0, ih.1]
      have e1 : k + 1 + 1 - 1 = (k + 1 - 1) + 1 := by omega
      rw [e1, List.replicate_succ', show p % 10 = p by omega]
      rfl
    · have ih := pad_eq k (p / 10) (by rw [Nat.pow_succ] at hp; omega)
      rw [nDigits_big h10]
      refine ⟨?_, by omega⟩
      show pad (k + 1) (p / 10) ++ _ = _
      rw [ih.1, decDigits.eq_def p, dif_neg h10, List.append_assoc]
      congr 2
      omega

theorem repeat_noughts : ∀ c, repeatL [48] c = List.replicate c 48
  | 0 => rfl
  | c + 1 => by show [48] ++ repeatL [48] c = _; rw [repeat_noughts c]; rfl

theorem piece_step (ps : List Int) (hp : Pc ps) (k : Nat) (hk : k + 1 < ps.length) (htop : 0 < ps[ps.length - 1]?.getD 0) :
    decDigits (pval (ps.drop k)).toNat = decDigits (pval (ps.drop (k + 1))).toNat ++ (List.replicate (9 - nDigits (ps[k]?.getD 0).toNat) 48 ++ decDigits (ps[k]?.getD 0).toNat) ∧ nDigits (ps[k]?.getD 0).toNat ≤ 9 := by
  have hb := hp.at k
  have e1 : ps.drop k = ps[k]?.getD 0 :: ps.drop (k + 1) := by
    rw [List.drop_eq_getElem_cons (by omega), List.getElem?_eq_getElem (by omega)]; rfl
  have hpc : Pc (ps.drop (k + 1)) := fun q hq => hp q (List.mem_of_mem_drop hq)
  have hpos : 1 ≤ pval (ps.drop (k + 1)) := by
    have main : ∀ l : List Int, Pc l → 0 < l.length → 0 < l[l.length - 1]?.getD 0 → 1 ≤ pval l := by
      intro l
      induction l with
      | nil => intro _ h; simp at h
      | cons q l ih =>
        intro hc _ ht
        have hq := hc q List.mem_cons_self
        show 1 ≤ q + pval l * 1000000000
        rcases l with _ | ⟨q2, l⟩
        · simp at ht; simp [pval]; omega
        · have := ih (fun x hx => hc x (List.mem_cons_of_mem _ hx)) (by simp) (by simpa using ht)
          omega
    refine main _ hpc (by rw [List.length_drop]; omega) ?_
    rw [List.getElem?_drop, List.length_drop, show k + 1 + (ps.length - (k + 1) - 1) = ps.length - 1 by omega]
    exact htop
  have e2 : (pval (ps.drop k)).toNat = (pval (ps.drop (k + 1))).toNat * 10 ^ 9 + (ps[k]?.getD 0).toNat := by
    rw [e1]
    show (ps[k]?.getD 0 + pval (ps.drop (k + 1)) * 1000000000).toNat = _
    omega
  have pe := pad_eq 8 (ps[k]?.getD 0).toNat (by omega)
  rw [e2, digits_pad _ (by omega) 9 _ (by omega), pe.1]
  exact ⟨rfl, pe.2⟩

theorem builder_later {T e B b : Nat} {bs : List Value} {w w' : World} (h : IsBuilder T e B b bs w) (hb : Below w.heap.size w w') : IsBuilder T e B b bs w' := by
  have main : ∀ p, BuilderAt T e B b p bs w → BuilderAt T e B b p bs w' := by
    intro p h
    have hlt := h.lt
    obtain ⟨hB, v, hbk, hown, hne⟩ := h
    exact ⟨hB, v, (hb.block b hlt).trans hbk, owns_later hown hb, hne⟩
  exact h.imp (main _) (main _)
theorem builder_lt {T e B b : Nat} {bs : List Value} {w : World} (h : IsBuilder T e B b bs w) : b < w.heap.size := by
  rcases h with h | h
  · exact h.lt
  · exact h.lt

theorem ret_text {a b : ByteArray} {c d : Int} (h : a = b) (g : c = d) : Ending.returned (.tuple #[.string a, .int .i64 c]) = .returned (.tuple #[.string b, .int .i64 d]) := by rw [h, g]

set_option maxHeartbeats 6400000 in
set_option maxRecDepth 100000 in
theorem print_any (v : Value) (xs : List Int) (w : World) (h : Sl w v xs) (hn : xs.length ≤ 281474976710656) (htab : Tab w) :
    Calls Tryz.prog 67 #[v] w fun e w' => e = .returned (.tuple #[.string (if chk xs = 0 then ⟨(decDigits (val xs).toNat).toArray⟩ else ⟨#[]⟩), .int .i64 (chk xs)]) ∧ Below w.heap.size w w' := by
  by_cases hc : chk xs = 0
  · have HC := hid (check_sl v xs w h hn)
    rw [hc] at HC ⊢
    rw [if_pos rfl]
    have l1 := (chk_ok hc).1
    have t1 := (chk_ok hc).2
    have wx := h.wd
    clear hc
    by_cases h0 : xs.length = 0
    · have hx : xs = [] := List.eq_nil_of_length_eq_zero h0
      have HF : Hid ((⟨(decDigits (val xs).toNat).toArray⟩ : ByteArray) = ⟨#[48]⟩) := by
        show _ = _
        rw [hx, val_nil, show Int.toNat 0 = 0 from rfl, decDigits_one (by decide)]
        rfl
      obtain ⟨a, cap, rfl, hr⟩ := h
      have hz : ((xs.length : Int) == 0) = true := by simp [hx]
      clear hx h0 hr t1
      go_enter Tryz.func67, Tryz.ntmps67
      go_wp2_with fail
      refine Calls.mono HC.out ?_
      rintro e w' ⟨rfl, rfl⟩
      go_wp2_with fail
      go_ret2
      exact ⟨ret_text HF.out.symm rfl, Below.refl _ _⟩
    · have hz : ((xs.length : Int) == 0) = false := by simp; exact fun e => h0 (by simp [e])
      have HS := hid (split_any v xs w h l1 t1 (by omega))
      have HT := hid htab
      obtain ⟨a, cap, rfl, hr⟩ := h
      clear hr t1 h0 htab
      go_enter Tryz.func67, Tryz.ntmps67
      go_wp2_with fail
      refine Calls.mono HC.out ?_
      rintro e w' ⟨rfl, rfl⟩
      go_wp2_with fail
      refine Calls.mono HS.out ?_
      rintro e w1 ⟨vp, ps, rfl, op, hpc, hpv, hp0, hp1, htop, hb1⟩
      obtain ⟨gp, cp, hvp, hcp1, hcp2⟩ := own_shape' op hp0
      rw [hvp] at op ⊢
      have hgp := op.lt gp rfl
      have hcell : ∀ j, j < ps.length → w1.cell? ⟨gp, j, none⟩ = some (.int .u32 (ps[j]?.getD 0)) := fun j hj => by
        rw [op.cellAt j (by omega), List.getElem?_map, List.getElem?_eq_getElem hj]; rfl
      have HCE := hid hcell
      have HPV := hid hpv
      have HTP := hid htop
      obtain ⟨K, hK⟩ : ∃ K, K = ps.length := ⟨_, rfl⟩
      have HK := hid hK
      rw [← hK] at hp0 hp1 hcp1 ⊢
      have hs1 := hb1.size
      have hcp3 : cp ≤ 9223372036854775807 := by unfold maxLen at hcp2; omega
      obtain ⟨b, hb⟩ : ∃ b, b = w1.heap.size := ⟨_, rfl⟩
      have HBB : Hid (IsBuilder 111 5 b b (byteCells []) (w1.alloc (.cells #[.pointer none, .slice none 0 0] 111))) := by
        left
        exact ⟨Nat.le_refl _, .slice none 0 0, by rw [hb]; exact heap_alloc_new w1 _, World.ownsRow_nil _ _ _ _, by simp [Value.ownBlock]⟩
      have hbA : Below w.heap.size w (w1.alloc (.cells #[.pointer none, .slice none 0 0] 111)) := hb1.alloc hs1 _
      have hbB : Below b w1 (w1.alloc (.cells #[.pointer none, .slice none 0 0] 111)) := (Below.refl _ _).alloc (by omega) _
      have hgpb : gp < b := by omega
      have hwb : w.heap.size ≤ b := by omega
      clear op hcell hpv htop hK hcp2 hvp hs1 HS HC
      go_wp2_with fail
      rw [← hb]
      clear hb
      go_loopw [7] (fun t wr => ∃ (k : Nat) (txt : List UInt8), k ≤ K ∧ t = .int .i64 ((k : Int) - 1) ∧ Hid (k < K → txt = decDigits (pval (ps.drop k)).toNat) ∧ Hid (k = K → txt = []) ∧ txt.length ≤ 9 * (K - k) ∧
        IsBuilder 111 5 b b (byteCells txt) wr ∧ Below w.heap.size w wr ∧ Below b w1 wr) (fun t _ => (RowKit.intOf t + 1).toNat)
      case atStart => exact ⟨K, [], Nat.le_refl _, rfl, fun e => by omega, fun _ => rfl, by simp, HBB.out, hbA, hbB⟩
      case round =>
        obtain ⟨k, txt, hk, rfl, HX, HY, hlen, hbu, hb2, hb3⟩ := hrel
        have hblt := builder_lt hbu
        rcases k with _ | k
        · have HX' : Hid (txt = decDigits (val xs).toNat) := by
            show _ = _
            rw [HX.out hp0, List.drop_zero, HPV.out]
          clear HX HY
          go_wp2_with fail
          refine (Tryz.Builder_String_any b b txt wr hbu (by omega)).mono ?_
          rintro e w3 ⟨rfl, hb4⟩
          have hbF : Below w.heap.size w w3 := hb2.trans (hb4.mono hwb)
          go_wp2_with fail
          go_ret2
          exact ⟨ret_text (by rw [HX'.out]) rfl, hbF⟩
        · have ek : (((k + 1 : Nat) : Int) - 1) = (k : Int) := by omega
          rw [ek]
          clear ek
          have bp := hpc.at k
          have x1 : wr.cell? ⟨gp, k, none⟩ = some (.int .u32 (ps[k]?.getD 0)) := (hb3.cell (p := ⟨gp, k, none⟩) hgpb).trans (HCE.out k (by have := HK.out; omega))
          obtain ⟨p, hp⟩ : ∃ p : Nat, (p : Int) = ps[k]?.getD 0 := ⟨(ps[k]?.getD 0).toNat, by omega⟩
          rw [← hp] at x1 bp
          have hp9 : p < 1000000000 := by omega
          have HP := hid hp
          have htw := HT.out.later hb2
          clear hp bp
          go_wp2_with fail
          refine (format_any p (by omega) wr htw).mono ?_
          rintro e w4 ⟨rfl, hb4⟩
          have hnd : nDigits p ≤ 9 := (pad_eq 8 p (by omega)).2
          obtain ⟨S, hS⟩ : ∃ S : ByteArray, S = ⟨(decDigits p).toArray⟩ := ⟨_, rfl⟩
          have hSs : S.size = nDigits p := by rw [hS, ← decDigits_length]; exact List.size_toArray
          rw [← hS]
          have hSn : S.size ≤ 9 := by omega
          have HSE := hid hS
          have HSS := hid hSs
          have hbu4 := builder_later hbu hb4
          have hs4 := hb4.size
          have hb24 : Below w.heap.size w w4 := bt hb2 hb4
          have hb34 : Below b w1 w4 := hb3.trans (hb4.mono (by omega))
          clear hS hSs hbu hb4 htw x1 hb2 hb3
          by_cases hlast : k + 1 < K
          · have hli : (k : Int) < (K : Int) - 1 := by omega
            go_wp2_with fail
            rw [show (9 : Int) - (S.size : Int) = ((9 - S.size : Nat) : Int) by omega]
            refine (Tryz.strings_Repeat ⟨#[48]⟩ (9 - S.size) w4 (by omega) (by show 1 * _ ≤ _; omega)).mono ?_
            rintro e w5 ⟨rfl, hb5⟩
            have hbu5 := builder_later hbu4 hb5
            have hs5 := hb5.size
            obtain ⟨Z, hZ⟩ : ∃ Z : ByteArray, Z = ⟨(repeatL [48] (9 - S.size)).toArray⟩ := ⟨_, rfl⟩
            have hZs : Z.size = 9 - S.size := by rw [hZ]; show (repeatL [48] (9 - S.size)).toArray.size = _; rw [List.size_toArray, repeatL_length]; simp
            have hZ' : Z = ⟨(repeatL (ByteArray.mk #[48]).data.toList (9 - S.size)).toArray⟩ := hZ
            rw [← hZ']
            have HZE := hid hZ
            have hb25 : Below w.heap.size w w5 := bt hb24 hb5
            have hb35 : Below b w1 w5 := hb34.trans (hb5.mono (by omega))
            have HZS := hid hZs
            have hz9 : Z.size ≤ 9 := by omega
            clear hZ hZ' hZs hbu4 hb5 hb24 hb34
            go_wp2_with fail
            refine (Tryz.Builder_WriteString b b (byteCells txt) Z w5 hbu5 (by rw [byteCells_length]; omega) (by omega)).mono ?_
            rintro e w6 ⟨rfl, hbu6, hb6⟩
            have hs6 := hb6.size
            have hb26 : Below w.heap.size w w6 := hb25.trans (hb6.mono hwb)
            have hb36 : Below b w1 w6 := hb35.trans hb6
            rw [strCells_eq, ← byteCells_append] at hbu6
            clear hbu5 hb6 hb25 hb35
            go_wp2_with fail
            refine (Tryz.Builder_WriteString b b (byteCells (txt ++ Z.data.toList)) S w6 (.inr hbu6) (by have e1 : Z.data.toList.length = Z.size := Array.length_toList; rw [byteCells_length, List.length_append]; omega) (by omega)).mono ?_
            rintro e w7 ⟨rfl, hbu7, hb7⟩
            have hb27 : Below w.heap.size w w7 := hb26.trans (hb7.mono hwb)
            have hb37 : Below b w1 w7 := hb36.trans hb7
            rw [strCells_eq, ← byteCells_append] at hbu7
            have HB7 := hid (show IsBuilder 111 5 b b (byteCells (txt ++ Z.data.toList ++ S.data.toList)) w7 from .inr hbu7)
            have HTX : Hid (txt ++ Z.data.toList ++ S.data.toList = decDigits (pval (ps.drop k)).toNat) := by
              show _ = _
              have st := piece_step ps hpc k (by have := HK.out; omega) HTP.out
              have ep : (ps[k]?.getD 0).toNat = p := by have := HP.out; omega
              rw [ep] at st
              rw [st.1, HX.out hlast, HZE.out, HSS.out, HSE.out, repeat_noughts, List.append_assoc]
            have HLN : Hid ((txt ++ Z.data.toList ++ S.data.toList).length ≤ 9 * (K - k)) := by
              show _ ≤ _
              have e1 : Z.data.toList.length = Z.size := Array.length_toList
              have e2 : S.data.toList.length = S.size := Array.length_toList
              have := HZS.out
              rw [List.length_append, List.length_append]
              omega
            clear hbu6 hbu7 hb7 hb26 hb36 HX HY
            go_wp2_with fail
            go_roundw
            case rel => exact ⟨k, _, by omega, rfl, fun _ => HTX.out, fun e => by omega, HLN.out, HB7.out, hb27, hb37⟩
            case measure => simp [RowKit.intOf]
          · have hkK : k + 1 = K := by omega
            have hli : ¬ (k : Int) < (K : Int) - 1 := by omega
            have htx : txt = [] := HY.out hkK
            go_wp2_with fail
            refine (Tryz.Builder_WriteString b b (byteCells txt) S w4 hbu4 (by rw [byteCells_length]; omega) (by omega)).mono ?_
            rintro e w5 ⟨rfl, hbu5, hb5⟩
            rw [strCells_eq, ← byteCells_append] at hbu5
            have hb25 : Below w.heap.size w w5 := hb24.trans (hb5.mono hwb)
            have hb35 : Below b w1 w5 := hb34.trans hb5
            have HB5 := hid (show IsBuilder 111 5 b b (byteCells (txt ++ S.data.toList)) w5 from .inr hbu5)
            have HTX : Hid (txt ++ S.data.toList = decDigits (pval (ps.drop k)).toNat) := by
              show _ = _
              have ed : ps.drop k = [ps[k]?.getD 0] := by
                rw [List.drop_eq_getElem_cons (by have := HK.out; omega), List.getElem?_eq_getElem (by have := HK.out; omega), List.drop_eq_nil_of_le (by have := HK.out; omega)]; rfl
              have ep : (ps[k]?.getD 0).toNat = p := by have := HP.out; omega
              rw [htx, ed, HSE.out]
              simp [pval, ep]
            have HLN : Hid ((txt ++ S.data.toList).length ≤ 9 * (K - k)) := by
              show _ ≤ _
              have e2 : S.data.toList.length = S.size := Array.length_toList
              rw [List.length_append, htx]
              simp
              omega
            clear hbu4 hbu5 hb5 hb24 hb34 HX HY htx
            go_wp2_with fail
            go_roundw
            case rel => exact ⟨k, _, by omega, rfl, fun _ => HTX.out, fun e => by omega, HLN.out, HB5.out, hb25, hb35⟩
            case measure => simp [RowKit.intOf]
  · have hne : (chk xs != 0) = true := by simp [hc]
    rw [if_neg hc]
    clear hc
    go_enter Tryz.func67, Tryz.ntmps67
    go_wp2_with fail
    refine (check_sl v xs w h hn).mono ?_
    rintro e w' ⟨rfl, rfl⟩
    go_wp2
    go_ret2
    exact ⟨rfl, Below.refl _ _⟩
end Go.Proofs.YtldeiapikkebgaaGreatDoor

/- nat.Parse reads decimal digits, or tells the error: of every text. -/
namespace Go.Proofs.YtldeiapikkebgaaGreatDoor
open Go.RowKit
set_option linter.unusedVariables false

def Dg (l : List UInt8) : Prop := ∀ c ∈ l, 48 ≤ (c.toNat : Int) ∧ (c.toNat : Int) ≤ 57
def IsNum (l : List UInt8) : Prop := 0 < l.length ∧ (l[0]?.getD 0 = 48 → l.length ≤ 1) ∧ Dg l

theorem byte_at (s : ByteArray) (k : Nat) (h : k < s.size) : s.data.toList[k]? = some s[k] := by
  have : k < s.data.toList.length := by simpa using h
  rw [List.getElem?_eq_getElem this]; rfl
theorem size_list (s : ByteArray) : s.data.toList.length = s.size := Array.length_toList
theorem mem_at {l : List UInt8} {c : UInt8} (h : c ∈ l) : ∃ k : Nat, k < l.length ∧ l[k]? = some c := by
  obtain ⟨k, hk, e⟩ := List.getElem_of_mem h
  exact ⟨k, hk, by rw [List.getElem?_eq_getElem hk, e]⟩

open Classical in
set_option maxHeartbeats 1600000 in
set_option maxRecDepth 100000 in
theorem isNumber_loop (s : ByteArray) (w : World) (hs : s.size ≤ 65536) (hp : 0 < s.size) (hem : s.toList.isEmpty = false) (hz : ((s[0].toNat : Int) = 48 ∧ s.size = 1) ∨ ¬ (s[0].toNat : Int) = 48) (H1 : Hid (s.data.toList[0]?.getD 0 = 48 → s.data.toList.length ≤ 1)) :
    Calls Tryz.prog 134 #[.string s] w fun e w' => e = .returned (.bool (decide (IsNum s.data.toList))) ∧ w = w' := by
  have hl := size_list s
  have HL := hid hl
  have hen : ¬ s.toList = [] := fun e => by rw [e] at hem; simp at hem
  have hb : ((s[0].toNat : Int) == 48) = true ∧ ¬ 1 < s.size ∨ ((s[0].toNat : Int) == 48) = false := by
    rcases hz with ⟨h1, h2⟩ | h1
    · left; exact ⟨by simp [h1], by omega⟩
    · right; simp [h1]
  clear hl hz
  rcases hb with ⟨c0b, c1⟩ | c0b
  all_goals
    go_enter Tryz.func134, Tryz.ntmps134
    go_wp2_with fail
    go_loop [18] (fun t => ∃ k : Nat, k ≤ s.size ∧ t = .int .i64 k ∧ Hid (∀ j : Nat, j < k → 48 ≤ ((s.data.toList[j]?.getD 0).toNat : Int) ∧ ((s.data.toList[j]?.getD 0).toNat : Int) ≤ 57)) (fun t => s.size - (intOf t).toNat)
    case atStart => exact ⟨0, by omega, rfl, fun j hj => by omega⟩
    case round =>
      obtain ⟨k, hk, rfl, HJ⟩ := hrel
      by_cases hlt : k < s.size
      · have bk := byte_at s k hlt
        by_cases d1 : (s[k].toNat : Int) < 48
        · have HF : Hid (decide (IsNum s.data.toList) = false) := decide_eq_false (fun h => by
            have := h.2.2 _ (List.mem_of_getElem? bk)
            omega)
          clear bk
          go_wp2_with fail
          go_ret
          exact ⟨ret_bool HF.out.symm, rfl⟩
        · by_cases d2 : 57 < (s[k].toNat : Int)
          · have HF : Hid (decide (IsNum s.data.toList) = false) := decide_eq_false (fun h => by
              have := h.2.2 _ (List.mem_of_getElem? bk)
              omega)
            clear bk
            go_wp2_with fail
            go_ret
            exact ⟨ret_bool HF.out.symm, rfl⟩
          · have HJ' : Hid (∀ j : Nat, j < k + 1 → 48 ≤ ((s.data.toList[j]?.getD 0).toNat : Int) ∧ ((s.data.toList[j]?.getD 0).toNat : Int) ≤ 57) := fun j hj => by
              by_cases e : j = k
              · rw [e, bk]; show 48 ≤ (s[k].toNat : Int) ∧ (s[k].toNat : Int) ≤ 57; omega
              · exact HJ.out j (by omega)
            clear bk
            go_wp2_with fail
            go_round
            case rel => exact ⟨k + 1, by omega, by go_num, HJ'⟩
            case measure => simp [intOf]; omega
      · have HF : Hid (decide (IsNum s.data.toList) = true) := decide_eq_true (by
          refine ⟨by have := HL.out; omega, H1.out, fun c hc => ?_⟩
          obtain ⟨j, hj, e⟩ := mem_at hc
          have := HJ.out j (by have := HL.out; omega)
          rw [e] at this
          exact this)
        go_wp2_with fail
        go_ret
        exact ⟨ret_bool HF.out.symm, rfl⟩

open Classical in
set_option maxHeartbeats 1600000 in
set_option maxRecDepth 100000 in
theorem isNumber_any (s : ByteArray) (w : World) (hs : s.size ≤ 65536) :
    Calls Tryz.prog 134 #[.string s] w fun e w' => e = .returned (.bool (decide (IsNum s.data.toList))) ∧ w = w' := by
  have hl := size_list s
  by_cases h0 : s.size = 0
  · have HF : Hid (decide (IsNum s.data.toList) = false) := decide_eq_false (fun h => by have := h.1; omega)
    have hse : s = ⟨#[]⟩ := by
      obtain ⟨d⟩ := s
      have : d = #[] := Array.eq_empty_of_size_eq_zero h0
      rw [this]
    subst hse
    clear h0 hl
    go_enter Tryz.func134, Tryz.ntmps134
    go_wp2
    go_ret
    exact ⟨ret_bool HF.out.symm, rfl⟩
  · have hp : 0 < s.size := by omega
    have b0 := byte_at s 0 hp
    have hem : s.toList.isEmpty = false := by
      rw [ByteArray.toList_eq]
      cases hx : s.data.toList with
      | nil => rw [hx] at hl; simp at hl; omega
      | cons _ _ => rfl
    have hen : ¬ s.toList = [] := fun e => by rw [e] at hem; simp at hem
    by_cases c0 : (s[0].toNat : Int) = 48
    · have c0b : ((s[0].toNat : Int) == 48) = true := by simp [c0]
      have hc48 : s[0] = 48 := UInt8.toNat_inj.1 (by show s[0].toNat = 48; omega)
      by_cases c1 : 1 < s.size
      · have HF : Hid (decide (IsNum s.data.toList) = false) := decide_eq_false (fun h => by
          have := h.2.1 (by rw [b0, hc48]; rfl)
          omega)
        clear hl h0 b0 hen hc48
        go_enter Tryz.func134, Tryz.ntmps134
        go_wp2_with fail
        go_ret
        exact ⟨ret_bool HF.out.symm, rfl⟩
      · have H1 : Hid (s.data.toList[0]?.getD 0 = 48 → s.data.toList.length ≤ 1) := fun _ => by omega
        exact isNumber_loop s w hs hp hem (.inl ⟨c0, by omega⟩) H1
    · have H1 : Hid (s.data.toList[0]?.getD 0 = 48 → s.data.toList.length ≤ 1) := fun e => by
        rw [b0] at e
        have e : s[0] = 48 := e
        exact absurd (by rw [e]; rfl) c0
      exact isNumber_loop s w hs hp hem (.inr c0) H1

def numTo (l : List UInt8) : Nat → Int
  | 0 => 0
  | k + 1 => numTo l k * 10 + (((l[k]?.getD 48).toNat : Int) - 48)
theorem numTo_bounds {l : List UInt8} (hd : Dg l) : ∀ k, 0 ≤ numTo l k ∧ numTo l k < 10 ^ k
  | 0 => ⟨Int.le_refl _, by simp [numTo]⟩
  | k + 1 => by
    obtain ⟨h0, h1⟩ := numTo_bounds hd k
    have hc : 48 ≤ ((l[k]?.getD 48).toNat : Int) ∧ ((l[k]?.getD 48).toNat : Int) ≤ 57 := by
      by_cases hk : k < l.length
      · rw [List.getElem?_eq_getElem hk]; exact hd _ (List.getElem_mem hk)
      · rw [List.getElem?_eq_none (by omega)]; decide
    show 0 ≤ numTo l k * 10 + _ ∧ numTo l k * 10 + _ < _
    rw [Int.pow_succ]
    omega
theorem numTo_congr (l l' : List UInt8) : ∀ k, (∀ j, j < k → l[j]?.getD 48 = l'[j]?.getD 48) → numTo l k = numTo l' k
  | 0, _ => rfl
  | k + 1, h => by
    show numTo l k * 10 + _ = numTo l' k * 10 + _
    rw [numTo_congr l l' k (fun j hj => h j (by omega)), h k (by omega)]
theorem numTo_add (l : List UInt8) (m : Nat) : ∀ n, numTo l (m + n) = numTo l m * 10 ^ n + numTo (l.drop m) n
  | 0 => by simp [numTo]
  | n + 1 => by
    have ih := numTo_add l m n
    show numTo l (m + n) * 10 + _ = numTo l m * 10 ^ (n + 1) + (numTo (l.drop m) n * 10 + _)
    rw [ih, Int.pow_succ, List.getElem?_drop, Int.add_mul, Int.mul_assoc, Int.add_assoc]
    rfl
theorem Dg.drop {l : List UInt8} (h : Dg l) (k : Nat) : Dg (l.drop k) := fun c hc => h c (List.mem_of_mem_drop hc)
theorem Dg.take {l : List UInt8} (h : Dg l) (k : Nat) : Dg (l.take k) := fun c hc => h c (List.mem_of_mem_take hc)

set_option maxHeartbeats 1600000 in
set_option maxRecDepth 100000 in
theorem wordOf_any (s : ByteArray) (w : World) (hs : s.size ≤ 9) (hd : Dg s.data.toList) :
    Calls Tryz.prog 160 #[.string s] w fun e w' => e = .returned (.int .u32 (numTo s.data.toList s.size)) ∧ w = w' := by
  have HD := hid hd
  clear hd
  go_enter Tryz.func160, Tryz.ntmps160
  go_wp2_with fail
  go_loop [3, 7] (fun x t => ∃ (k : Nat) (y : Int), k ≤ s.size ∧ t = .int .i64 k ∧ x = .int .u32 y ∧ Hid (y = numTo s.data.toList k)) (fun _ t => s.size - (intOf t).toNat)
  case atStart => exact ⟨0, 0, by omega, rfl, rfl, rfl⟩
  case round =>
    obtain ⟨k, y, hk, rfl, rfl, HY⟩ := hrel
    by_cases hlt : k < s.size
    · have bk := byte_at s k hlt
      have hb : 48 ≤ (s[k].toNat : Int) ∧ (s[k].toNat : Int) ≤ 57 := HD.out _ (List.mem_of_getElem? bk)
      have hy := numTo_bounds HD.out k
      rw [← HY.out] at hy
      have hp : (10 : Int) ^ k ≤ 10 ^ 8 := by
        obtain ⟨d, hd⟩ : ∃ d, 8 = k + d := ⟨8 - k, by omega⟩
        rw [hd, Int.pow_add]
        have h1 : (0 : Int) < 10 ^ k := Int.pow_pos (by decide)
        have h2 : (0 : Int) < 10 ^ d := Int.pow_pos (by decide)
        have h3 : (10 : Int) ^ k * 1 ≤ 10 ^ k * 10 ^ d := Int.mul_le_mul_of_nonneg_left (by omega) (by omega)
        omega
      have hy0 : 0 ≤ y := hy.1
      have hy1 : y < 100000000 := by have := hy.2; omega
      have hb0 := hb.1
      have hb1 := hb.2
      have HY' : Hid (y * 10 + ((s[k].toNat : Int) - 48) = numTo s.data.toList (k + 1)) := by
        show _ = numTo s.data.toList k * 10 + _
        rw [bk, ← HY.out]; rfl
      clear hy hp hb bk HY
      go_wp2
      go_round
      case rel => exact ⟨k + 1, _, by omega, by go_num, rfl, HY'.out⟩
      case measure => simp [intOf]; omega
    · have hkn : k = s.size := by omega
      go_wp2
      go_ret
      exact ⟨ret_int (by rw [HY.out, hkn]), rfl⟩
end Go.Proofs.YtldeiapikkebgaaGreatDoor

/- nat.timesPiece, nat.join: the number of digits, piece by piece, in new memory. -/
namespace Go.Proofs.YtldeiapikkebgaaGreatDoor
open Go.RowKit
set_option linter.unusedVariables false

theorem times_step (ys us : List Int) (k : Nat) (x c t : Int) (hk : k < us.length) (ht : c + ys[k]?.getD 0 * 1000000000 = t)
    (h : valTo us k + c * 4294967296 ^ k = valTo ys k * 1000000000 + x) :
    valTo (us.set k (t % 4294967296)) (k + 1) + t / 4294967296 * 4294967296 ^ (k + 1) = valTo ys (k + 1) * 1000000000 + x := by
  rw [valTo_set us k _ hk, valTo_succ, pw_succ]
  have e := carry_step (4294967296 ^ k) (t % 4294967296) (t / 4294967296) t (by omega)
  have e2 : t * 4294967296 ^ k = c * 4294967296 ^ k + ys[k]?.getD 0 * 4294967296 ^ k * 1000000000 := by
    rw [← ht, Int.add_mul, Int.mul_assoc, Int.mul_comm 1000000000, ← Int.mul_assoc]
  omega
theorem val_snoc (us : List Int) (z : Int) : val (us ++ [z]) = val us + z * 4294967296 ^ us.length := by
  unfold val
  rw [List.length_append, List.length_singleton, valTo_succ, valTo_congr (us ++ [z]) us us.length (fun j hj => by rw [List.getElem?_append_left hj])]
  simp

set_option maxHeartbeats 3200000 in
set_option maxRecDepth 100000 in
theorem timesPiece_any (base n : Nat) (v : Value) (ys : List Int) (x : Int) (w : World) (ho : w.ownsRow base 94 1 v n (ys.map (Value.int .u32))) (hwy : Wd ys) (hn : n ≤ 1000000) (hx : 0 ≤ x ∧ x ≤ 4294967295) (hbase : base ≤ w.heap.size) :
    Calls Tryz.prog 159 #[v, .int .u32 x] w fun e w' => ∃ (v' : Value) (zs : List Int), e = .returned v' ∧ w'.ownsRow base 94 1 v' zs.length (zs.map (Value.int .u32)) ∧ Wd zs ∧ zs.length ≤ n + 1 ∧ val zs = val ys * 1000000000 + x ∧ Below base w w' := by
  obtain ⟨i0, hi, hz0, hz1, hz2⟩ := info_parts Tryz.infoW
  have hx1 := hx.1
  have hx2 := hx.2
  rcases ho.2 with ⟨rfl, rfl⟩ | ⟨g, cap, cur, rfl, hrest⟩
  · have hy : ys = [] := List.eq_nil_of_length_eq_zero (by have := ho.1; simpa using this)
    subst hy
    clear ho
    by_cases h0 : x = 0
    · subst h0
      go_enter Tryz.func159, Tryz.ntmps159
      go_wp2
      refine wp_loop_rounds 1 ?_
      rw [rounds_succ]
      go_wp2
      go_ret
      exact ⟨_, [], rfl, World.ownsRow_nil _ _ _ _, Wd.nil, by simp, by simp [val, valTo], Below.refl _ _⟩
    · have hne : (x != 0) = true := by simp [h0]
      clear h0
      go_enter Tryz.func159, Tryz.ntmps159
      go_wp2_with fail
      refine wp_loop_rounds 1 ?_
      rw [rounds_succ]
      go_wp2_with (at_builtin; refine wpList_append_own _ rfl _ _ 24 rfl base 94 i0 (.int .u32 0) 1 4 Tryz.underlying24 hi hz0 hz1 hz2 rfl (by decide) _ _ _ rfl (World.ownsRow_nil _ _ _ _) ⟨w.heap.size, 0, none⟩ 1 1 [.int .u32 x] rfl rfl (cell_one_new _ _ _) (by simp [Value.oneCell']) (by unfold maxLen; omega) (by omega) (by simp; omega) ?_)
      intro v3 w3 op3 hg3 _
      have hb3 : Below base w w3 := ((Below.refl base w).alloc (by omega) _).grown hg3 (by simp; omega) (fun g hg => by simp [Value.ownBlock] at hg)
      have HP : Hid (w3.ownsRow base 94 1 v3 [x].length ([x].map (Value.int .u32))) := op3
      clear op3 hg3
      go_wp2
      go_ret
      exact ⟨v3, [x], rfl, HP.out, Wd.one hx, by simp, by rw [val_one, val_nil]; omega, hb3⟩
  · have ho' : OwnC w base g n cap ys := ho
    have hlen := ho'.len
    have hgl := World.ownsRow.lt ho g rfl
    have hcap := ho'.cap
    have hcp1 := hcap.1
    have hcp2 : cap ≤ 9223372036854775807 := by have := hcap.2; unfold maxLen at this; omega
    have HLN := hid hlen
    clear hlen hrest ho hx hcap
    go_enter Tryz.func159, Tryz.ntmps159
    go_wp2_with fail
    go_loopw [5, 12] (fun c t wr => ∃ (k : Nat) (r : Int) (us : List Int), k ≤ n ∧ t = .int .i64 k ∧ c = .int .u64 r ∧ 0 ≤ r ∧ r ≤ 4294967295 ∧ Wd us ∧ Hid (valTo us k + r * 4294967296 ^ k = valTo ys k * 1000000000 + x) ∧
      Hid (∀ j, k ≤ j → us[j]?.getD 0 = ys[j]?.getD 0) ∧ OwnC wr base g n cap us ∧ Below base w wr) (fun _ t _ => n - (intOf t).toNat)
    case atStart => exact ⟨0, x, ys, by omega, rfl, by go_num, by omega, by omega, hwy, show _ = _ by simp [valTo], fun _ _ => rfl, ho', Below.refl _ _⟩
    case round =>
      obtain ⟨k, r, us, hk, rfl, rfl, r0, r1, hwu, HV, HK, hou, hb⟩ := hrel
      by_cases hlt : k < n
      · have y1 := hou.cell k hlt
        have f1 := hou.free k
        have bu := hwu.at k
        have hlu := hou.len
        obtain ⟨t, ht⟩ : ∃ t, t = r + us[k]?.getD 0 * 1000000000 := ⟨_, rfl⟩
        have HT := hid ht
        have HV' := hid (times_step ys us k x r t (by omega) (by rw [ht, HK.out k (by omega)]) HV.out)
        have HK' : Hid (∀ j, k + 1 ≤ j → (us.set k (t % 4294967296))[j]?.getD 0 = ys[j]?.getD 0) := fun j hj => by
          rw [List.getElem?_set, if_neg (by omega)]
          exact HK.out j (by omega)
        have HO' := hid (hou.set k (t % 4294967296)).1
        have HB' := hid (hb.setCell (p := ⟨g, k, none⟩) hgl.1 (.int .u32 (t % 4294967296)))
        have ht0 : 0 ≤ t ∧ t ≤ 18446744073709551615 := by omega
        clear hlu hou hb HV HK ht
        go_wp2
        go_roundw
        case rel => rw [← HT.out]; exact ⟨k + 1, t / 4294967296, us.set k (t % 4294967296), by omega, by go_num, by go_num, by have := HT.out; omega, by have := HT.out; omega, hwu.set _ (by omega), HV', HK', HO'.out, HB'.out⟩
        case measure => simp [intOf]; omega
      · have hkm : k = n := by omega
        subst hkm
        have HV' : Hid (val us + r * 4294967296 ^ us.length = val ys * 1000000000 + x) := by
          show _ = _
          have e := HV.out
          rw [valTo_stable us k (by have := hou.len; omega), valTo_stable ys k (by have := HLN.out; omega)] at e
          rw [hou.len]
          exact e
        clear HV
        by_cases h0 : r = 0
        · subst h0
          have HE : Hid (val us = val ys * 1000000000 + x) := by show _ = _; have := HV'.out; omega
          have HO := hid (owns_len hou)
          have HU := hid hou.len
          clear hou HV'
          go_wp2_with fail
          go_ret
          exact ⟨_, us, rfl, HO.out, hwu, by have := HU.out; omega, HE.out, hb⟩
        · have hne : (r != 0) = true := by simp [h0]
          obtain ⟨R, hR⟩ : ∃ R, R = us.map (Value.int .u32) := ⟨_, rfl⟩
          have HM : Hid ((us ++ [r]).map (Value.int .u32) = R ++ [.int .u32 r]) := by show _ = _; rw [hR]; simp
          have hop : wr.ownsRow base 94 1 (.slice (some ⟨g, 0, none⟩) k cap) k R := by rw [hR]; exact hou
          have HU := hid hou.len
          have hbs := hb.size
          clear hR hou h0
          go_wp2_with (at_builtin; refine wpList_append_own _ rfl _ _ 24 rfl base 94 i0 (.int .u32 0) 1 4 Tryz.underlying24 hi hz0 hz1 hz2 rfl (by decide) _ _ _ rfl (hop.alloc _) ⟨wr.heap.size, 0, none⟩ 1 1 [.int .u32 r] rfl rfl (cell_one_new _ _ _) (by simp [Value.oneCell']) (by unfold maxLen; omega) (by omega) (by simp; omega) ?_)
          intro v3 w3 op3 hg3 _
          have hb3 : Below base w w3 := (hb.alloc (by omega) _).grown hg3 (by simp; omega) (fun g2 hg2 => by have := hop.lt g2 hg2; omega)
          have HPP : Hid (w3.ownsRow base 94 1 v3 (us ++ [r]).length ((us ++ [r]).map (Value.int .u32))) := by
            show World.ownsRow _ _ _ _ _ _ _
            rw [HM.out, List.length_append, List.length_singleton, HU.out]
            exact op3
          clear op3 hg3 hop
          go_wp2
          go_ret
          exact ⟨v3, us ++ [r], rfl, HPP.out, hwu.append (Wd.one ⟨r0, r1⟩), by rw [List.length_append, HU.out]; simp, by rw [val_snoc]; exact HV'.out, hb3⟩
end Go.Proofs.YtldeiapikkebgaaGreatDoor

/- nat.join, nat.Parse: the number of digits, piece by piece, in new memory; every text read, or its error. -/
namespace Go.Proofs.YtldeiapikkebgaaGreatDoor
open Go.RowKit
set_option linter.unusedVariables false

theorem list_size (s : ByteArray) {l : List UInt8} (h : s.data.toList = l) : s.size = l.length := by rw [← h]; exact (size_list s).symm

theorem extract_list (s : ByteArray) (i j : Nat) : (s.extract i j).data.toList = (s.data.toList.drop i).take (j - i) := by
  rw [ByteArray.data_extract, Array.toList_extract, List.extract_eq_take_drop]
theorem numTo_take (l : List UInt8) (n : Nat) : numTo (l.take n) n = numTo l n :=
  numTo_congr _ _ _ (fun j hj => by rw [List.getElem?_take, if_pos hj])
theorem numTo_piece (l : List UInt8) (m n k : Nat) (t : Int) (ht : t = numTo l m) (h : m = 0 ∨ k % 9 = 0) (hn : n = (k - 1) % 9 + 1) (hk : 0 < k) : t * 1000000000 + numTo (l.drop m) n = numTo l (m + n) := by
  rw [numTo_add, ht]
  rcases h with h | h
  · rw [h]; simp [numTo]
  · have : n = 9 := by omega
    rw [this]; rfl

set_option maxHeartbeats 3200000 in
set_option maxRecDepth 100000 in
theorem join_any (s : ByteArray) (w : World) (hs : s.size ≤ 65536) (hd : Dg s.data.toList) :
    Calls Tryz.prog 136 #[.string s] w fun e w' => ∃ (v : Value) (zs : List Int), e = .returned v ∧ w'.ownsRow w.heap.size 94 1 v zs.length (zs.map (Value.int .u32)) ∧ Wd zs ∧ zs.length ≤ s.size ∧ val zs = numTo s.data.toList s.size ∧ Below w.heap.size w w' := by
  have HD := hid hd
  have HL := hid (size_list s)
  clear hd
  go_enter Tryz.func136, Tryz.ntmps136
  go_wp2_with fail
  go_loopg [0, 3] s.size (fun k t v wr => ∃ (m : Nat) (s' : ByteArray) (ys : List Int), t = .string s' ∧ m + k = s.size ∧ s'.size = k ∧ Hid (s'.data.toList = s.data.toList.drop m) ∧ wr.ownsRow w.heap.size 94 1 v ys.length (ys.map (Value.int .u32)) ∧ Wd ys ∧ ys.length ≤ m ∧
    Hid (val ys = numTo s.data.toList m) ∧ Hid (m = 0 ∨ k % 9 = 0) ∧ Below w.heap.size w wr)
  case atStart => exact ⟨0, s, [], rfl, by omega, rfl, show _ = _ by simp, World.ownsRow_nil _ _ _ _, Wd.nil, by simp, show _ = _ by simp [val, valTo, numTo], .inl rfl, Below.refl _ _⟩
  case round =>
    obtain ⟨m, s', ys, rfl, hmk, hsz, HS, hop, hwy, hly, HV, HN, hb⟩ := hrel
    by_cases h0 : s'.size = 0
    · have hse : s' = ⟨#[]⟩ := by
        obtain ⟨d⟩ := s'
        have : d = #[] := Array.eq_empty_of_size_eq_zero h0
        rw [this]
      subst hse
      have hm : m = s.size := by omega
      have HV' : Hid (val ys = numTo s.data.toList s.size) := by show _ = _; rw [HV.out, hm]
      have HO := hid hop
      clear hop HS h0
      go_wp2_with fail
      go_ret
      exact ⟨_, ys, rfl, HO.out, hwy, by omega, HV'.out, hb⟩
    · have hp : 0 < s'.size := by omega
      have hem : s'.toList.isEmpty = false := by
        rw [ByteArray.toList_eq]
        have hl := size_list s'
        cases hx : s'.data.toList with
        | nil => rw [hx] at hl; simp at hl; omega
        | cons _ _ => rfl
      have hen : ¬ s'.toList = [] := fun e => by rw [e] at hem; simp at hem
      have hl1 : (s'.extract 0 ((gk - 1) % 9 + 1)).data.toList = (s.data.toList.drop m).take ((gk - 1) % 9 + 1) := by rw [extract_list, HS.out]; simp
      have hl2 : (s'.extract ((gk - 1) % 9 + 1) gk).data.toList = s.data.toList.drop (m + ((gk - 1) % 9 + 1)) := by
        rw [extract_list, HS.out, List.drop_drop, List.take_of_length_le (by rw [List.length_drop, HL.out]; omega)]
      have z1 : (s'.extract 0 ((gk - 1) % 9 + 1)).size = (gk - 1) % 9 + 1 := by
        rw [list_size _ hl1, List.length_take, List.length_drop, HL.out]; omega
      have z2 : (s'.extract ((gk - 1) % 9 + 1) gk).size = gk - ((gk - 1) % 9 + 1) := by
        rw [list_size _ hl2, List.length_drop, HL.out]; omega
      have hdg : Dg (s'.extract 0 ((gk - 1) % 9 + 1)).data.toList := by rw [hl1]; exact (HD.out.drop _).take _
      have hnum : numTo (s'.extract 0 ((gk - 1) % 9 + 1)).data.toList (s'.extract 0 ((gk - 1) % 9 + 1)).size = numTo (s.data.toList.drop m) ((gk - 1) % 9 + 1) := by
        rw [z1, hl1, numTo_take]
      have hpc := numTo_piece s.data.toList m ((gk - 1) % 9 + 1) gk _ HV.out HN.out rfl (by omega)
      have hbd := numTo_bounds (HD.out.drop m) ((gk - 1) % 9 + 1)
      have hp9 : (10 : Int) ^ ((gk - 1) % 9 + 1) ≤ 10 ^ 9 := by
        have h9 : (gk - 1) % 9 + 1 ≤ 9 := by omega
        generalize (gk - 1) % 9 + 1 = q at h9
        obtain ⟨d, hd⟩ : ∃ d, 9 = q + d := ⟨9 - q, by omega⟩
        rw [hd, Int.pow_add]
        have h1 : (0 : Int) < 10 ^ q := Int.pow_pos (by decide)
        have h2 : (0 : Int) < 10 ^ d := Int.pow_pos (by decide)
        have h3 : (10 : Int) ^ q * 1 ≤ 10 ^ q * 10 ^ d := Int.mul_le_mul_of_nonneg_left (by omega) (by omega)
        omega
      have HW := hid (wordOf_any (s'.extract 0 ((gk - 1) % 9 + 1)) wr (by rw [z1]; omega) hdg)
      rw [hnum] at HW
      obtain ⟨x, hx⟩ : ∃ x, x = numTo (s.data.toList.drop m) ((gk - 1) % 9 + 1) := ⟨_, rfl⟩
      rw [← hx] at HW hpc hbd
      have hx0 := hbd.1
      have hx1 : x ≤ 4294967295 := by have := hbd.2; omega
      have hbs := hb.size
      have HT := hid (timesPiece_any w.heap.size _ u3 ys x wr hop hwy (by omega) ⟨hx0, hx1⟩ hbs)
      have HPC := hid hpc
      have HL2 := hid hl2
      have HN' : Hid (m + ((gk - 1) % 9 + 1) = 0 ∨ (gk - ((gk - 1) % 9 + 1)) % 9 = 0) := by right; omega
      clear hop hx hl1 hl2 z1 hdg hnum hpc hbd hp9 HV HN HS
      go_wp2_with fail
      refine Calls.mono HW.out ?_
      rintro e w1 ⟨rfl, rfl⟩
      go_wp2_with fail
      refine Calls.mono HT.out ?_
      rintro e w2 ⟨v2, zs, rfl, ho2, hwz, hlz, hvz, hb2⟩
      have HO2 := hid ho2
      have HV2 : Hid (val zs = numTo s.data.toList (m + ((gk - 1) % 9 + 1))) := by show _ = _; rw [hvz]; exact HPC.out
      clear ho2 hvz HT HW HPC
      go_wp2_with fail
      go_roundg (gk - ((gk - 1) % 9 + 1))
      case measure => omega
      case rel => exact ⟨m + ((gk - 1) % 9 + 1), _, zs, rfl, by omega, z2, HL2, HO2.out, hwz, by omega, HV2, HN', hb.trans hb2⟩

set_option maxHeartbeats 800000 in
set_option maxRecDepth 100000 in
theorem told_own (base n : Nat) (v : Value) (ys : List Int) (w : World) (ho : w.ownsRow base 94 1 v n (ys.map (Value.int .u32))) (hw : Wd ys) (hN : n ≤ 1099511627776) :
    Calls Tryz.prog 135 #[v] w fun e w' => ∃ v zs code, e = .returned (.tuple #[v, .int .i64 code]) ∧ w.ownsRow base 94 1 v zs.length (zs.map (Value.int .u32)) ∧ Tells 0 (val ys) zs code ∧ w = w' := by
  have hlen : ys.length = n := by have := ho.1; simpa using this
  have sx := sz_le ys
  rw [hlen] at sx
  have HT := hid (Tells.told hw)
  rcases ho.2 with ⟨rfl, rfl⟩ | ⟨g, cap, cur, rfl, hrest⟩
  · have hy : ys = [] := List.eq_nil_of_length_eq_zero hlen
    subst hy
    rw [if_neg (by simp [sz, szTo]), if_neg (by simp [sz, szTo])] at HT
    have HZ := hid (size_any none 0 0 [] w.heap.size w (by obtain ⟨a, cap, hv, hr⟩ := Reads.own ho hw; simp only [Value.slice.injEq] at hv; obtain ⟨rfl, _, rfl⟩ := hv; exact hr) (by omega))
    clear ho
    go_enter Tryz.func135, Tryz.ntmps135
    go_wp2_with fail
    refine Calls.mono HZ.out ?_
    rintro e w' ⟨rfl, rfl⟩
    rw [show sz [] = 0 from rfl]
    go_wp2
    go_ret2
    exact ⟨_, [], _, rfl, World.ownsRow_nil _ _ _ _, HT.out, rfl⟩
  · have ho' : OwnC w base g n cap ys := ho
    have hcap := ho'.cap
    have hcp1 := hcap.1
    have hcp2 : cap ≤ 9223372036854775807 := by have := hcap.2; unfold maxLen at this; omega
    have hr : Reads w w.heap.size (some ⟨g, 0, none⟩) n cap ys := by
      obtain ⟨a, cap, hv, hr⟩ := Reads.own ho' hw
      simp only [Value.slice.injEq] at hv
      obtain ⟨rfl, _, rfl⟩ := hv
      exact hr
    by_cases hs : 8192 < sz ys
    · rw [if_pos hs, if_pos hs] at HT
      have hsi : (8192 : Int) < (sz ys : Int) := by omega
      clear hlen hrest hcap
      go_enter Tryz.func135, Tryz.ntmps135
      go_wp2_with fail
      refine (size_any _ _ _ ys _ _ hr (by omega)).mono ?_
      rintro e w' ⟨rfl, rfl⟩
      go_wp2
      go_ret2
      exact ⟨_, [], _, rfl, World.ownsRow_nil _ _ _ _, HT.out, rfl⟩
    · rw [if_neg hs, if_neg hs] at HT
      have hsi : (sz ys : Int) ≤ 8192 := by omega
      have HO := hid (owns_len (ho'.take (sz ys) sx))
      clear hlen hrest hcap
      go_enter Tryz.func135, Tryz.ntmps135
      go_wp2_with fail
      refine (size_any _ _ _ ys _ _ hr (by omega)).mono ?_
      rintro e w' ⟨rfl, rfl⟩
      go_wp2
      go_ret2
      exact ⟨_, _, _, rfl, HO.out, HT.out, rfl⟩

open Classical in
noncomputable def pErr (s : ByteArray) : Int := if 65536 < s.size then 3 else if IsNum s.data.toList then 0 else 110

open Classical in
set_option maxHeartbeats 1600000 in
set_option maxRecDepth 100000 in
theorem parse_any (s : ByteArray) (w : World) (hs : s.size ≤ maxLen) :
    Calls Tryz.prog 106 #[.string s] w (Told w (pErr s) (numTo s.data.toList s.size)) := by
  unfold maxLen at hs
  by_cases h1 : 65536 < s.size
  · have HE : Hid (pErr s = 3) := by show _ = _; unfold pErr; rw [if_pos h1]
    have HT := hid (Tells.err (t := numTo s.data.toList s.size) (e := 3) (by decide))
    rw [HE.out]
    go_enter Tryz.func106, Tryz.ntmps106
    go_wp2_with fail
    go_ret2
    exact ⟨_, [], _, rfl, World.ownsRow_nil _ _ _ _, HT.out, Below.refl _ _⟩
  · have h2 : s.size ≤ 65536 := by omega
    by_cases hnum : IsNum s.data.toList
    · have HE : Hid (pErr s = 0) := by show _ = _; unfold pErr; rw [if_neg h1, if_pos hnum]
      have HI := hid (isNumber_any s w h2)
      rw [decide_eq_true hnum] at HI
      have HJ := hid (join_any s w h2 hnum.2.2)
      rw [HE.out]
      clear h1 hnum
      go_enter Tryz.func106, Tryz.ntmps106
      go_wp2_with fail
      refine Calls.mono HI.out ?_
      rintro e w' ⟨rfl, rfl⟩
      go_wp2_with fail
      refine Calls.mono HJ.out ?_
      rintro e w1 ⟨v, zs, rfl, ho, hwz, hlz, hvz, hb⟩
      have HT := hid (told_own _ _ v zs w1 ho hwz (by omega))
      clear ho
      go_wp2_with fail
      refine Calls.mono HT.out ?_
      rintro e w2 ⟨v2, us, code, rfl, ho2, ht2, rfl⟩
      rw [hvz] at ht2
      have HO2 := hid ho2
      have HT2 := hid ht2
      clear ho2 ht2 hvz
      go_wp2
      go_ret2
      exact ⟨_, us, code, rfl, HO2.out, HT2.out, hb⟩
    · have HE : Hid (pErr s = 110) := by show _ = _; unfold pErr; rw [if_neg h1, if_neg hnum]
      have HI := hid (isNumber_any s w h2)
      rw [decide_eq_false hnum] at HI
      have HT := hid (Tells.err (t := numTo s.data.toList s.size) (e := 110) (by decide))
      rw [HE.out]
      clear h1 hnum
      go_enter Tryz.func106, Tryz.ntmps106
      go_wp2_with fail
      refine Calls.mono HI.out ?_
      rintro e w' ⟨rfl, rfl⟩
      go_wp2_with fail
      go_ret2
      exact ⟨_, [], _, rfl, World.ownsRow_nil _ _ _ _, HT.out, Below.refl _ _⟩
end Go.Proofs.YtldeiapikkebgaaGreatDoor

/- What the laws' own example says. -/
namespace Go.Proofs.YtldeiapikkebgaaGreatDoor
open Go.RowKit
set_option linter.unusedVariables false

end Go.Proofs.YtldeiapikkebgaaGreatDoor

/- The law NatBack answers true, and writes nothing that was there: whatever list and text come in, where the library's table of powers of ten stands as its text lays it. -/
namespace Go.Proofs.YtldeiapikkebgaaGreatDoor
open Go.RowKit Go.Lib
set_option linter.unusedVariables false

theorem num_pos (l : List UInt8) (hd : Dg l) (h0 : ¬ l[0]?.getD 0 = 48) (hp : 0 < l.length) : ∀ k, 1 ≤ numTo l (k + 1)
  | 0 => by
    show 1 ≤ (0 : Int) * 10 + (((l[0]?.getD 48).toNat : Int) - 48)
    rw [List.getElem?_eq_getElem hp] at h0 ⊢
    have h1 := hd _ (List.getElem_mem hp)
    have h2 : ¬ (l[0].toNat : Int) = 48 := fun e => h0 (UInt8.toNat_inj.1 (by show l[0].toNat = 48; omega))
    simp only [Option.getD_some]
    omega
  | k + 1 => by
    have ih := num_pos l hd h0 hp k
    have hb := numTo_bounds hd (k + 1)
    show 1 ≤ numTo l (k + 1) * 10 + (((l[k + 1]?.getD 48).toNat : Int) - 48)
    have hc : 48 ≤ ((l[k + 1]?.getD 48).toNat : Int) := by
      by_cases hk : k + 1 < l.length
      · rw [List.getElem?_eq_getElem hk]; exact (hd _ (List.getElem_mem hk)).1
      · rw [List.getElem?_eq_none (by omega)]; decide
    omega
theorem nDigits_le : ∀ (k n : Nat), n < 10 ^ (k + 1) → nDigits n ≤ k + 1
  | k, n, h => (pad_eq k n h).2
theorem digits_few {x : Int} {L : Nat} (h0 : 0 ≤ x) (h : x < 4294967296 ^ L) : nDigits x.toNat ≤ 10 * L + 1 := by
  refine nDigits_le _ _ ?_
  have h1 : (4294967296 : Int) ^ L ≤ 10 ^ (10 * L) := by
    have e : (4294967296 : Nat) ^ L ≤ (10 ^ 10) ^ L := Nat.pow_le_pow_left (by decide) _
    rw [← Nat.pow_mul] at e
    have := Int.ofNat_le.2 e
    rw [Int.natCast_pow, Int.natCast_pow] at this
    exact this
  have h2 : x < 10 ^ (10 * L) := by omega
  have h3 : (x.toNat : Int) < ((10 ^ (10 * L) : Nat) : Int) := by rw [Int.natCast_pow]; rw [Int.toNat_of_nonneg h0]; exact h2
  have h4 := Int.ofNat_lt.1 h3
  have h5 : (10 : Nat) ^ (10 * L) ≤ 10 ^ (10 * L + 1) := Nat.pow_le_pow_right (by decide) (by omega)
  omega

end Go.Proofs.YtldeiapikkebgaaGreatDoor

/- Whole numbers as texts: whole.Print, strings.CutPrefix by a minus, whole.Parse. -/
namespace Go.Proofs.YtldeiapikkebgaaGreatDoor
open Go.RowKit Go.Lib
set_option linter.unusedVariables false

theorem wdec_len : ∀ (k n : Nat), n < 10 ^ (k + 1) → (decDigits n).length ≤ k + 1
  | 0, n, h => by rw [decDigits_one (by simpa using h)]; simp
  | k + 1, n, h => by
    by_cases c : n < 10
    · rw [decDigits_one c]; simp
    · have ih := wdec_len k (n / 10) (by rw [Nat.pow_succ] at h; omega)
      rw [decDigits, dif_neg c, List.length_append, List.length_singleton]
      omega
theorem ten_pow (m : Nat) : (4294967296 : Int) ^ m ≤ 10 ^ (10 * m) := by
  induction m with
  | zero => simp
  | succ m ih =>
    rw [pw_succ, show 10 * (m + 1) = 10 * m + 10 by omega, Int.pow_add]
    have p := pw_pos m
    have e : (10 : Int) ^ 10 = 10000000000 := by decide
    rw [e]
    omega
theorem dec_short' {xs : List Int} (hw : Wd xs) (m : Nat) (hl : xs.length ≤ m) : (decDigits (val xs).toNat).length ≤ 10 * m + 1 := by
  have h1 := val_lt hw
  have h2 : (4294967296 : Int) ^ xs.length ≤ 4294967296 ^ m := pw_le hl
  have h3 := ten_pow m
  have h0 := val_nonneg hw
  have h4 : val xs < 10 ^ (10 * m) := Int.lt_of_lt_of_le h1 (Int.le_trans h2 h3)
  have h6 : (10 : Int) ^ (10 * m + 1) = 10 ^ (10 * m) * 10 := Int.pow_succ _ _
  have h7 : (0 : Int) < 10 ^ (10 * m) := Int.pow_pos (by decide)
  have h5 : (((val xs).toNat : Nat) : Int) < ((10 ^ (10 * m + 1) : Nat) : Int) := by
    rw [Int.toNat_of_nonneg h0, Int.natCast_pow]
    show _ < (10 : Int) ^ (10 * m + 1)
    rw [h6]; omega
  exact wdec_len (10 * m) _ (Int.ofNat_lt.1 h5)
theorem dec_short {xs : List Int} (hw : Wd xs) (hl : xs.length ≤ 2048) : (decDigits (val xs).toNat).length ≤ 20481 := by
  have := dec_short' hw 2048 hl
  omega
def wtext (n : Bool) (xs : List Int) : List UInt8 := (if n then [45] else []) ++ decDigits (val xs).toNat

set_option maxHeartbeats 1600000 in
set_option maxRecDepth 100000 in
theorem wprint_any (n : Bool) (v : Value) (xs : List Int) (w : World) (h : Sl w v xs) (hx : wchk n xs = 0) (htab : Tab w) :
    Calls Tryz.prog 65 #[.agg #[.bool n, v]] w fun e w' => ∃ T : ByteArray, e = .returned (.tuple #[.string T, .int .i64 0]) ∧ T.data.toList = wtext n xs ∧ Below w.heap.size w w' := by
  obtain ⟨lx, tx, _⟩ := wchk_ok hx
  have wx := h.wd
  have HB := hid (alloc_later w (.cells #[.bool n, v] 88))
  have HX := hid (Box.made w 88 #[.bool n, v])
  have HC := hid (wcheck_any n v xs _ (h.later HB.out) (by omega))
  rw [hx] at HC
  have HP := hid (fun w1 (hb : Below (w.alloc (.cells #[.bool n, v] 88)).heap.size (w.alloc (.cells #[.bool n, v] 88)) w1) => print_any v xs w1 ((h.later HB.out).later hb) (by omega) (htab.later (bt HB.out hb)))
  rw [chk_good (by omega) tx, if_pos rfl] at HP
  obtain ⟨D, hD⟩ : ∃ D : ByteArray, D = ⟨(decDigits (val xs).toNat).toArray⟩ := ⟨_, rfl⟩
  have hds : D.size ≤ 20481 := by
    have e : D.size = (decDigits (val xs).toNat).length := by rw [hD]; exact (size_list _).symm
    rw [e]; exact dec_short wx lx
  have HDL : Hid (D.data.toList = decDigits (val xs).toNat) := by rw [hD]; rfl
  rw [← hD] at HP
  obtain ⟨a, cap, rfl, hr⟩ := h
  clear hr hD hx
  cases n with
  | false =>
    go_enter Tryz.func65, Tryz.ntmps65
    go_wp2_with fail
    refine Calls.mono HC.out ?_
    rintro e w1 ⟨rfl, hb1⟩
    obtain ⟨p0, p1, _, _⟩ := res_box HX.out hb1
    have HP1 := hid (HP.out w1 hb1)
    have HB1 := hid hb1
    clear hb1 HP
    go_wp2_with fail
    refine Calls.mono HP1.out ?_
    rintro e w2 ⟨rfl, hb2⟩
    obtain ⟨q0, q1, _, _⟩ := res_box HX.out (bt HB1.out hb2)
    have hbF := bt HB.out (bt HB1.out hb2)
    clear hb2 p0 p1
    go_wp2_with fail
    go_ret2
    exact ⟨D, rfl, HDL.out, hbF⟩
  | true =>
    go_enter Tryz.func65, Tryz.ntmps65
    go_wp2_with fail
    refine Calls.mono HC.out ?_
    rintro e w1 ⟨rfl, hb1⟩
    obtain ⟨p0, p1, _, _⟩ := res_box HX.out hb1
    have HP1 := hid (HP.out w1 hb1)
    have HB1 := hid hb1
    clear hb1 HP
    go_wp2_with fail
    refine Calls.mono HP1.out ?_
    rintro e w2 ⟨rfl, hb2⟩
    obtain ⟨q0, q1, _, _⟩ := res_box HX.out (bt HB1.out hb2)
    have hbF := bt HB.out (bt HB1.out hb2)
    clear hb2 p0 p1
    go_wp2_with fail
    go_ret2
    refine ⟨_, rfl, ?_, hbF⟩
    show _ = 45 :: decDigits (val xs).toNat
    rw [← HDL.out]
    simp

theorem cut_minus (s : ByteArray) (w : World) (hs : s.size ≤ 65536) :
    Calls Tryz.prog 133 #[.string s, .string ⟨#[45]⟩] w fun e w' => ∃ (T : ByteArray) (b : Bool), e = .returned (.tuple #[.string T, .bool b]) ∧ b = decide (s.data.toList[0]? = some 45) ∧ T.data.toList = (if b then s.data.toList.drop 1 else s.data.toList) ∧ w = w' := by
  have HH := hid (Tryz.stringslite_HasPrefix s ⟨#[45]⟩ w)
  have e0 : Lib.hasPrefix s.data.toList (⟨#[45]⟩ : ByteArray).data.toList = decide (s.data.toList[0]? = some 45) := by
    cases hl : s.data.toList with
    | nil => simp [Lib.hasPrefix]
    | cons c l =>
      by_cases hc : c = 45
      · subst hc; simp [Lib.hasPrefix, List.isPrefixOf]
      · have hc' : ¬ (45 : UInt8) = c := fun e => hc e.symm
        simp [Lib.hasPrefix, List.isPrefixOf, hc, hc']
  rw [e0] at HH
  by_cases c : s.data.toList[0]? = some 45
  · have hd : decide (s.data.toList[0]? = some 45) = true := decide_eq_true c
    rw [hd] at HH ⊢
    have h1 : 1 ≤ s.size := by
      rw [← size_list]
      by_cases z : s.data.toList.length = 0
      · rw [List.getElem?_eq_none (by omega)] at c; cases c
      · omega
    have HX := hid (extract_list s 1 s.size)
    clear c hd e0
    go_enter Tryz.func133, Tryz.ntmps133
    go_wp2_with fail
    refine Calls.mono HH.out ?_
    rintro e w' ⟨rfl, rfl⟩
    go_wp2_with fail
    go_ret2
    refine ⟨_, true, rfl, rfl, ?_, rfl⟩
    rw [if_pos rfl, HX.out, List.take_of_length_le (by rw [List.length_drop, size_list]; omega)]
  · have hd : decide (s.data.toList[0]? = some 45) = false := decide_eq_false c
    rw [hd] at HH ⊢
    clear c hd e0
    go_enter Tryz.func133, Tryz.ntmps133
    go_wp2_with fail
    refine Calls.mono HH.out ?_
    rintro e w' ⟨rfl, rfl⟩
    go_wp2_with fail
    go_ret2
    exact ⟨s, false, rfl, rfl, rfl, rfl⟩

theorem cutPrefix_minus (s : ByteArray) (w : World) (hs : s.size ≤ 65536) :
    Calls Tryz.prog 105 #[.string s, .string ⟨#[45]⟩] w fun e w' => ∃ (T : ByteArray) (b : Bool), e = .returned (.tuple #[.string T, .bool b]) ∧ b = decide (s.data.toList[0]? = some 45) ∧ T.data.toList = (if b then s.data.toList.drop 1 else s.data.toList) ∧ w = w' := by
  have HH := hid (cut_minus s w hs)
  go_enter Tryz.func105, Tryz.ntmps105
  go_wp2_with fail
  refine Calls.mono HH.out ?_
  rintro e w' ⟨T, b, rfl, h1, h2, rfl⟩
  have HR := hid (And.intro h1 h2)
  clear h1 h2
  go_wp2_with fail
  go_ret2
  exact ⟨T, b, rfl, HR.out.1, HR.out.2, rfl⟩
def wdig (b : Bool) (l : List UInt8) : List UInt8 := if b then l.drop 1 else l
theorem pErr_ok (s : ByteArray) (hs : s.size ≤ 65536) (h : IsNum s.data.toList) : pErr s = 0 := by unfold pErr; rw [if_neg (by omega), if_pos h]
theorem pErr_not (s : ByteArray) (hs : s.size ≤ 65536) (h : ¬ IsNum s.data.toList) : pErr s = 110 := by unfold pErr; rw [if_neg (by omega), if_neg h]

end Go.Proofs.YtldeiapikkebgaaGreatDoor

/- Fractions: ratio.Print: of any fraction, good or refused. -/
namespace Go.Proofs.YtldeiapikkebgaaGreatDoor
open Go.RowKit Go.Lib
set_option linter.unusedVariables false

def rtext (n : Bool) (xs ys : List Int) : List UInt8 := if ys = [1] then wtext n xs else wtext n xs ++ 47 :: decDigits (val ys).toNat

set_option maxHeartbeats 1600000 in
set_option maxRecDepth 100000 in
theorem rPrint_err (n : Bool) (a : Option Addr) (ca : Nat) (xs : List Int) (b : Option Addr) (cb : Nat) (ys : List Int) (w : World) (sx : Sl w (.slice a xs.length ca) xs) (sy : Sl w (.slice b ys.length cb) ys) (he : rchk n xs ys ≠ 0) :
    Calls Tryz.prog 40 #[.agg #[.bool n, .slice a xs.length ca, .slice b ys.length cb]] w fun e w' => e = .returned (.tuple #[.string ⟨#[]⟩, .int .i64 (rchk n xs ys)]) ∧ Below w.heap.size w w' := by
  have HB := hid (alloc_later w (.cells #[.bool n, .slice a xs.length ca, .slice b ys.length cb] 26))
  have HC := hid (rcheck_any n _ xs _ ys (w.alloc (.cells #[.bool n, .slice a xs.length ca, .slice b ys.length cb] 26)) (sx.later HB.out) (sy.later HB.out))
  obtain ⟨E, hE⟩ : ∃ E, rchk n xs ys = E := ⟨_, rfl⟩
  rw [hE] at HC he ⊢
  have he' : (E == 0) = false := beq_eq_false_iff_ne.2 he
  clear he hE sx sy
  go_enter Tryz.func40, Tryz.ntmps40
  go_wp2_with fail
  refine Calls.mono HC.out ?_
  rintro e w1 ⟨rfl, hb1⟩
  have HBN := hid (bt HB.out hb1)
  clear hb1 HC
  go_wp2_with fail
  go_ret2
  exact ⟨rfl, HBN.out⟩

set_option maxHeartbeats 3200000 in
set_option maxRecDepth 100000 in
theorem rPrint_ok (n : Bool) (a : Option Addr) (ca : Nat) (xs : List Int) (b : Option Addr) (cb : Nat) (ys : List Int) (w : World) (sx : Sl w (.slice a xs.length ca) xs) (sy : Sl w (.slice b ys.length cb) ys) (hx : rchk n xs ys = 0) (htab : Tab w) :
    Calls Tryz.prog 40 #[.agg #[.bool n, .slice a xs.length ca, .slice b ys.length cb]] w fun e w' => ∃ T : ByteArray, e = .returned (.tuple #[.string T, .int .i64 0]) ∧ T.data.toList = rtext n xs ys ∧ Below w.heap.size w w' := by
  obtain ⟨lx, ly, tx, ty, y0', nx, g1⟩ := rchk_ok hx
  have wx := sx.wd
  have wy := sy.wd
  have HB := hid (alloc_later w (.cells #[.bool n, .slice a xs.length ca, .slice b ys.length cb] 26))
  have HN := hid (Box.made w 26 #[.bool n, .slice a xs.length ca, .slice b ys.length cb])
  have HS := hid (And.intro (sx.later HB.out) (sy.later HB.out))
  have HC := hid (rcheck_any n _ xs _ ys (w.alloc (.cells #[.bool n, .slice a xs.length ca, .slice b ys.length cb] 26)) HS.out.1 HS.out.2)
  rw [hx] at HC
  have HW := hid (fun ww (hb : Below (w.alloc (.cells #[.bool n, .slice a xs.length ca, .slice b ys.length cb] 26)).heap.size (w.alloc (.cells #[.bool n, .slice a xs.length ca, .slice b ys.length cb] 26)) ww) => wprint_any n _ xs ww (HS.out.1.later hb) (wchk_good lx tx nx) (htab.later (bt HB.out hb)))
  have HO := hid (fun ww (hb : Below (w.alloc (.cells #[.bool n, .slice a xs.length ca, .slice b ys.length cb] 26)).heap.size (w.alloc (.cells #[.bool n, .slice a xs.length ca, .slice b ys.length cb] 26)) ww) => isOne_any _ ys ww (HS.out.2.later hb))
  have HD := hid (fun ww (hb : Below (w.alloc (.cells #[.bool n, .slice a xs.length ca, .slice b ys.length cb] 26)).heap.size (w.alloc (.cells #[.bool n, .slice a xs.length ca, .slice b ys.length cb] 26)) ww) => print_any _ ys ww (HS.out.2.later hb) (by omega) (htab.later (bt HB.out hb)))
  rw [chk_good (by omega) ty, if_pos rfl] at HD
  have hd1 := dec_short wx lx
  have hd2 := dec_short wy ly
  obtain ⟨D, hD⟩ : ∃ D : ByteArray, D = ⟨(decDigits (val ys).toNat).toArray⟩ := ⟨_, rfl⟩
  rw [← hD] at HD
  have HDL : Hid (D.data.toList = decDigits (val ys).toNat) := by show _ = _; rw [hD]
  have hDs : D.size ≤ 20481 := by rw [hD]; show (decDigits (val ys).toNat).toArray.size ≤ _; rw [List.size_toArray]; exact hd2
  have HL1 : Hid ((wtext n xs).length ≤ 20482) := by
    show _ ≤ _
    unfold wtext
    rw [List.length_append]
    have : (if n then [45] else [] : List UInt8).length ≤ 1 := by cases n <;> simp
    omega
  clear sx sy hx tx ty g1 htab wx wy hD hd1 hd2 nx y0'
  by_cases h1 : ys = [1]
  · rw [decide_eq_true h1] at HO
    have HR : Hid (rtext n xs ys = wtext n xs) := by show _ = _; unfold rtext; rw [if_pos h1]
    rw [HR.out]
    clear h1
    go_enter Tryz.func40, Tryz.ntmps40
    go_wp2_with fail
    refine Calls.mono HC.out ?_
    generalize (w.alloc (.cells #[.bool n, .slice a xs.length ca, .slice b ys.length cb] 26)) = X at *
    rintro e w1 ⟨rfl, hb1⟩
    obtain ⟨p0, p1, p2, _⟩ := res_box3 HN.out hb1
    have HW1 := hid (HW.out w1 hb1)
    have HB1 := hid hb1
    clear hb1 HC HW HD
    go_wp2_with fail
    refine Calls.mono HW1.out ?_
    rintro e w2 ⟨T, rfl, hT, hb2⟩
    have HT := hid hT
    have HB2 := hid (bt HB1.out hb2)
    have HO2 := hid (HO.out w2 HB2.out)
    clear hT hb2 HW1 HO p0 p1 p2
    obtain ⟨p0, p1, p2, _⟩ := res_box3 HN.out HB2.out
    go_wp2_with fail
    refine Calls.mono HO2.out ?_
    rintro e w3 ⟨rfl, rfl⟩
    go_wp2_with fail
    go_ret2
    exact ⟨T, rfl, HT.out, bt HB.out HB2.out⟩
  · rw [decide_eq_false h1] at HO
    have HR : Hid (rtext n xs ys = wtext n xs ++ 47 :: decDigits (val ys).toNat) := by show _ = _; unfold rtext; rw [if_neg h1]
    rw [HR.out]
    clear h1
    go_enter Tryz.func40, Tryz.ntmps40
    go_wp2_with fail
    refine Calls.mono HC.out ?_
    generalize (w.alloc (.cells #[.bool n, .slice a xs.length ca, .slice b ys.length cb] 26)) = X at *
    rintro e w1 ⟨rfl, hb1⟩
    obtain ⟨p0, p1, p2, _⟩ := res_box3 HN.out hb1
    have HW1 := hid (HW.out w1 hb1)
    have HB1 := hid hb1
    clear hb1 HC HW
    go_wp2_with fail
    refine Calls.mono HW1.out ?_
    rintro e w2 ⟨T, rfl, hT, hb2⟩
    have HT := hid hT
    have hTs : T.size ≤ 20482 := by
      have e1 : T.data.toList.length = T.size := Array.length_toList
      rw [← e1, hT]
      exact HL1.out
    have HB2 := hid (bt HB1.out hb2)
    have HO2 := hid (HO.out w2 HB2.out)
    have HD2 := hid (HD.out w2 HB2.out)
    clear hT hb2 HW1 HO HD p0 p1 p2
    obtain ⟨p0, p1, p2, _⟩ := res_box3 HN.out HB2.out
    go_wp2_with fail
    refine Calls.mono HO2.out ?_
    rintro e w3 ⟨rfl, rfl⟩
    go_wp2_with fail
    refine Calls.mono HD2.out ?_
    rintro e w4 ⟨rfl, hb4⟩
    have HBN := hid (bt HB.out (bt HB2.out hb4))
    have hg1 : ¬ (9223372036854775807 : Int) < (T.size : Int) + 1 := by omega
    have hg2 : ¬ (9223372036854775807 : Int) < (T.size : Int) + 1 + (D.size : Int) := by omega
    clear hb4 HD2
    go_wp2_with fail
    go_ret2
    refine ⟨_, rfl, ?_, HBN.out⟩
    rw [← HDL.out, ← HT.out]
    simp
end Go.Proofs.YtldeiapikkebgaaGreatDoor

/- Complex fractions: gauss.Print: of any, good or refused. -/
namespace Go.Proofs.YtldeiapikkebgaaGreatDoor
open Go.RowKit
set_option linter.unusedVariables false

def RPr (n : Bool) (xs ys : List Int) (w : World) (x : Ending) (w' : World) : Prop := ∃ S : ByteArray, x = .returned (.tuple #[.string S, .int .i64 (rchk n xs ys)]) ∧ (rchk n xs ys = 0 → S.data.toList = rtext n xs ys) ∧ Below w.heap.size w w'
theorem grPrint_any (n : Bool) (a : Option Addr) (ca : Nat) (xs : List Int) (b : Option Addr) (cb : Nat) (ys : List Int) (w : World) (sx : Sl w (.slice a xs.length ca) xs) (sy : Sl w (.slice b ys.length cb) ys) (htab : Tab w) :
    Calls Tryz.prog 40 #[.agg #[.bool n, .slice a xs.length ca, .slice b ys.length cb]] w (RPr n xs ys w) := by
  by_cases h : rchk n xs ys = 0
  · refine Calls.mono (rPrint_ok n a ca xs b cb ys w sx sy h htab) ?_
    rintro e w' ⟨S, rfl, hS, hb⟩
    exact ⟨S, by rw [h], fun _ => hS, hb⟩
  · refine Calls.mono (rPrint_err n a ca xs b cb ys w sx sy h) ?_
    rintro e w' ⟨rfl, hb⟩
    exact ⟨_, rfl, fun h' => absurd h' h, hb⟩
theorem rtext_short {n : Bool} {xs ys : List Int} (wx : Wd xs) (wy : Wd ys) (h : rchk n xs ys = 0) : (rtext n xs ys).length ≤ 40964 := by
  obtain ⟨lx, ly, _⟩ := rchk_ok h
  have hd1 := dec_short wx lx
  have hd2 := dec_short wy ly
  have h1 : (wtext n xs).length ≤ 20482 := by
    unfold wtext
    rw [List.length_append]
    have : (if n then [45] else [] : List UInt8).length ≤ 1 := by cases n <;> simp
    omega
  unfold rtext
  by_cases h2 : ys = [1]
  · rw [if_pos h2]; omega
  · rw [if_neg h2, List.length_append, List.length_cons]; omega
def gtext (n : Bool) (xs ys : List Int) (m : Bool) (us vs : List Int) : List UInt8 := rtext n xs ys ++ 32 :: rtext m us vs
def gpErr (n : Bool) (xs ys : List Int) (m : Bool) (us vs : List Int) : Int := fstE (gchk n xs ys m us vs) (if 65536 < (gtext n xs ys m us vs).length then 3 else 0)

set_option maxHeartbeats 3200000 in
set_option maxRecDepth 100000 in
theorem gPrint_any (n : Bool) (a : Option Addr) (ca : Nat) (xs : List Int) (b : Option Addr) (cb : Nat) (ys : List Int) (m : Bool) (c : Option Addr) (cc : Nat) (us : List Int) (d : Option Addr) (cd : Nat) (vs : List Int) (w : World) (sx : Sl w (.slice a xs.length ca) xs) (sy : Sl w (.slice b ys.length cb) ys) (su : Sl w (.slice c us.length cc) us) (sv : Sl w (.slice d vs.length cd) vs) (htab : Tab w) :
    Calls Tryz.prog 17 #[.agg #[.bool n, .slice a xs.length ca, .slice b ys.length cb, .bool m, .slice c us.length cc, .slice d vs.length cd]] w fun x w' => ∃ S : ByteArray, x = .returned (.tuple #[.string S, .int .i64 (gpErr n xs ys m us vs)]) ∧ (gpErr n xs ys m us vs = 0 → S.data.toList = gtext n xs ys m us vs) ∧ (gpErr n xs ys m us vs ≠ 0 → S = ⟨#[]⟩) ∧ Below w.heap.size w w' := by
  have HX := hid (Box.made w 28 #[.bool n, .slice a xs.length ca, .slice b ys.length cb, .bool m, .slice c us.length cc, .slice d vs.length cd])
  have HB := hid (alloc_later w (.cells #[.bool n, .slice a xs.length ca, .slice b ys.length cb, .bool m, .slice c us.length cc, .slice d vs.length cd] 28))
  have H1 := hid (grPrint_any n a ca xs b cb ys (w.alloc (.cells #[.bool n, .slice a xs.length ca, .slice b ys.length cb, .bool m, .slice c us.length cc, .slice d vs.length cd] 28)) (sx.later HB.out) (sy.later HB.out) (htab.later HB.out))
  have H2 : Hid (∀ V, Below w.heap.size w V → Calls Tryz.prog 40 #[.agg #[.bool m, .slice c us.length cc, .slice d vs.length cd]] V (RPr m us vs V)) := fun V hv => grPrint_any m c cc us d cd vs V (su.later hv) (sv.later hv) (htab.later hv)
  have HG : Hid (∀ e, gchk n xs ys m us vs = e → e ≠ 0 → gpErr n xs ys m us vs = e) := fun e h he => by unfold gpErr; rw [h]; exact fstE_err _ he
  have HG0 : Hid (gchk n xs ys m us vs = 0 → gpErr n xs ys m us vs = if 65536 < (gtext n xs ys m us vs).length then 3 else 0) := fun h => by unfold gpErr; rw [h]; exact fstE_zero _
  have HK1 : Hid (rchk n xs ys ≠ 0 → gchk n xs ys m us vs = rchk n xs ys) := fun h => fstE_err _ h
  have HK2 : Hid (rchk n xs ys = 0 → gchk n xs ys m us vs = rchk m us vs) := fun h => by unfold gchk; rw [h]; exact fstE_zero _
  have HS1 : Hid (rchk n xs ys = 0 → (rtext n xs ys).length ≤ 40964) := fun h => rtext_short sx.wd sy.wd h
  have HS2 : Hid (rchk m us vs = 0 → (rtext m us vs).length ≤ 40964) := fun h => rtext_short su.wd sv.wd h
  have HGT : Hid (gtext n xs ys m us vs = rtext n xs ys ++ 32 :: rtext m us vs) := rfl
  generalize gtext n xs ys m us vs = GT at *
  generalize gpErr n xs ys m us vs = GE at *
  generalize gchk n xs ys m us vs = GC at *
  clear sx sy su sv htab
  obtain ⟨X, hX⟩ : ∃ X, w.alloc (.cells #[.bool n, .slice a xs.length ca, .slice b ys.length cb, .bool m, .slice c us.length cc, .slice d vs.length cd] 28) = X := ⟨_, rfl⟩
  rw [hX] at HX HB H1
  have k0 : X.cell? ⟨w.heap.size, 0, none⟩ = some (.bool n) := HX.out.cell 0
  have k1 : X.cell? ⟨w.heap.size, 1, none⟩ = some (.slice a xs.length ca) := HX.out.cell 1
  have k2 : X.cell? ⟨w.heap.size, 2, none⟩ = some (.slice b ys.length cb) := HX.out.cell 2
  have k3 : X.cell? ⟨w.heap.size, 3, none⟩ = some (.bool m) := HX.out.cell 3
  have k4 : X.cell? ⟨w.heap.size, 4, none⟩ = some (.slice c us.length cc) := HX.out.cell 4
  have k5 : X.cell? ⟨w.heap.size, 5, none⟩ = some (.slice d vs.length cd) := HX.out.cell 5
  have HE1 : Hid (∃ e1, rchk n xs ys = e1) := ⟨_, rfl⟩
  go_enter Tryz.func17, Tryz.ntmps17
  go_wp2_with fail
  refine Calls.mono H1.out ?_
  rintro x w1 ⟨S, rfl, hS, hb1⟩
  have HW1 := hid (bt HB.out hb1)
  have HA1 := hid (HX.out.later hb1 HX.out.lt)
  have HSS := hid hS
  clear hS hb1 H1 k0 k1 k2 k3 k4 k5
  have k0 : w1.cell? ⟨w.heap.size, 0, none⟩ = some (.bool n) := HA1.out.cell 0
  have k1 : w1.cell? ⟨w.heap.size, 1, none⟩ = some (.slice a xs.length ca) := HA1.out.cell 1
  have k2 : w1.cell? ⟨w.heap.size, 2, none⟩ = some (.slice b ys.length cb) := HA1.out.cell 2
  have k3 : w1.cell? ⟨w.heap.size, 3, none⟩ = some (.bool m) := HA1.out.cell 3
  have k4 : w1.cell? ⟨w.heap.size, 4, none⟩ = some (.slice c us.length cc) := HA1.out.cell 4
  have k5 : w1.cell? ⟨w.heap.size, 5, none⟩ = some (.slice d vs.length cd) := HA1.out.cell 5
  by_cases h1 : rchk n xs ys = 0
  · have HZ1 := hid h1
    have hSl : S.size ≤ 40964 := by
      have e1 : S.data.toList.length = S.size := Array.length_toList
      rw [← e1, HSS.out h1]
      exact HS1.out h1
    rw [h1]
    clear h1
    have H3 := hid (H2.out w1 HW1.out)
    go_wp2_with fail
    refine Calls.mono H3.out ?_
    rintro x w2 ⟨U, rfl, hU, hb2⟩
    have HW2 := hid (bt HW1.out hb2)
    have HUU := hid hU
    clear hU hb2 H3 H2 k0 k1 k2 k3 k4 k5
    by_cases h2 : rchk m us vs = 0
    · have hUl : U.size ≤ 40964 := by
        have e1 : U.data.toList.length = U.size := Array.length_toList
        rw [← e1, HUU.out h2]
        exact HS2.out h2
      have HGC := hid ((HK2.out HZ1.out).trans h2)
      have HLL : Hid (GT.length = S.size + 1 + U.size) := by
        show _ = _
        rw [HGT.out, ← HSS.out HZ1.out, ← HUU.out h2, List.length_append, List.length_cons, Array.length_toList, Array.length_toList]
        show S.size + (U.size + 1) = _
        omega
      have HTX : Hid (GT = S.data.toList ++ 32 :: U.data.toList) := by
        show _ = _
        rw [HGT.out, ← HSS.out HZ1.out, ← HUU.out h2]
      rw [h2]
      clear h2
      have hg1 : ¬ (9223372036854775807 : Int) < (S.size : Int) + 1 := by omega
      have hg2 : ¬ (9223372036854775807 : Int) < (S.size : Int) + 1 + (U.size : Int) := by omega
      have hw1 : IntKind.i64.wrap ((S.size : Int) + 1) = (S.size : Int) + 1 := by rw [IntKind.wrap_i64]; omega
      have hw2 : IntKind.i64.wrap ((S.size : Int) + 1 + (U.size : Int)) = (S.size : Int) + 1 + (U.size : Int) := by rw [IntKind.wrap_i64]; omega
      by_cases hl : (65536 : Int) < (S.size : Int) + 1 + (U.size : Int)
      · have HGE : Hid (GE = 3) := by show _ = _; rw [HG0.out HGC.out, if_pos (by have := HLL.out; omega)]
        have hlb : decide ((65536 : Int) < (S.size : Int) + 1 + (U.size : Int)) = true := decide_eq_true hl
        clear hl hSl hUl hg1 hg2
        go_wp2_with fail
        go_ret2
        rw [HGE.out]
        exact ⟨_, rfl, fun h => absurd h (by decide), fun _ => rfl, HW2.out⟩
      · have HGE : Hid (GE = 0) := by show _ = _; rw [HG0.out HGC.out, if_neg (by have := HLL.out; omega)]
        have hlb : decide ((65536 : Int) < (S.size : Int) + 1 + (U.size : Int)) = false := decide_eq_false hl
        clear hl hSl hUl
        go_wp2_with fail
        go_ret2
        rw [HGE.out]
        refine ⟨_, rfl, fun _ => ?_, fun h => absurd rfl h, HW2.out⟩
        rw [HTX.out]
        simp
    · have HGE := hid (HG.out _ (HK2.out HZ1.out) h2)
      have h2' : (rchk m us vs == 0) = false := by simp [h2]
      have h2n : (rchk m us vs != 0) = true := by simp [h2]
      go_wp2_with fail
      go_ret2
      rw [HGE.out]
      exact ⟨_, rfl, fun h => absurd h h2, fun _ => rfl, HW2.out⟩
  · have HGE := hid (HG.out _ (HK1.out h1) h1)
    have h1' : (rchk n xs ys == 0) = false := by simp [h1]
    have h1n : (rchk n xs ys != 0) = true := by simp [h1]
    clear H2
    go_wp2_with fail
    go_ret2
    rw [HGE.out]
    exact ⟨_, rfl, fun h => absurd h h1, fun _ => rfl, HW1.out⟩
end Go.Proofs.YtldeiapikkebgaaGreatDoor

/- The document's own digits of a number: slackwaterref01.Digits: of every number. -/
namespace Go.Proofs.YtldeiapikkebgaaGreatDoor
open Go.RowKit Lib
set_option linter.unusedVariables false

theorem Tryz.infoB : (Tryz.prog.info? 5).map (fun i => (i.zero, i.size, i.bytes)) = some (some (.int .u8 0), 1, 1) := by kernel_rfl
def bI (l : List UInt8) : List Value := l.map fun b => Value.int .u8 (b.toNat : Int)
def Left (X V : Nat) (bs : List UInt8) : Prop := (0 < V → decDigits X = decDigits V ++ bs.reverse) ∧ (V = 0 → decDigits X = bs.reverse)
theorem Left.step {X V : Nat} {bs : List UInt8} (h : Left X V bs) (hV : 0 < V) : Left X (V / 10) (bs ++ [UInt8.ofNat (48 + V % 10)]) := by
  have e := h.1 hV
  by_cases c : V < 10
  · have h0 : V / 10 = 0 := by omega
    refine ⟨fun h1 => by omega, fun _ => ?_⟩
    rw [e, decDigits, dif_pos c, List.reverse_append, show V % 10 = V by omega]
    rfl
  · refine ⟨fun _ => ?_, fun h1 => by omega⟩
    rw [e, decDigits, dif_neg c, List.reverse_append]
    simp
theorem Left.len {X V : Nat} {bs : List UInt8} (h : Left X V bs) : bs.length ≤ (decDigits X).length := by
  by_cases c : V = 0
  · rw [h.2 c, List.length_reverse]; exact Nat.le_refl _
  · rw [h.1 (by omega), List.length_append, List.length_reverse]; omega
theorem foldl_push : ∀ (l : List UInt8) (s : ByteArray), (l.map fun b => (b.toNat : Int)).foldl (fun r n => r.push (UInt8.ofNat n.toNat)) s = ⟨s.data ++ l.toArray⟩
  | [], s => by simp
  | b :: l, s => by
    rw [List.map_cons, List.foldl_cons, foldl_push l]
    simp [ByteArray.push]
theorem text_of_bytes (l : List UInt8) : (l.map fun b => (b.toNat : Int)).foldl (fun r n => r.push (UInt8.ofNat n.toNat)) ByteArray.empty = ⟨l.toArray⟩ := by
  rw [foldl_push]; simp [ByteArray.empty, ByteArray.emptyWithCapacity]; rfl

theorem Sl.reads {w : World} {a : Option Addr} {c : Nat} {xs : List Int} (h : Sl w (.slice a xs.length c) xs) : Reads w w.heap.size a xs.length c xs := by
  obtain ⟨a', c', hv, hr⟩ := h
  simp only [Value.slice.injEq, true_and] at hv
  obtain ⟨rfl, rfl⟩ := hv
  exact hr
def OwnB (w : World) (base g n : Nat) (l : List UInt8) : Prop := w.ownsRow base 5 1 (.slice (some ⟨g, 0, none⟩) n n) n (bI l)
theorem OwnB.len {w : World} {base g n : Nat} {l : List UInt8} (h : OwnB w base g n l) : l.length = n := by have := h.1; simpa [bI] using this
theorem ownB_cell {w : World} {base g n cap : Nat} {l : List UInt8} (h : w.ownsRow base 5 1 (.slice (some ⟨g, 0, none⟩) n cap) n (bI l)) (k : Nat) (hk : k < n) : w.cell? ⟨g, k, none⟩ = some (.int .u8 ((l[k]?.getD 0).toNat : Int)) := by
  have hl : l.length = n := by have := h.1; simpa [bI] using this
  have := h.cellAt k (by omega)
  rw [this]
  unfold bI
  rw [List.getElem?_map, List.getElem?_eq_getElem (by omega)]
  rfl
theorem OwnB.set {w : World} {base g n : Nat} {l : List UInt8} (h : OwnB w base g n l) (k : Nat) (b : UInt8) : OwnB (w.setCell ⟨g, k, none⟩ (.int .u8 (b.toNat : Int))) base g n (l.set k b) := by
  have e := (World.ownsRow.stored h k (.int .u8 (b.toNat : Int))).1
  unfold OwnB
  have e2 : bI (l.set k b) = (bI l).set k (.int .u8 (b.toNat : Int)) := by unfold bI; rw [List.map_set]
  rw [e2]
  exact e
theorem made_bytes (n : Nat) : (madeCells #[Value.int .u8 0] n).toList = bI (List.replicate n 0) := by
  rw [toList_madeCells_one]; simp [bI]
theorem owns_unlike {w : World} {b1 b2 e1 e2 n1 n2 : Nat} {v1 v2 : Value} {x1 x2 : List Value} (h : w.ownsRow b1 e1 1 v1 n1 x1) (g : w.ownsRow b2 e2 1 v2 n2 x2) (hne : e1 ≠ e2) : v1.ownBlock = none ∨ v1.ownBlock ≠ v2.ownBlock := by
  rcases h.2 with ⟨rfl, _⟩ | ⟨g1, c1, u1, rfl, _, hg1, _⟩
  · exact .inl rfl
  · right
    rcases g.2 with ⟨rfl, _⟩ | ⟨g2, c2, u2, rfl, _, hg2, _⟩
    · simp [Value.ownBlock]
    · intro e
      simp [Value.ownBlock] at e
      subst e
      rw [hg1] at hg2
      simp at hg2
      exact hne hg2.2
theorem own_shape1 {w : World} {base e n : Nat} {v : Value} {xs : List Value} (h : w.ownsRow base e 1 v n xs) (hn : 0 < n) : ∃ g cap, v = .slice (some ⟨g, 0, none⟩) n cap ∧ base ≤ g ∧ g < w.heap.size ∧ n ≤ cap ∧ cap ≤ maxLen := by
  obtain ⟨g, cap, rfl, h1, h2⟩ := own_shape' h hn
  have := World.ownsRow.lt h g rfl
  exact ⟨g, cap, rfl, this.1, this.2, h1, h2⟩
theorem dec_len (n : Nat) : (decDigits n).length = nDigits n := by
  induction n using decDigits.induct with
  | case1 u h => rw [decDigits, dif_pos h, nDigits_small h]; rfl
  | case2 u h ih => rw [decDigits, dif_neg h, nDigits_big h, List.length_append, ih]; rfl
theorem dec_pos (n : Nat) : 0 < (decDigits n).length := by
  rw [decDigits]
  split
  · simp
  · simp
theorem low_step (Z r k : Nat) : (Z * 10 ^ (k + 1) + r) / 10 = Z * 10 ^ k + r / 10 ∧ (Z * 10 ^ (k + 1) + r) % 10 = r % 10 := by
  have e : Z * 10 ^ (k + 1) + r = r + Z * 10 ^ k * 10 := by rw [Nat.pow_succ, Nat.mul_assoc]; omega
  rw [e, Nat.add_mul_div_right _ _ (by decide), Nat.add_mul_mod_self_right]
  exact ⟨by omega, rfl⟩
theorem ret_str {a b : ByteArray} (h : a = b) : Ending.returned (.string a) = .returned (.string b) := by rw [h]
theorem byte_val (d : Nat) (h : d ≤ 57) : ((UInt8.ofNat d).toNat : Int) = (d : Int) := by
  have : (UInt8.ofNat d).toNat = d := by rw [UInt8.toNat_ofNat']; omega
  rw [this]

set_option maxHeartbeats 6400000 in
set_option maxRecDepth 100000 in
theorem refDigits_any (v : Value) (xs : List Int) (w : World) (h : Sl w v xs) (hx : Trimmed xs) (hn : xs.length ≤ 8192) :
    Calls Tryz.prog 72 #[v] w fun e w' => e = .returned (.string ⟨(decDigits (val xs).toNat).toArray⟩) ∧ Below w.heap.size w w' := by
  obtain ⟨i0, hi, hz0, hz1, hz2⟩ := info_parts Tryz.infoB
  have wx := h.wd
  have HS := hid h
  obtain ⟨a, cap, rfl, hr⟩ := h
  clear hr
  by_cases h0 : xs.length = 0
  · have hx0 : xs = [] := List.eq_nil_of_length_eq_zero h0
    have HE : Hid ((⟨(decDigits (val xs).toNat).toArray⟩ : ByteArray) = ⟨#[48]⟩) := by
      show _ = _
      rw [hx0, val_nil]
      simp [decDigits]
    rw [h0]
    clear HS hx h0 hx0 hn wx
    go_enter Tryz.func72, Tryz.ntmps72
    go_wp2_with fail
    go_ret
    exact ⟨ret_str HE.out.symm, Below.refl _ _⟩
  · obtain ⟨X, hX⟩ : ∃ X, (val xs).toNat = X := ⟨_, rfl⟩
    have hlen : (decDigits X).length ≤ 100000 := by
      rw [dec_len, ← hX]
      have := digits_few (val_nonneg wx) (val_lt wx)
      omega
    have hpos := dec_pos X
    have hxz : ((xs.length : Int) == 0) = false := by simp; exact fun e => h0 (by rw [e]; rfl)
    rw [hX]
    have HL := hid (And.intro hlen hpos)
    have HST : Hid (Left X (val xs).toNat []) := ⟨fun _ => by rw [hX]; simp, fun e => by
      exfalso
      have h1 := val_ge wx hx (by omega)
      have h2 := pw_pos (xs.length - 1)
      omega⟩
    clear hlen hpos wx h0 hX
    go_enter Tryz.func72, Tryz.ntmps72
    go_wp2_with fail
    go_loopg [0, 3] (val xs).toNat (fun k s0 s3 wr => ∃ (a : Option Addr) (c : Nat) (us : List Int) (bs : List UInt8), s0 = .slice a us.length c ∧ us.length ≤ 8192 ∧ Hid (Sl wr (.slice a us.length c) us ∧ Trimmed us ∧ k = (val us).toNat ∧ Left X (val us).toNat bs) ∧ wr.ownsRow w.heap.size 5 1 s3 bs.length (bI bs) ∧ Below w.heap.size w wr)
    case atStart => exact ⟨a, cap, xs, [], rfl, hn, ⟨HS.out, hx, rfl, HST.out⟩, World.ownsRow_nil _ _ _ _, Below.refl _ _⟩
    case round =>
      clear HS HST hx hn hxz
      obtain ⟨a1, c1, us, bs, rfl, lu, HR, hob, hb⟩ := hrel
      by_cases h0 : us.length = 0
      · have hz : ¬ (0 : Int) < (us.length : Int) := by omega
        have HE : Hid (decDigits X = bs.reverse) := by
          have e1 : us = [] := List.eq_nil_of_length_eq_zero h0
          exact HR.out.2.2.2.2 (by rw [e1, val_nil]; rfl)
        have hbl : bs.length = (decDigits X).length := by rw [HE.out, List.length_reverse]
        have hb0 : 0 < bs.length := by have := HL.out; omega
        have hb1 : bs.length ≤ 100000 := by have := HL.out; omega
        obtain ⟨gb, cb, hv, _, gl, cl, cm⟩ := own_shape1 hob hb0
        subst hv
        obtain ⟨n, hnn⟩ : ∃ n, bs.length = n := ⟨_, rfl⟩
        rw [hnn] at hob hb0 hb1 cl
        rw [hnn]
        have HOB := hid hob
        have HB := hid hb
        have HNN := hid hnn
        clear hob hb HR hbl h0 hnn
        obtain ⟨u0, hu0⟩ : ∃ u0 : World, u0 = wr := ⟨_, rfl⟩
        subst hu0
        go_wp2_with (at_make; refine wpList_make_full _ rfl _ _ 75 rfl u0.heap.size 5 i0 (.int .u8 0) 1 Tryz.underlying75 hi hz0 hz1 _ _ _ _ n rfl rfl (by omega) (by omega) (by rw [hz2]; omega) (by unfold maxLen; omega) (Nat.le_refl _) ?_)
        intro w1 hown hgrow
        have hbel : Below u0.heap.size u0 w1 := (Below.refl _ _).grown hgrow (Nat.le_refl _) (fun k hk => by simp at hk)
        have HO : Hid (OwnB w1 u0.heap.size u0.heap.size n (List.replicate n 0)) := by
          have e := hown
          rw [made_bytes] at e
          exact e
        clear hown hgrow
        go_wp2_with fail
        go_loopw [8] (fun t w2 => ∃ (k : Nat) (l : List UInt8), k ≤ n ∧ t = .int .i64 k ∧ Hid (∀ j, j < k → l[j]?.getD 0 = bs[n - 1 - j]?.getD 0) ∧ OwnB w2 u0.heap.size u0.heap.size n l ∧ Below u0.heap.size u0 w2) (fun t _ => n - (Go.RowKit.intOf t).toNat)
        case atStart => exact ⟨0, _, by omega, rfl, fun j hj => by omega, HO.out, hbel⟩
        case round =>
          obtain ⟨k, l, hk, rfl, HJ, ho, hb2⟩ := hrel
          by_cases hlt : k < n
          · have x1 : u0.cell? ⟨gb, n - 1 - k, none⟩ = some (.int .u8 ((bs[n - 1 - k]?.getD 0).toNat : Int)) := ownB_cell HOB.out _ (by omega)
            have x2 : wr.cell? ⟨gb, n - 1 - k, none⟩ = some (.int .u8 ((bs[n - 1 - k]?.getD 0).toNat : Int)) := (hb2.cell (p := ⟨gb, n - 1 - k, none⟩) gl).trans x1
            have him : (n : Int) - 1 - (k : Int) = ((n - 1 - k : Nat) : Int) := by omega
            have hll := ho.len
            have y1 := ownB_cell ho k hlt
            have f1 : wr.frozen? ⟨u0.heap.size, k, none⟩ = false := World.ownsRow.frozenAt ho k
            have HJN : Hid (∀ j, j < k + 1 → (l.set k (bs[n - 1 - k]?.getD 0))[j]?.getD 0 = bs[n - 1 - j]?.getD 0) := fun j hj => by
              rw [List.getElem?_set]
              by_cases e : k = j
              · subst e; rw [if_pos rfl, if_pos (by omega)]; rfl
              · rw [if_neg e]; exact HJ.out j (by omega)
            have HON := hid (And.intro (ho.set k (bs[n - 1 - k]?.getD 0)) (hb2.setCell (p := ⟨u0.heap.size, k, none⟩) (Nat.le_refl _) (.int .u8 ((bs[n - 1 - k]?.getD 0).toNat : Int))))
            have bb : ((bs[n - 1 - k]?.getD 0).toNat : Int) ≤ 255 := by have := UInt8.toNat_lt (bs[n - 1 - k]?.getD 0); omega
            obtain ⟨B, hB⟩ : ∃ B, bs[n - 1 - k]?.getD 0 = B := ⟨_, rfl⟩
            rw [hB] at x2 HJN HON bb
            obtain ⟨m, hm⟩ : ∃ m, n - 1 - k = m := ⟨_, rfl⟩
            rw [hm] at x2 him
            have hmn : m < n := by omega
            have hmc : m < cb := by omega
            clear x1 hll ho hb2 HJ hB hm
            go_wp2_with fail
            go_roundw
            case rel => exact ⟨k + 1, l.set k B, by omega, by go_num, HJN, HON.out.1, HON.out.2⟩
            case measure => simp [Go.RowKit.intOf]; omega
          · obtain rfl : k = n := by omega
            have hll := ho.len
            have hlr : l = bs.reverse := by
              refine List.ext_getElem? fun j => ?_
              by_cases hj : j < k
              · have e1 := HJ.out j hj
                rw [List.getElem?_eq_getElem (by omega), List.getElem?_eq_getElem (by have := HNN.out; omega)] at e1
                rw [List.getElem?_eq_getElem (by omega), List.getElem?_reverse (by have := HNN.out; omega), HNN.out, List.getElem?_eq_getElem (by have := HNN.out; omega)]
                exact congrArg some e1
              · rw [List.getElem?_eq_none (by omega), List.getElem?_eq_none (by rw [List.length_reverse]; have := HNN.out; omega)]
            have hback : (convert 75 9 (.slice (some ⟨u0.heap.size, 0, none⟩) k k)).run Tryz.prog wr = .ok (.string ⟨(decDigits X).toArray⟩) wr := by
              rw [run_convert_bytes_string wr 75 9 5 _ _ _ Tryz.underlying75 Tryz.underlying5 Tryz.underlying9]
              rw [run_bytesToString wr ⟨u0.heap.size, 0, none⟩ k k (l.map fun b => (b.toNat : Int)) ?_, text_of_bytes, hlr, ← HE.out]
              have e2 := run_loadCells_list (P := Tryz.prog) wr ⟨u0.heap.size, 0, none⟩ (bI l) (fun j v hv => by
                have hj : j < k := by
                  by_cases c : j < k
                  · exact c
                  · rw [List.getElem?_eq_none (by unfold bI; rw [List.length_map]; omega)] at hv; simp at hv
                have := World.ownsRow.cellAt ho j (by omega)
                rw [hv] at this
                rw [Addr.add_lit, Nat.zero_add]
                exact this)
              have e3 : (bI l).length = k := by unfold bI; rw [List.length_map]; omega
              rw [e3] at e2
              have e4 : (l.map fun b => (b.toNat : Int)).map (Value.int .u8) = bI l := by unfold bI; rw [List.map_map]; rfl
              rw [e4]
              exact e2
            have HBF := hid (bt HB.out hb2)
            clear ho hb2 HJ hlr
            go_wp2_with fail
            go_ret
            exact ⟨rfl, HBF.out⟩
      · have hz : (0 : Int) < (us.length : Int) := by omega
        have HSM := hid (refSmall_any _ _ _ us 1000000000 wr HR.out.1.reads (by omega) (by omega))
        have HOB := hid hob
        have HB := hid hb
        have hu1 : 0 < us.length := by omega
        clear hob hb h0
        obtain ⟨u0, hu0⟩ : ∃ u0 : World, u0 = wr := ⟨_, rfl⟩
        subst hu0
        go_wp2_with fail
        refine Calls.mono HSM.out ?_
        rintro e w2 ⟨v2, zs, r, rfl, o2, wz, tz, hv, r0, r1, hb2⟩
        obtain ⟨aq, cq, hs⟩ := own_slice' o2
        subst hs
        have lz : zs.length ≤ 8192 := by
          have := len_of_lt wz tz (L := us.length) (by
            have h1 := val_lt HR.out.1.wd
            have h2 := val_nonneg wz
            omega)
          omega
        obtain ⟨R, hR⟩ := Int.eq_ofNat_of_zero_le r0
        subst hR
        have hZn := val_nonneg wz
        obtain ⟨Z, hZ⟩ := Int.eq_ofNat_of_zero_le hZn
        have hVZ : (val us).toNat = Z * 10 ^ 9 + R := by rw [hv, hZ]; omega
        have HMS : Hid (Z < (val us).toNat) := by
          show _ < _
          have h1 := val_ge HR.out.1.wd HR.out.2.1 hu1
          have h2 := pw_pos (us.length - 1)
          omega
        have HLF : Hid (Left X (Z * 10 ^ (9 - 0) + R) bs) := by have e := HR.out.2.2.2; rw [hVZ] at e; exact e
        have HK := hid HR.out.2.2.1
        have HZ := hid (And.intro hZ (And.intro wz tz))
        have HQ := hid o2
        have HO2 := hid (owns_later HOB.out hb2)
        have HB2 := hid (bt HB.out hb2)
        have hR9 : R < 10 ^ 9 := by omega
        have HR9 : Hid (R < 10 ^ (9 - 0)) := hR9
        have hsz := hb2.size
        have hsz0 := HB.out.size
        clear o2 hv hb2 HR HSM HOB hVZ r0 r1 hZ wz tz hZn hR9
        go_wp2_with fail
        go_loopw [3, 5, 6] (fun s3 s5 s6 w3 => ∃ (i r : Nat) (bs : List UInt8), i ≤ 9 ∧ s6 = .int .i64 i ∧ s5 = .int .u32 (r : Int) ∧ Hid (r < 10 ^ (9 - i)) ∧ Hid (Left X (Z * 10 ^ (9 - i) + r) bs) ∧ w3.ownsRow w.heap.size 5 1 s3 bs.length (bI bs) ∧ w3.ownsRow u0.heap.size 94 1 (.slice aq zs.length cq) zs.length (zs.map (Value.int .u32)) ∧ Below w.heap.size w w3) (fun _ _ s6 _ => 9 - (Go.RowKit.intOf s6).toNat)
        case atStart => exact ⟨0, R, bs, by omega, rfl, rfl, HR9, HLF, HO2.out, HQ.out, HB2.out⟩
        case round =>
          clear HR9 HLF HO2 HQ HB2
          obtain ⟨i, r, cs, hi9, rfl, rfl, HRI, HLI, hoc, hoq, hb⟩ := hrel
          have hr10 : r ≤ 1000000000 := by
            have h1 := HRI.out
            have h2 : 10 ^ (9 - i) ≤ 10 ^ 9 := Nat.pow_le_pow_right (by decide) (by omega)
            omega
          have hstop : (i = 9 ∨ (zs.length = 0 ∧ r = 0)) → Z * 10 ^ (9 - i) + r = Z := by
            rintro (e | ⟨e1, e2⟩)
            · subst e
              have := HRI.out
              simp at this ⊢
              omega
            · have e3 : zs = [] := List.eq_nil_of_length_eq_zero e1
              have e4 := HZ.out.1
              rw [e3, val_nil] at e4
              have : Z = 0 := by omega
              rw [this, e2]; simp
          have hgo : i < 9 → (0 < zs.length ∨ 0 < r) → 0 < Z * 10 ^ (9 - i) + r := by
            rintro _ (e | e)
            · have h1 := val_ge HZ.out.2.1 HZ.out.2.2 e
              have h2 := pw_pos (zs.length - 1)
              have h3 := HZ.out.1
              have : 0 < Z := by omega
              have : 0 < Z * 10 ^ (9 - i) := Nat.mul_pos this (Nat.pow_pos (by decide))
              omega
            · omega
          have HST := hid hstop
          have HGO := hid hgo
          clear hstop hgo
          have hcl : cs.length ≤ 100000 := by have := HLI.out.len; have := HL.out; omega
          have hbs := hb.size
          by_cases c9 : i < 9
          · by_cases cz : 0 < zs.length
            · have cz' : (0 : Int) < (zs.length : Int) := by omega
              have hV := HGO.out c9 (.inl cz)
              obtain ⟨j, hj⟩ : ∃ j, 9 - i = j + 1 := ⟨8 - i, by omega⟩
              have hls := low_step Z r j
              have hst := HLI.out.step hV
              rw [hj, hls.1, hls.2] at hst
              have HLN : Hid (Left X (Z * 10 ^ (9 - (i + 1)) + r / 10) (cs ++ [UInt8.ofNat (48 + r % 10)])) := by rw [show 9 - (i + 1) = j by omega]; exact hst
              have HRN : Hid (r / 10 < 10 ^ (9 - (i + 1))) := by
                show _ < _
                have h1 := HRI.out
                rw [hj, Nat.pow_succ] at h1
                rw [show 9 - (i + 1) = j by omega]
                omega
              have hdv : ((r : Int) / 10) = ((r / 10 : Nat) : Int) := by omega
              have hmd : ((r : Int) % 10) = ((r % 10 : Nat) : Int) := by omega
              have hm10 : r % 10 < 10 := by omega
              have HBV := hid (byte_val (48 + r % 10) (by omega))
              have HMM : Hid (bI (cs ++ [UInt8.ofNat (48 + r % 10)]) = bI cs ++ [.int .u8 (48 + (r % 10 : Nat) : Int)]) := by
                show _ = _
                unfold bI
                rw [List.map_append]
                congr 1
                show [Value.int .u8 _] = _
                rw [HBV.out]
                rfl
              obtain ⟨d, hd⟩ : ∃ d, r % 10 = d := ⟨_, rfl⟩
              rw [hd] at hmd hm10 HMM HLN
              obtain ⟨e', he'⟩ : ∃ e', r / 10 = e' := ⟨_, rfl⟩
              rw [he'] at hdv HRN HLN
              have hne := owns_unlike hoq hoc (by decide)
              obtain ⟨RR, hRR⟩ : ∃ RR, RR = bI cs := ⟨_, rfl⟩
              obtain ⟨nc, hnc⟩ : ∃ nc, cs.length = nc := ⟨_, rfl⟩
              rw [← hRR, hnc] at hoc
              rw [← hRR] at HMM
              have HNC := hid hnc
              have HQ := hid hoq
              have HNE := hid hne
              rw [hnc] at hcl
              clear hRR hls hst hj hV hd he' hnc hoq hne HLI HRI HST HGO HBV
              go_wp2_with (at_builtin; refine wpList_append_own _ rfl _ _ 75 rfl w.heap.size 5 i0 (.int .u8 0) 1 1 Tryz.underlying75 hi hz0 hz1 hz2 rfl (by decide) _ _ _ rfl (hoc.alloc _) ⟨wr.heap.size, 0, none⟩ 1 1 [.int .u8 (48 + (d : Int))] rfl rfl (cell_one_new _ _ _) (by simp [Value.oneCell']) (by unfold maxLen; omega) (by omega) (by simp; omega) ?_)
              intro v' w4 ho4 hg4 _
              have HO4 : Hid (w4.ownsRow w.heap.size 5 1 v' (cs ++ [UInt8.ofNat (48 + d)]).length (bI (cs ++ [UInt8.ofNat (48 + d)]))) := by
                show World.ownsRow _ _ _ _ _ _ _
                rw [HMM.out, List.length_append, HNC.out]
                exact ho4
              have HQ4 := hid (World.ownsRow.kept (HQ.out.alloc _) hg4 HNE.out)
              have HB4 : Hid (Below w.heap.size w w4) := (hb.alloc (by omega) _).grown hg4 (by simp; omega) (fun g hg => (hoc.lt g hg).1)
              clear ho4 hg4 hoc hb HQ HNE HMM
              go_wp2_with fail
              go_roundw
              case rel => exact ⟨i + 1, e', _, by omega, by go_num, by go_num, HRN, HLN, HO4.out, HQ4.out, HB4.out⟩
              case measure => simp [Go.RowKit.intOf]; omega
            · have cz' : ¬ (0 : Int) < (zs.length : Int) := by omega
              by_cases cr : 0 < r
              · have cr' : (0 : Int) < (r : Int) := by omega
                have hV := HGO.out c9 (.inr cr)
                obtain ⟨j, hj⟩ : ∃ j, 9 - i = j + 1 := ⟨8 - i, by omega⟩
                have hls := low_step Z r j
                have hst := HLI.out.step hV
                rw [hj, hls.1, hls.2] at hst
                have HLN : Hid (Left X (Z * 10 ^ (9 - (i + 1)) + r / 10) (cs ++ [UInt8.ofNat (48 + r % 10)])) := by rw [show 9 - (i + 1) = j by omega]; exact hst
                have HRN : Hid (r / 10 < 10 ^ (9 - (i + 1))) := by
                  show _ < _
                  have h1 := HRI.out
                  rw [hj, Nat.pow_succ] at h1
                  rw [show 9 - (i + 1) = j by omega]
                  omega
                have hdv : ((r : Int) / 10) = ((r / 10 : Nat) : Int) := by omega
                have hmd : ((r : Int) % 10) = ((r % 10 : Nat) : Int) := by omega
                have hm10 : r % 10 < 10 := by omega
                have HBV := hid (byte_val (48 + r % 10) (by omega))
                have HMM : Hid (bI (cs ++ [UInt8.ofNat (48 + r % 10)]) = bI cs ++ [.int .u8 (48 + (r % 10 : Nat) : Int)]) := by
                  show _ = _
                  unfold bI
                  rw [List.map_append]
                  congr 1
                  show [Value.int .u8 _] = _
                  rw [HBV.out]
                  rfl
                obtain ⟨d, hd⟩ : ∃ d, r % 10 = d := ⟨_, rfl⟩
                rw [hd] at hmd hm10 HMM HLN
                obtain ⟨e', he'⟩ : ∃ e', r / 10 = e' := ⟨_, rfl⟩
                rw [he'] at hdv HRN HLN
                have hne := owns_unlike hoq hoc (by decide)
                obtain ⟨RR, hRR⟩ : ∃ RR, RR = bI cs := ⟨_, rfl⟩
                obtain ⟨nc, hnc⟩ : ∃ nc, cs.length = nc := ⟨_, rfl⟩
                rw [← hRR, hnc] at hoc
                rw [← hRR] at HMM
                have HNC := hid hnc
                have HQ := hid hoq
                have HNE := hid hne
                rw [hnc] at hcl
                clear hRR hls hst hj hV hd he' hnc hoq hne HLI HRI HST HGO HBV
                go_wp2_with (at_builtin; refine wpList_append_own _ rfl _ _ 75 rfl w.heap.size 5 i0 (.int .u8 0) 1 1 Tryz.underlying75 hi hz0 hz1 hz2 rfl (by decide) _ _ _ rfl (hoc.alloc _) ⟨wr.heap.size, 0, none⟩ 1 1 [.int .u8 (48 + (d : Int))] rfl rfl (cell_one_new _ _ _) (by simp [Value.oneCell']) (by unfold maxLen; omega) (by omega) (by simp; omega) ?_)
                intro v' w4 ho4 hg4 _
                have HO4 : Hid (w4.ownsRow w.heap.size 5 1 v' (cs ++ [UInt8.ofNat (48 + d)]).length (bI (cs ++ [UInt8.ofNat (48 + d)]))) := by
                  show World.ownsRow _ _ _ _ _ _ _
                  rw [HMM.out, List.length_append, HNC.out]
                  exact ho4
                have HQ4 := hid (World.ownsRow.kept (HQ.out.alloc _) hg4 HNE.out)
                have HB4 : Hid (Below w.heap.size w w4) := (hb.alloc (by omega) _).grown hg4 (by simp; omega) (fun g hg => (hoc.lt g hg).1)
                clear ho4 hg4 hoc hb HQ HNE HMM
                go_wp2_with fail
                go_roundw
                case rel => exact ⟨i + 1, e', _, by omega, by go_num, by go_num, HRN, HLN, HO4.out, HQ4.out, HB4.out⟩
                case measure => simp [Go.RowKit.intOf]; omega
              · have cr' : ¬ (0 : Int) < (r : Int) := by omega
                have he := HST.out (.inr ⟨by omega, by omega⟩)
                rw [he] at HLI
                have HN : Hid (Sl wr (.slice aq zs.length cq) zs ∧ Trimmed zs ∧ Z = (val zs).toNat ∧ Left X (val zs).toNat cs) := by
                  have e1 := HZ.out.1
                  have e2 : (val zs).toNat = Z := by omega
                  exact ⟨Sl.own hoq HZ.out.2.1, HZ.out.2.2, e2.symm, by rw [e2]; exact HLI.out⟩
                have HOC := hid (And.intro hoc hb)
                clear hoc hoq hb HLI HRI HST HGO he
                go_wp2_with fail
                go_roundg Z
                case rel => exact ⟨aq, cq, zs, cs, rfl, lz, HN, HOC.out.1, HOC.out.2⟩
                case measure => have := HMS.out; have := HK.out; omega
          · have he := HST.out (.inl (by omega))
            rw [he] at HLI
            have HN : Hid (Sl wr (.slice aq zs.length cq) zs ∧ Trimmed zs ∧ Z = (val zs).toNat ∧ Left X (val zs).toNat cs) := by
              have e1 := HZ.out.1
              have e2 : (val zs).toNat = Z := by omega
              exact ⟨Sl.own hoq HZ.out.2.1, HZ.out.2.2, e2.symm, by rw [e2]; exact HLI.out⟩
            have HOC := hid (And.intro hoc hb)
            clear hoc hoq hb HLI HRI HST HGO he
            go_wp2_with fail
            go_roundg Z
            case rel => exact ⟨aq, cq, zs, cs, rfl, lz, HN, HOC.out.1, HOC.out.2⟩
            case measure => have := HMS.out; have := HK.out; omega
end Go.Proofs.YtldeiapikkebgaaGreatDoor

/- The document's own reading of digits: slackwaterref01.Read: of every text. -/
namespace Go.Proofs.YtldeiapikkebgaaGreatDoor
open Go.RowKit
set_option linter.unusedVariables false

theorem ten_step (us vs : List Int) (k : Nat) (cc z c' D : Int) (hk : k < vs.length) (hu : vs[k]?.getD 0 = us[k]?.getD 0) (ht : z + c' * 4294967296 = us[k]?.getD 0 * 10 + cc) (h : valTo vs k + cc * 4294967296 ^ k = valTo us k * 10 + D) :
    valTo (vs.set k z) (k + 1) + c' * 4294967296 ^ (k + 1) = valTo us (k + 1) * 10 + D := by
  rw [valTo_set vs k z hk, valTo_succ, pw_succ]
  generalize (4294967296 : Int) ^ k = P at *
  generalize us[k]?.getD 0 = u at *
  grind
theorem valTo_high (us : List Int) (m : Nat) (h : ∀ j, m ≤ j → us[j]?.getD 0 = 0) : valTo us m = val us := by
  have e : ∀ d, valTo us (m + d) = valTo us m := fun d => by
    induction d with
    | zero => rfl
    | succ d ih => rw [← Nat.add_assoc, valTo_succ, h (m + d) (by omega), ih]; omega
  rw [← e us.length, valTo_stable us _ (by omega)]
theorem ten_lt (i : Nat) : (10 : Int) ^ (i + 1) ≤ 4294967296 ^ (i / 9 + 1) := by
  have h1 : 10 ^ (i + 1) ≤ 10 ^ (9 * (i / 9 + 1)) := Nat.pow_le_pow_right (by decide) (by omega)
  have h2 : 10 ^ (9 * (i / 9 + 1)) = (10 ^ 9) ^ (i / 9 + 1) := Nat.pow_mul ..
  have h3 : (10 ^ 9) ^ (i / 9 + 1) ≤ 4294967296 ^ (i / 9 + 1) := Nat.pow_le_pow_left (by decide) _
  have h4 := Int.ofNat_le.2 (Nat.le_trans (h2 ▸ h1) h3)
  rw [Int.natCast_pow, Int.natCast_pow] at h4
  exact h4
theorem ten_end {vs : List Int} (hw : Wd vs) (n : Nat) (c V : Int) (h0 : 0 ≤ c) (h1 : V < 4294967296 ^ n) (h : valTo vs n + c * 4294967296 ^ n = V) : valTo vs n = V := by
  have b := valTo_bounds hw n
  have hp := pw_pos n
  have hc : c = 0 := by
    by_cases z : c = 0
    · exact z
    · have e1 : 1 * 4294967296 ^ n ≤ c * 4294967296 ^ n := Int.mul_le_mul_of_nonneg_right (by omega) (by omega)
      omega
  rw [hc] at h
  omega

set_option maxHeartbeats 6400000 in
set_option maxRecDepth 100000 in
theorem refRead_yes (s : ByteArray) (w : World) (hs : s.size ≤ 65536) (hn : IsNum s.data.toList) :
    Calls Tryz.prog 139 #[.string s] w fun e w' => ∃ v zs, e = .returned (.tuple #[v, .bool true]) ∧ w'.ownsRow w.heap.size 94 1 v zs.length (zs.map (Value.int .u32)) ∧ Wd zs ∧ Trimmed zs ∧ val zs = numTo s.data.toList s.size ∧ Below w.heap.size w w' := by
  obtain ⟨i0, hi, hz0, hz1, hz2⟩ := info_parts Tryz.infoW
  have hl := size_list s
  have hp : 0 < s.size := by have := hn.1; omega
  have HD : Hid (∀ k (h : k < s.size), 48 ≤ (s[k].toNat : Int) ∧ (s[k].toNat : Int) ≤ 57) := fun k h => hn.2.2 _ (List.mem_of_getElem? (byte_at s k h))
  have HDG := hid hn.2.2
  have b0 := byte_at s 0 hp
  have hpz : ((s.size : Int) == 0) = false := beq_eq_false_iff_ne.2 (by omega)
  have hc : (1 < s.size ∧ ((s[0].toNat : Int) == 48) = false) ∨ ¬ 1 < s.size := by
    by_cases c1 : 1 < s.size
    · left
      refine ⟨c1, ?_⟩
      simp
      intro e
      have e48 : s[0] = 48 := UInt8.toNat_inj.1 (by show s[0].toNat = 48; omega)
      have := hn.2.1 (by rw [b0, e48]; rfl)
      omega
    · exact .inr c1
  obtain ⟨Q, hQ1, hQ2⟩ : ∃ Q : Nat, 9 * Q ≤ s.size ∧ s.size < 9 * Q + 9 := ⟨s.size / 9, by omega, by omega⟩
  have hq : (s.size : Int) / 9 = (Q : Int) := by omega
  have HSZ := hid hl
  clear hn b0 hl
  have key : ∀ P : Prop, (1 < s.size ∧ ((s[0].toNat : Int) == 48) = false → P) → (¬ 1 < s.size → P) → P := fun P h1 h2 => hc.elim h1 h2
  clear hc
  refine key _ ?_ ?_
  all_goals
    clear key
    intro hc
    try obtain ⟨hc, c0b⟩ := hc
    go_enter Tryz.func139, Tryz.ntmps139
    go_wp2_with fail
    go_loop [4] (fun t => ∃ k : Nat, k ≤ s.size ∧ t = .int .i64 k) (fun t => s.size - (intOf t).toNat)
    case atStart => exact ⟨0, by omega, rfl⟩
    case round =>
      obtain ⟨k, hk, rfl⟩ := hrel
      by_cases hlt : k < s.size
      · have bk := HD.out k hlt
        have d1 : ¬ (s[k].toNat : Int) < 48 := by omega
        have d2 : ¬ 57 < (s[k].toNat : Int) := by omega
        go_wp2_with fail
        go_round
        case rel => exact ⟨k + 1, by omega, by go_num⟩
        case measure => simp [intOf]; omega
      · go_wp2_with (at_make; refine wpList_make_full _ rfl _ _ 24 rfl w.heap.size 94 i0 (.int .u32 0) 1 Tryz.underlying24 hi hz0 hz1 _ _ _ _ (Q + 1) rfl rfl (by omega) (by omega) (by rw [hz2]; omega) (by unfold maxLen; omega) (Nat.le_refl _) ?_)
        intro w1 hown hgrow
        have hbel : Below w.heap.size w w1 := (Below.refl _ _).grown hgrow (Nat.le_refl _) (fun k hk => by simp at hk)
        have HO := hid (OwnW.made hown)
        clear hown hgrow
        go_wp2_with fail
        clear hq
        go_loopw [6] (fun t wr => ∃ (i : Nat) (us : List Int), i ≤ s.size ∧ t = .int .i64 i ∧ Wd us ∧ Hid (val us = numTo s.data.toList i) ∧ Hid (∀ j, i / 9 + 1 ≤ j → us[j]?.getD 0 = 0) ∧ OwnW wr w.heap.size w.heap.size (Q + 1) us ∧ Below w.heap.size w wr) (fun t _ => s.size - (intOf t).toNat)
        case atStart =>
          refine ⟨0, _, by omega, rfl, Wd.replicate _, ?_, fun j _ => ?_, HO.out, hbel⟩
          · show _ = _
            rw [← valTo_high _ 0 (fun j _ => by rw [List.getElem?_replicate]; split <;> rfl)]; rfl
          · rw [List.getElem?_replicate]; split <;> rfl
        case round =>
          obtain ⟨i, us, hik, rfl, hwu, HV, HZ, ho, hb⟩ := hrel
          by_cases hlt2 : i < s.size
          · have bk := HD.out i hlt2
            obtain ⟨D, hD⟩ : ∃ D, (s[i].toNat : Int) - 48 = D := ⟨_, rfl⟩
            have D0 : 0 ≤ D ∧ D ≤ 9 := by omega
            obtain ⟨M, hM1, hM2⟩ : ∃ M : Nat, 9 * M ≤ i ∧ i < 9 * M + 9 := ⟨i / 9, by omega, by omega⟩
            have hm : (i : Int) / 9 = (M : Int) := by omega
            have HM : Hid (i / 9 = M) := by show _ = _; omega
            have HNX : Hid (numTo s.data.toList (i + 1) = numTo s.data.toList i * 10 + D) := by
              show _ = _
              rw [← hD]
              show numTo s.data.toList i * 10 + (((s.data.toList[i]?.getD 48).toNat : Int) - 48) = _
              rw [byte_at s i hlt2]; rfl
            have HO1 := hid ho
            have HB1 := hid hb
            clear ho hb
            go_wp2_with fail
            go_loopw [7, 8] (fun c t wr2 => ∃ (q : Nat) (cc : Int) (vs : List Int), q ≤ M + 1 ∧ t = .int .i64 q ∧ c = .int .u64 cc ∧ 0 ≤ cc ∧ cc ≤ 9 ∧ Wd vs ∧ Hid (valTo vs q + cc * 4294967296 ^ q = valTo us q * 10 + D) ∧ Hid (∀ j, q ≤ j → vs[j]?.getD 0 = us[j]?.getD 0) ∧ OwnW wr2 w.heap.size w.heap.size (Q + 1) vs ∧ Below w.heap.size w wr2) (fun _ t _ => M + 1 - (intOf t).toNat)
            case atStart => exact ⟨0, D, us, by omega, rfl, rfl, D0.1, D0.2, hwu, show _ = _ by simp [valTo], fun _ _ => rfl, HO1.out, HB1.out⟩
            case round =>
              obtain ⟨q, cc, vs, hq', rfl, rfl, c0, c1, hwv, HV2, HK2, ho, hb⟩ := hrel
              by_cases hlt3 : q ≤ M
              · have hle : (q : Int) ≤ (M : Int) := by omega
                have y1 := ho.cell q (by omega)
                have f1 := ho.free q
                have b3 := hwv.at q
                have hlu := ho.len
                have HST := hid (fun z c' => ten_step us vs q cc z c' D (by omega) (HK2.out q (Nat.le_refl _)))
                rw [← HK2.out q (Nat.le_refl _)] at HST
                obtain ⟨u, hu⟩ : ∃ u, vs[q]?.getD 0 = u := ⟨_, rfl⟩
                rw [hu] at y1 b3 HST
                obtain ⟨t, ht⟩ : ∃ t, u * 10 + cc = t := ⟨_, rfl⟩
                have t0 : 0 ≤ t ∧ t ≤ 42949672959 := by omega
                have HSV := hid (HST.out (t % 4294967296) (t / 4294967296) (by omega) HV2.out)
                have HKN : Hid (∀ j, q + 1 ≤ j → (vs.set q (t % 4294967296))[j]?.getD 0 = us[j]?.getD 0) := fun j hj => by
                  rw [List.getElem?_set, if_neg (by omega)]
                  exact HK2.out j (by omega)
                have HOB := hid (And.intro (ho.set q (t % 4294967296)) (hb.setCell (p := ⟨w.heap.size, q, none⟩) (Nat.le_refl _) (.int .u32 (t % 4294967296))))
                clear hlu ho hb HV2 HK2 HST hu
                go_wp2_with fail
                go_roundw
                case rel => exact ⟨q + 1, t / 4294967296, vs.set q (t % 4294967296), by omega, by go_num, by go_num, by omega, by omega, hwv.set _ (by omega), HSV, HKN, HOB.out.1, HOB.out.2⟩
                case measure => simp [intOf]; omega
              · obtain rfl : q = M + 1 := by omega
                have hle : ¬ ((M + 1 : Nat) : Int) ≤ (M : Int) := by omega
                have hzu : ∀ j, M + 1 ≤ j → us[j]?.getD 0 = 0 := fun j hj => HZ.out j (by rw [HM.out]; exact hj)
                have hzv : ∀ j, M + 1 ≤ j → vs[j]?.getD 0 = 0 := fun j hj => by rw [HK2.out j hj]; exact hzu j hj
                have HVN : Hid (val vs = numTo s.data.toList (i + 1)) := by
                  show _ = _
                  have e := HV2.out
                  rw [valTo_high us (M + 1) hzu, HV.out, ← HNX.out] at e
                  rw [← valTo_high vs (M + 1) hzv]
                  have h10 := (numTo_bounds HDG.out (i + 1)).2
                  have h11 := ten_lt i
                  rw [HM.out] at h11
                  exact ten_end hwv (M + 1) cc _ c0 (by omega) e
                have HZN : Hid (∀ j, (i + 1) / 9 + 1 ≤ j → vs[j]?.getD 0 = 0) := fun j hj => hzv j (by have := HM.out; omega)
                have HOB := hid (And.intro ho hb)
                clear ho hb HV2 HK2 hzu hzv HV HZ
                go_wp2_with fail
                go_roundw
                case rel => exact ⟨i + 1, vs, by omega, by go_num, hwv, HVN, HZN, HOB.out.1, HOB.out.2⟩
                case measure => simp [intOf]; omega
          · obtain rfl : i = s.size := by omega
            have hlu := ho.len
            have HF := hid HV.out
            have HR := hid (refTrim_sl (.slice (some ⟨w.heap.size, 0, none⟩) us.length us.length) us wr (Sl.own (owns_len (show wr.ownsRow w.heap.size 94 1 (.slice (some ⟨w.heap.size, 0, none⟩) us.length us.length) us.length (us.map (Value.int .u32)) by rw [hlu]; exact ho)) hwu) (by omega))
            rw [hlu] at HR
            clear ho HV HZ
            go_wp2_with fail
            refine Calls.mono HR.out ?_
            rintro e w3 ⟨v3, rfl, o3, hb3⟩
            have HO3 := hid (owns_base (owns_len o3) hb.size)
            have hbF := bt hb hb3
            clear o3 hb3
            go_wp2_with fail
            go_ret2
            exact ⟨v3, _, rfl, HO3.out, hwu.trimmed, Trimmed.trimmed _, by rw [val_trimmed]; exact HF.out, hbF⟩
end Go.Proofs.YtldeiapikkebgaaGreatDoor

/- The document's own texts: slackwaterref01.Read of what is no number; Print, Parse: of every number and text. -/
namespace Go.Proofs.YtldeiapikkebgaaGreatDoor
open Go.RowKit
set_option linter.unusedVariables false

set_option maxHeartbeats 3200000 in
set_option maxRecDepth 100000 in
theorem refRead_no (s : ByteArray) (w : World) (hs : s.size ≤ 65536) (hn : ¬ IsNum s.data.toList) :
    Calls Tryz.prog 139 #[.string s] w fun e w' => e = .returned (.tuple #[.slice none 0 0, .bool false]) ∧ w = w' := by
  have hl := size_list s
  have HL := hid hl
  have HN := hid hn
  by_cases h0 : s.size = 0
  · have hse : s = ⟨#[]⟩ := by
      obtain ⟨d⟩ := s
      have : d = #[] := Array.eq_empty_of_size_eq_zero h0
      rw [this]
    subst hse
    clear h0 hl HL HN hn hs
    go_enter Tryz.func139, Tryz.ntmps139
    go_wp2_with fail
    go_ret2
    exact ⟨rfl, rfl⟩
  · have hp : 0 < s.size := by omega
    have hpz : ((s.size : Int) == 0) = false := beq_eq_false_iff_ne.2 (by omega)
    have b0 := byte_at s 0 hp
    by_cases c1 : 1 < s.size
    · by_cases c0 : (s[0].toNat : Int) = 48
      · have c0b : ((s[0].toNat : Int) == 48) = true := by simp [c0]
        clear h0 hl HL HN hn b0 c0
        go_enter Tryz.func139, Tryz.ntmps139
        go_wp2_with fail
        go_ret2
        exact ⟨rfl, rfl⟩
      · have c0b : ((s[0].toNat : Int) == 48) = false := beq_eq_false_iff_ne.2 c0
        have H1 : Hid (s.data.toList[0]?.getD 0 = 48 → s.data.toList.length ≤ 1) := fun e => by
          rw [b0] at e
          have e : s[0] = 48 := e
          exact absurd (by rw [e]; rfl) c0
        clear h0 hl hn b0 c0
        go_enter Tryz.func139, Tryz.ntmps139
        go_wp2_with fail
        go_loop [4] (fun t => ∃ k : Nat, k ≤ s.size ∧ t = .int .i64 k ∧ Hid (∀ j : Nat, j < k → 48 ≤ ((s.data.toList[j]?.getD 0).toNat : Int) ∧ ((s.data.toList[j]?.getD 0).toNat : Int) ≤ 57)) (fun t => s.size - (intOf t).toNat)
        case atStart => exact ⟨0, by omega, rfl, fun j hj => by omega⟩
        case round =>
          obtain ⟨k, hk, rfl, HJ⟩ := hrel
          by_cases hlt : k < s.size
          · have bk := byte_at s k hlt
            by_cases d1 : (s[k].toNat : Int) < 48
            · clear bk
              go_wp2_with fail
              go_ret2
              exact ⟨rfl, rfl⟩
            · by_cases d2 : 57 < (s[k].toNat : Int)
              · clear bk
                go_wp2_with fail
                go_ret2
                exact ⟨rfl, rfl⟩
              · have HJ' : Hid (∀ j : Nat, j < k + 1 → 48 ≤ ((s.data.toList[j]?.getD 0).toNat : Int) ∧ ((s.data.toList[j]?.getD 0).toNat : Int) ≤ 57) := fun j hj => by
                  by_cases e : j = k
                  · rw [e, bk]; show 48 ≤ (s[k].toNat : Int) ∧ (s[k].toNat : Int) ≤ 57; omega
                  · exact HJ.out j (by omega)
                clear bk
                go_wp2_with fail
                go_round
                case rel => exact ⟨k + 1, by omega, by go_num, HJ'⟩
                case measure => simp [intOf]; omega
          · exfalso
            refine HN.out ⟨by have := HL.out; omega, H1.out, fun c hc => ?_⟩
            obtain ⟨j, hj, e⟩ := mem_at hc
            have := HJ.out j (by have := HL.out; omega)
            rw [e] at this
            exact this
    · have H1 : Hid (s.data.toList[0]?.getD 0 = 48 → s.data.toList.length ≤ 1) := fun _ => by omega
      clear h0 hl hn b0
      go_enter Tryz.func139, Tryz.ntmps139
      go_wp2_with fail
      go_loop [4] (fun t => ∃ k : Nat, k ≤ s.size ∧ t = .int .i64 k ∧ Hid (∀ j : Nat, j < k → 48 ≤ ((s.data.toList[j]?.getD 0).toNat : Int) ∧ ((s.data.toList[j]?.getD 0).toNat : Int) ≤ 57)) (fun t => s.size - (intOf t).toNat)
      case atStart => exact ⟨0, by omega, rfl, fun j hj => by omega⟩
      case round =>
        obtain ⟨k, hk, rfl, HJ⟩ := hrel
        by_cases hlt : k < s.size
        · have bk := byte_at s k hlt
          by_cases d1 : (s[k].toNat : Int) < 48
          · clear bk
            go_wp2_with fail
            go_ret2
            exact ⟨rfl, rfl⟩
          · by_cases d2 : 57 < (s[k].toNat : Int)
            · clear bk
              go_wp2_with fail
              go_ret2
              exact ⟨rfl, rfl⟩
            · have HJ' : Hid (∀ j : Nat, j < k + 1 → 48 ≤ ((s.data.toList[j]?.getD 0).toNat : Int) ∧ ((s.data.toList[j]?.getD 0).toNat : Int) ≤ 57) := fun j hj => by
                by_cases e : j = k
                · rw [e, bk]; show 48 ≤ (s[k].toNat : Int) ∧ (s[k].toNat : Int) ≤ 57; omega
                · exact HJ.out j (by omega)
              clear bk
              go_wp2_with fail
              go_round
              case rel => exact ⟨k + 1, by omega, by go_num, HJ'⟩
              case measure => simp [intOf]; omega
        · exfalso
          refine HN.out ⟨by have := HL.out; omega, H1.out, fun c hc => ?_⟩
          obtain ⟨j, hj, e⟩ := mem_at hc
          have := HJ.out j (by have := HL.out; omega)
          rw [e] at this
          exact this

set_option maxHeartbeats 1600000 in
set_option maxRecDepth 100000 in
theorem refPrint_any (v : Value) (xs : List Int) (w : World) (h : Sl w v xs) (hn : xs.length ≤ 281474976710656) :
    Calls Tryz.prog 44 #[v] w fun e w' => e = .returned (.tuple #[.string (if chk xs = 0 then ⟨(Lib.decDigits (val xs).toNat).toArray⟩ else ⟨#[]⟩), .int .i64 (chk xs)]) ∧ Below w.heap.size w w' := by
  have HC := hid (refCheck_sl v xs w h hn)
  by_cases hc : chk xs = 0
  · obtain ⟨lx, tx⟩ := chk_ok hc
    have HD := hid (refDigits_any v xs w h tx lx)
    rw [hc] at HC ⊢
    rw [if_pos rfl]
    generalize (⟨(Lib.decDigits (val xs).toNat).toArray⟩ : ByteArray) = S at *
    clear h hc tx lx hn
    go_enter Tryz.func44, Tryz.ntmps44
    go_wp2_with fail
    refine Calls.mono HC.out ?_
    rintro e w1 ⟨rfl, rfl⟩
    go_wp2_with fail
    refine Calls.mono HD.out ?_
    rintro e w1 ⟨rfl, hb⟩
    go_wp2_with fail
    go_ret2
    exact ⟨rfl, hb⟩
  · have hc' : (chk xs == 0) = false := by simpa using hc
    rw [if_neg hc]
    clear h hc
    go_enter Tryz.func44, Tryz.ntmps44
    go_wp2_with fail
    refine Calls.mono HC.out ?_
    rintro e w1 ⟨rfl, rfl⟩
    go_wp2_with fail
    go_ret2
    exact ⟨rfl, Below.refl _ _⟩

set_option maxHeartbeats 1600000 in
set_option maxRecDepth 100000 in
theorem refParse_any (s : ByteArray) (w : World) (hs : s.size ≤ maxLen) :
    Calls Tryz.prog 109 #[.string s] w (Told w (pErr s) (numTo s.data.toList s.size)) := by
  unfold maxLen at hs
  by_cases h1 : 65536 < s.size
  · have HT := hid (Tells.err (t := numTo s.data.toList s.size) (e := 3) (by decide))
    have HE : Hid (pErr s = 3) := by show _ = _; unfold pErr; rw [if_pos h1]
    rw [HE.out]
    have h1' : (65536 : Int) < (s.size : Int) := by omega
    clear HE h1
    go_enter Tryz.func109, Tryz.ntmps109
    go_wp2_with fail
    go_ret2
    exact ⟨_, [], 3, rfl, World.ownsRow_nil _ _ _ _, HT.out, Below.refl _ _⟩
  · have h1' : ¬ (65536 : Int) < (s.size : Int) := by omega
    by_cases hn : IsNum s.data.toList
    · have HR := hid (refRead_yes s w (by omega) hn)
      have HE : Hid (pErr s = 0) := by show _ = _; unfold pErr; rw [if_neg h1, if_pos hn]
      rw [HE.out]
      clear HE hn h1
      go_enter Tryz.func109, Tryz.ntmps109
      go_wp2_with fail
      refine Calls.mono HR.out ?_
      rintro e w2 ⟨v2, zs, rfl, o2, wz, tz, vz, hb2⟩
      obtain ⟨a2, c2, hs2⟩ := own_slice' o2
      subst hs2
      have hwd := trimmed_wide wz tz vz
      have HR := hid (And.intro o2 (And.intro wz (And.intro tz (And.intro vz hb2))))
      by_cases hlen : 8192 < zs.length
      · have HT := hid (refTold_long a2 zs.length c2 w2 hlen)
        have HL := hid (hwd.1 hlen)
        clear o2 wz tz vz hwd hb2 hlen
        go_wp2_with fail
        refine Calls.mono HT.out ?_
        rintro e w3 ⟨rfl, rfl⟩
        go_wp2_with fail
        go_ret2
        exact ⟨_, [], 3, rfl, World.ownsRow_nil _ _ _ _, Tells.tooLong HL.out, HR.out.2.2.2.2⟩
      · have HT := hid (refTold_ok a2 zs.length c2 w2 (by omega))
        have HL := hid (Int.not_le.1 fun h => hlen (hwd.2 h))
        clear o2 wz tz vz hwd hb2 hlen
        go_wp2_with fail
        refine Calls.mono HT.out ?_
        rintro e w3 ⟨rfl, rfl⟩
        go_wp2_with fail
        go_ret2
        exact ⟨_, zs, 0, rfl, HR.out.1, Tells.ok HR.out.2.1 HR.out.2.2.1 HR.out.2.2.2.1 HL.out, HR.out.2.2.2.2⟩
    · have HR := hid (refRead_no s w (by omega) hn)
      have HE : Hid (pErr s = 110) := by show _ = _; unfold pErr; rw [if_neg h1, if_neg hn]
      have HT := hid (Tells.err (t := numTo s.data.toList s.size) (e := 110) (by decide))
      rw [HE.out]
      clear HE hn h1
      go_enter Tryz.func109, Tryz.ntmps109
      go_wp2_with fail
      refine Calls.mono HR.out ?_
      rintro e w2 ⟨rfl, rfl⟩
      go_wp2_with fail
      go_ret2
      exact ⟨_, [], 110, rfl, World.ownsRow_nil _ _ _ _, HT.out, Below.refl _ _⟩
end Go.Proofs.YtldeiapikkebgaaGreatDoor

/- Fractions as texts: what a text says, and that a fraction's own text says that fraction. -/
namespace Go.Proofs.YtldeiapikkebgaaGreatDoor
open Go.RowKit Go.Lib
set_option linter.unusedVariables false

def rneg (l : List UInt8) : Bool := decide (l[0]? = some 45)
def rbar (l : List UInt8) : Int := indexByte (wdig (rneg l) l) 47
def rup (l : List UInt8) : List UInt8 := if rbar l = -1 then wdig (rneg l) l else (wdig (rneg l) l).take (rbar l).toNat
def rdn (l : List UInt8) : List UInt8 := if rbar l = -1 then [] else (wdig (rneg l) l).drop ((rbar l).toNat + 1)
def rnu (l : List UInt8) : Int := numTo (rup l) (rup l).length
def rde (l : List UInt8) : Int := if rbar l = -1 then 1 else numTo (rdn l) (rdn l).length
def rgood (l : List UInt8) : Prop := IsNum (rup l) ∧ (rbar l = -1 ∨ IsNum (rdn l) ∧ rde l ≠ 1) ∧ 0 < rde l ∧ (rneg l = false ∨ 0 < rnu l) ∧ gcdI (rnu l) (rde l) = 1
open Classical in
noncomputable def prErr (s : ByteArray) : Int := if 65536 < s.size then 3 else if rgood s.data.toList then 0 else 130
def rpq (l : List UInt8) : Rat := Rat.divInt (sg (rneg l) (rnu l)) (rde l)

theorem bar_none {d : List UInt8} (h : Dg d) : indexByte d 47 = -1 := by
  have g := indexByte_ge d 47
  by_cases c : indexByte d 47 = -1
  · exact c
  · obtain ⟨e, _⟩ := indexByte_some (l := d) (c := 47) (o := (indexByte d 47).toNat) (by omega)
    have t := h _ (List.mem_of_getElem? e)
    exact absurd t.1 (by decide)
theorem bar_at {d : List UInt8} (h : Dg d) (e : List UInt8) : indexByte (d ++ 47 :: e) 47 = d.length := by
  have g := indexByte_ge (d ++ 47 :: e) 47
  have hat : (d ++ 47 :: e)[d.length]? = some 47 := by simp
  by_cases c : indexByte (d ++ 47 :: e) 47 = -1
  · exact absurd hat (indexByte_none c _)
  · obtain ⟨e1, e2⟩ := indexByte_some (l := d ++ 47 :: e) (c := 47) (o := (indexByte (d ++ 47 :: e) 47).toNat) (by omega)
    have hk : indexByte (d ++ 47 :: e) 47 = ((indexByte (d ++ 47 :: e) 47).toNat : Int) := by omega
    generalize (indexByte (d ++ 47 :: e) 47).toNat = K at e1 e2 hk
    have k1 : ¬ K < d.length := fun hk => by
      rw [List.getElem?_append_left hk] at e1
      have t := h _ (List.mem_of_getElem? e1)
      exact absurd t.1 (by decide)
    have k2 : ¬ d.length < K := fun hk => e2 _ hk hat
    omega
theorem bar_parts {l : List UInt8} (h : indexByte l 47 ≠ -1) : l = l.take (indexByte l 47).toNat ++ 47 :: l.drop ((indexByte l 47).toNat + 1) ∧ (indexByte l 47).toNat < l.length := by
  have g := indexByte_ge l 47
  obtain ⟨e1, _⟩ := indexByte_some (l := l) (c := 47) (o := (indexByte l 47).toNat) (by omega)
  generalize (indexByte l 47).toNat = K at e1 ⊢
  obtain ⟨hk, e2⟩ := List.getElem?_eq_some_iff.1 e1
  refine ⟨?_, hk⟩
  have e3 := List.drop_eq_getElem_cons hk
  rw [e2] at e3
  rw [← e3, List.take_append_drop]
theorem rtext_eq (n : Bool) (xs ys : List Int) : rtext n xs ys = (if n then [45] else []) ++ (decDigits (val xs).toNat ++ if ys = [1] then [] else 47 :: decDigits (val ys).toNat) := by
  unfold rtext wtext
  by_cases c : ys = [1]
  · rw [if_pos c, if_pos c]; simp
  · rw [if_neg c, if_neg c]; simp
theorem ten8 (k : Nat) : (10 : Int) ^ (8 * k) ≤ 4294967296 ^ k := by
  induction k with
  | zero => simp
  | succ k ih =>
    rw [show 8 * (k + 1) = 8 * k + 8 by omega, Int.pow_add, pw_succ]
    have e : (10 : Int) ^ 8 = 100000000 := by decide
    have p : (0 : Int) < 10 ^ (8 * k) := Int.pow_pos (by decide)
    rw [e]
    omega
theorem ten_mono {a b : Nat} (h : a ≤ b) : (10 : Int) ^ a ≤ 10 ^ b := by
  obtain ⟨c, rfl⟩ := Nat.le.dest h
  rw [Int.pow_add]
  have p : (0 : Int) < 10 ^ a := Int.pow_pos (by decide)
  have q : (0 : Int) < 10 ^ c := Int.pow_pos (by decide)
  have := Int.mul_le_mul_of_nonneg_left (show (1 : Int) ≤ 10 ^ c by omega) (Int.le_of_lt p)
  omega
theorem num_wide {l : List UInt8} (hd : Dg l) (hl : l.length ≤ 65536) : numTo l l.length < wide := by
  have h1 := (numTo_bounds hd l.length).2
  have h2 : (10 : Int) ^ l.length ≤ 10 ^ (8 * 8192) := ten_mono (by omega)
  have h3 := ten8 8192
  have e : wide = 4294967296 ^ 8192 := rfl
  rw [e]
  exact Int.lt_of_lt_of_le h1 (Int.le_trans h2 h3)
end Go.Proofs.YtldeiapikkebgaaGreatDoor

/- The document's answer for Print of a fraction. -/
namespace Go.Proofs.YtldeiapikkebgaaGreatDoor
open Go.RowKit Go.Lib
set_option linter.unusedVariables false

set_option maxHeartbeats 1600000 in
set_option maxRecDepth 100000 in
theorem dPrint_err (n : Bool) (a : Option Addr) (ca : Nat) (xs : List Int) (b : Option Addr) (cb : Nat) (ys : List Int) (w : World) (sx : Sl w (.slice a xs.length ca) xs) (sy : Sl w (.slice b ys.length cb) ys) (lx : xs.length ≤ 281474976710656) (ly : ys.length ≤ 281474976710656) (he : rchk n xs ys ≠ 0) :
    Calls Tryz.prog 20 #[.agg #[.bool n, .slice a xs.length ca, .slice b ys.length cb]] w fun e w' => e = .returned (.tuple #[.string ⟨#[]⟩, .int .i64 (rchk n xs ys)]) ∧ Below w.heap.size w w' := by
  have HB := hid (alloc_later w (.cells #[.bool n, .slice a xs.length ca, .slice b ys.length cb] 26))
  have HC := hid (check3_any n _ _ xs _ _ ys (w.alloc (.cells #[.bool n, .slice a xs.length ca, .slice b ys.length cb] 26)) (sx.later HB.out) (sy.later HB.out) lx ly)
  obtain ⟨e1, he1⟩ : ∃ e, rchk n xs ys = e := ⟨_, rfl⟩
  rw [he1] at HC he ⊢
  have h1 : (e1 == 0) = false := beq_eq_false_iff_ne.2 he
  have h2 : (e1 != 0) = true := bne_iff_ne.2 he
  clear sx sy he he1
  go_enter Tryz.func20, Tryz.ntmps20
  go_wp2_with fail
  refine Calls.mono HC.out ?_
  rintro e w1 ⟨rfl, hb1⟩
  have HBN := hid (bt HB.out hb1)
  clear hb1 HC
  go_wp2_with fail
  go_ret2
  exact ⟨rfl, HBN.out⟩

set_option maxHeartbeats 12800000 in
set_option maxRecDepth 100000 in
theorem dPrint_ok (n : Bool) (a : Option Addr) (ca : Nat) (xs : List Int) (b : Option Addr) (cb : Nat) (ys : List Int) (w : World) (sx : Sl w (.slice a xs.length ca) xs) (sy : Sl w (.slice b ys.length cb) ys) (hx : rchk n xs ys = 0) :
    Calls Tryz.prog 20 #[.agg #[.bool n, .slice a xs.length ca, .slice b ys.length cb]] w fun e w' => ∃ T : ByteArray, e = .returned (.tuple #[.string T, .int .i64 0]) ∧ T.data.toList = rtext n xs ys ∧ Below w.heap.size w w' := by
  obtain ⟨lx, ly, tx, ty, y0', nx, g1⟩ := rchk_ok hx
  have HB := hid (alloc_later w (.cells #[.bool n, .slice a xs.length ca, .slice b ys.length cb] 26))
  have HN := hid (Box.made w 26 #[.bool n, .slice a xs.length ca, .slice b ys.length cb])
  have HC := hid (check3_any n _ _ xs _ _ ys (w.alloc (.cells #[.bool n, .slice a xs.length ca, .slice b ys.length cb] 26)) (sx.later HB.out) (sy.later HB.out) (by omega) (by omega))
  rw [hx] at HC
  have d1 := dec_short sx.wd lx
  have d2 := dec_short sy.wd ly
  have HS := hid (And.intro (sx.later HB.out) (sy.later HB.out))
  have HTX := hid (rtext_eq n xs ys)
  have c1 := chk_good (xs := xs) (by omega) tx
  have c2 := chk_good (xs := ys) (by omega) ty
  obtain ⟨T1, hT1⟩ : ∃ T, (⟨(decDigits (val xs).toNat).toArray⟩ : ByteArray) = T := ⟨_, rfl⟩
  obtain ⟨T2, hT2⟩ : ∃ T, (⟨(decDigits (val ys).toNat).toArray⟩ : ByteArray) = T := ⟨_, rfl⟩
  have L1 : T1.data.toList = decDigits (val xs).toNat := by rw [← hT1]
  have L2 : T2.data.toList = decDigits (val ys).toNat := by rw [← hT2]
  have z1 : T1.size ≤ 20481 := by rw [← size_list, L1]; exact d1
  have z2 : T2.size ≤ 20481 := by rw [← size_list, L2]; exact d2
  have HLL := hid (And.intro L1 L2)
  have HP1 : Hid (∀ V, Below (w.alloc (.cells #[.bool n, .slice a xs.length ca, .slice b ys.length cb] 26)).heap.size (w.alloc (.cells #[.bool n, .slice a xs.length ca, .slice b ys.length cb] 26)) V → Calls Tryz.prog 44 #[.slice a xs.length ca] V fun e V' => e = .returned (.tuple #[.string T1, .int .i64 0]) ∧ Below V.heap.size V V') := fun V hb => by
    have e := refPrint_any _ xs V (HS.out.1.later hb) (by omega)
    rw [c1, if_pos rfl, hT1] at e
    exact e
  have HP2 : Hid (∀ V, Below (w.alloc (.cells #[.bool n, .slice a xs.length ca, .slice b ys.length cb] 26)).heap.size (w.alloc (.cells #[.bool n, .slice a xs.length ca, .slice b ys.length cb] 26)) V → Calls Tryz.prog 44 #[.slice b ys.length cb] V fun e V' => e = .returned (.tuple #[.string T2, .int .i64 0]) ∧ Below V.heap.size V V') := fun V hb => by
    have e := refPrint_any _ ys V (HS.out.2.later hb) (by omega)
    rw [c2, if_pos rfl, hT2] at e
    exact e
  clear sx sy hx hT1 hT2 L1 L2 c1 c2 tx ty nx g1 d1 d2
  have hg0 : ¬ (9223372036854775807 : Int) < 1 + (T1.size : Int) := by omega
  have hg1 : ¬ (9223372036854775807 : Int) < (T1.size : Int) + 1 := by omega
  have hg2 : ¬ (9223372036854775807 : Int) < (T1.size : Int) + 1 + (T2.size : Int) := by omega
  have hg3 : ¬ (9223372036854775807 : Int) < 1 + (T1.size : Int) + 1 := by omega
  have hg4 : ¬ (9223372036854775807 : Int) < 1 + (T1.size : Int) + 1 + (T2.size : Int) := by omega
  by_cases h1 : ys = [1]
  · have HY := hid h1
    clear h1
    cases n with
    | false =>
      go_enter Tryz.func20, Tryz.ntmps20
      go_wp2_with fail
      refine Calls.mono HC.out ?_
      generalize (w.alloc (.cells #[.bool false, .slice a xs.length ca, .slice b ys.length cb] 26)) = X at *
      rintro e w1 ⟨rfl, hb1⟩
      obtain ⟨p0, p1, p2, _⟩ := res_box3 HN.out hb1
      have HH := hid (HP1.out w1 hb1)
      go_wp2_with fail
      refine Calls.mono HH.out ?_
      rintro e w2 ⟨rfl, hb2⟩
      have HB2 := hid (bt hb1 hb2)
      clear HH HP1 hb1 hb2 p0 p1 p2 HC
      have HK : Hid (∀ V, Below X.heap.size X V → (V.cell? ⟨w.heap.size, 0, none⟩ = some (.bool false) ∧ V.cell? ⟨w.heap.size, 1, none⟩ = some (.slice a xs.length ca) ∧ V.cell? ⟨w.heap.size, 2, none⟩ = some (.slice b ys.length cb))) := fun V hb => by
        obtain ⟨p0, p1, p2, _, _, _⟩ := res_box3 HN.out hb
        exact ⟨p0, p1, p2⟩
      have HO1 : Hid (∀ V, Below X.heap.size X V → Calls Tryz.prog 46 #[] V fun e V' => ∃ g, e = .returned (.slice (some ⟨g, 0, none⟩) 1 1) ∧ Hid (V'.ownsRow V.heap.size 94 1 (.slice (some ⟨g, 0, none⟩) 1 1) 1 ([(1 : Int)].map (Value.int .u32)) ∧ Below X.heap.size X V') ∧ (V'.cell? ⟨w.heap.size, 0, none⟩ = some (.bool false) ∧ V'.cell? ⟨w.heap.size, 1, none⟩ = some (.slice a xs.length ca) ∧ V'.cell? ⟨w.heap.size, 2, none⟩ = some (.slice b ys.length cb))) := fun V hb => by
        refine Calls.mono (one3_any V) ?_
        rintro e V' ⟨g, rfl, o1, hb1⟩
        exact ⟨g, rfl, ⟨o1, bt hb hb1⟩, HK.out V' (bt hb hb1)⟩
      have HSM : Hid (∀ V base g, Below X.heap.size X V → V.ownsRow base 94 1 (.slice (some ⟨g, 0, none⟩) 1 1) 1 ([(1 : Int)].map (Value.int .u32)) → Calls Tryz.prog 45 #[.slice b ys.length cb, .slice (some ⟨g, 0, none⟩) 1 1] V fun e V' => e = .returned (.bool true) ∧ Hid (Below X.heap.size X V') ∧ (V'.cell? ⟨w.heap.size, 0, none⟩ = some (.bool false) ∧ V'.cell? ⟨w.heap.size, 1, none⟩ = some (.slice a xs.length ca) ∧ V'.cell? ⟨w.heap.size, 2, none⟩ = some (.slice b ys.length cb))) := fun V base g hb o => by
        have e := same3_sl _ _ ys [1] V (HS.out.2.later hb) (Sl.own (xs := [1]) o (Wd.one (by omega))) (by omega) (by simp)
        rw [decide_eq_true HY.out] at e
        refine Calls.mono e ?_
        rintro e V' ⟨rfl, hb1⟩
        exact ⟨rfl, bt hb hb1, HK.out V' (bt hb hb1)⟩
      have hs0 := HK.out _ HB2.out.drew
      obtain ⟨p0, p1, p2⟩ := HK.out _ HB2.out
      go_wp2_with fail
      clear p0 p1 p2
      go_region_held3 (fun V : World => (V.cell? ⟨w.heap.size, 0, none⟩ = some (.bool false) ∧ V.cell? ⟨w.heap.size, 1, none⟩ = some (.slice a xs.length ca) ∧ V.cell? ⟨w.heap.size, 2, none⟩ = some (.slice b ys.length cb))) (first | exact hs4 | exact hs3 | exact hs0)
        (first
          | (go_at_call 45; with_reducible refine Calls.mono (HSM.out _ _ _ HE3.out.2 HE3.out.1) ?_; rintro e w4 ⟨rfl, HE4, hs4⟩)
          | (go_at_call 46; with_reducible refine Calls.mono (HO1.out _ HB2.out.drew) ?_; rintro e w3 ⟨g3, rfl, HE3, hs3⟩))
      all_goals
        have HB4 := hid HE4.out
        clear HK HO1 HSM HE3 HE4 hs0 hs3
        go_wp2_with fail
        go_ret2
        refine ⟨_, rfl, ?_, bt HB.out HB4.out⟩
        rw [HTX.out, if_pos HY.out, ← HLL.out.1]
        simp
    | true =>
      go_enter Tryz.func20, Tryz.ntmps20
      go_wp2_with fail
      refine Calls.mono HC.out ?_
      generalize (w.alloc (.cells #[.bool true, .slice a xs.length ca, .slice b ys.length cb] 26)) = X at *
      rintro e w1 ⟨rfl, hb1⟩
      obtain ⟨p0, p1, p2, _⟩ := res_box3 HN.out hb1
      have HH := hid (HP1.out w1 hb1)
      go_wp2_with fail
      refine Calls.mono HH.out ?_
      rintro e w2 ⟨rfl, hb2⟩
      have HB2 := hid (bt hb1 hb2)
      clear HH HP1 hb1 hb2 p0 p1 p2 HC
      have HK : Hid (∀ V, Below X.heap.size X V → (V.cell? ⟨w.heap.size, 0, none⟩ = some (.bool true) ∧ V.cell? ⟨w.heap.size, 1, none⟩ = some (.slice a xs.length ca) ∧ V.cell? ⟨w.heap.size, 2, none⟩ = some (.slice b ys.length cb))) := fun V hb => by
        obtain ⟨p0, p1, p2, _, _, _⟩ := res_box3 HN.out hb
        exact ⟨p0, p1, p2⟩
      have HO1 : Hid (∀ V, Below X.heap.size X V → Calls Tryz.prog 46 #[] V fun e V' => ∃ g, e = .returned (.slice (some ⟨g, 0, none⟩) 1 1) ∧ Hid (V'.ownsRow V.heap.size 94 1 (.slice (some ⟨g, 0, none⟩) 1 1) 1 ([(1 : Int)].map (Value.int .u32)) ∧ Below X.heap.size X V') ∧ (V'.cell? ⟨w.heap.size, 0, none⟩ = some (.bool true) ∧ V'.cell? ⟨w.heap.size, 1, none⟩ = some (.slice a xs.length ca) ∧ V'.cell? ⟨w.heap.size, 2, none⟩ = some (.slice b ys.length cb))) := fun V hb => by
        refine Calls.mono (one3_any V) ?_
        rintro e V' ⟨g, rfl, o1, hb1⟩
        exact ⟨g, rfl, ⟨o1, bt hb hb1⟩, HK.out V' (bt hb hb1)⟩
      have HSM : Hid (∀ V base g, Below X.heap.size X V → V.ownsRow base 94 1 (.slice (some ⟨g, 0, none⟩) 1 1) 1 ([(1 : Int)].map (Value.int .u32)) → Calls Tryz.prog 45 #[.slice b ys.length cb, .slice (some ⟨g, 0, none⟩) 1 1] V fun e V' => e = .returned (.bool true) ∧ Hid (Below X.heap.size X V') ∧ (V'.cell? ⟨w.heap.size, 0, none⟩ = some (.bool true) ∧ V'.cell? ⟨w.heap.size, 1, none⟩ = some (.slice a xs.length ca) ∧ V'.cell? ⟨w.heap.size, 2, none⟩ = some (.slice b ys.length cb))) := fun V base g hb o => by
        have e := same3_sl _ _ ys [1] V (HS.out.2.later hb) (Sl.own (xs := [1]) o (Wd.one (by omega))) (by omega) (by simp)
        rw [decide_eq_true HY.out] at e
        refine Calls.mono e ?_
        rintro e V' ⟨rfl, hb1⟩
        exact ⟨rfl, bt hb hb1, HK.out V' (bt hb hb1)⟩
      have hs0 := HK.out _ HB2.out.drew
      obtain ⟨p0, p1, p2⟩ := HK.out _ HB2.out
      go_wp2_with fail
      clear p0 p1 p2
      go_region_held3 (fun V : World => (V.cell? ⟨w.heap.size, 0, none⟩ = some (.bool true) ∧ V.cell? ⟨w.heap.size, 1, none⟩ = some (.slice a xs.length ca) ∧ V.cell? ⟨w.heap.size, 2, none⟩ = some (.slice b ys.length cb))) (first | exact hs4 | exact hs3 | exact hs0)
        (first
          | (go_at_call 45; with_reducible refine Calls.mono (HSM.out _ _ _ HE3.out.2 HE3.out.1) ?_; rintro e w4 ⟨rfl, HE4, hs4⟩)
          | (go_at_call 46; with_reducible refine Calls.mono (HO1.out _ HB2.out.drew) ?_; rintro e w3 ⟨g3, rfl, HE3, hs3⟩))
      all_goals
        have HB4 := hid HE4.out
        clear HK HO1 HSM HE3 HE4 hs0 hs3
        go_wp2_with fail
        go_ret2
        refine ⟨_, rfl, ?_, bt HB.out HB4.out⟩
        rw [HTX.out, if_pos HY.out, ← HLL.out.1]
        simp
  · have HY := hid h1
    clear h1
    cases n with
    | false =>
      go_enter Tryz.func20, Tryz.ntmps20
      go_wp2_with fail
      refine Calls.mono HC.out ?_
      generalize (w.alloc (.cells #[.bool false, .slice a xs.length ca, .slice b ys.length cb] 26)) = X at *
      rintro e w1 ⟨rfl, hb1⟩
      obtain ⟨p0, p1, p2, _⟩ := res_box3 HN.out hb1
      have HH := hid (HP1.out w1 hb1)
      go_wp2_with fail
      refine Calls.mono HH.out ?_
      rintro e w2 ⟨rfl, hb2⟩
      have HB2 := hid (bt hb1 hb2)
      clear HH HP1 hb1 hb2 p0 p1 p2 HC
      have HK : Hid (∀ V, Below X.heap.size X V → (V.cell? ⟨w.heap.size, 0, none⟩ = some (.bool false) ∧ V.cell? ⟨w.heap.size, 1, none⟩ = some (.slice a xs.length ca) ∧ V.cell? ⟨w.heap.size, 2, none⟩ = some (.slice b ys.length cb))) := fun V hb => by
        obtain ⟨p0, p1, p2, _, _, _⟩ := res_box3 HN.out hb
        exact ⟨p0, p1, p2⟩
      have HO1 : Hid (∀ V, Below X.heap.size X V → Calls Tryz.prog 46 #[] V fun e V' => ∃ g, e = .returned (.slice (some ⟨g, 0, none⟩) 1 1) ∧ Hid (V'.ownsRow V.heap.size 94 1 (.slice (some ⟨g, 0, none⟩) 1 1) 1 ([(1 : Int)].map (Value.int .u32)) ∧ Below X.heap.size X V') ∧ (V'.cell? ⟨w.heap.size, 0, none⟩ = some (.bool false) ∧ V'.cell? ⟨w.heap.size, 1, none⟩ = some (.slice a xs.length ca) ∧ V'.cell? ⟨w.heap.size, 2, none⟩ = some (.slice b ys.length cb))) := fun V hb => by
        refine Calls.mono (one3_any V) ?_
        rintro e V' ⟨g, rfl, o1, hb1⟩
        exact ⟨g, rfl, ⟨o1, bt hb hb1⟩, HK.out V' (bt hb hb1)⟩
      have HSM : Hid (∀ V base g, Below X.heap.size X V → V.ownsRow base 94 1 (.slice (some ⟨g, 0, none⟩) 1 1) 1 ([(1 : Int)].map (Value.int .u32)) → Calls Tryz.prog 45 #[.slice b ys.length cb, .slice (some ⟨g, 0, none⟩) 1 1] V fun e V' => e = .returned (.bool false) ∧ Hid (Below X.heap.size X V') ∧ (V'.cell? ⟨w.heap.size, 0, none⟩ = some (.bool false) ∧ V'.cell? ⟨w.heap.size, 1, none⟩ = some (.slice a xs.length ca) ∧ V'.cell? ⟨w.heap.size, 2, none⟩ = some (.slice b ys.length cb))) := fun V base g hb o => by
        have e := same3_sl _ _ ys [1] V (HS.out.2.later hb) (Sl.own (xs := [1]) o (Wd.one (by omega))) (by omega) (by simp)
        rw [decide_eq_false HY.out] at e
        refine Calls.mono e ?_
        rintro e V' ⟨rfl, hb1⟩
        exact ⟨rfl, bt hb hb1, HK.out V' (bt hb hb1)⟩
      have hs0 := HK.out _ HB2.out.drew
      obtain ⟨p0, p1, p2⟩ := HK.out _ HB2.out
      go_wp2_with fail
      clear p0 p1 p2
      go_region_held3 (fun V : World => (V.cell? ⟨w.heap.size, 0, none⟩ = some (.bool false) ∧ V.cell? ⟨w.heap.size, 1, none⟩ = some (.slice a xs.length ca) ∧ V.cell? ⟨w.heap.size, 2, none⟩ = some (.slice b ys.length cb))) (first | exact hs4 | exact hs3 | exact hs0)
        (first
          | (go_at_call 45; with_reducible refine Calls.mono (HSM.out _ _ _ HE3.out.2 HE3.out.1) ?_; rintro e w4 ⟨rfl, HE4, hs4⟩)
          | (go_at_call 46; with_reducible refine Calls.mono (HO1.out _ HB2.out.drew) ?_; rintro e w3 ⟨g3, rfl, HE3, hs3⟩))
      all_goals
        have HB4 := hid HE4.out
        clear HK HO1 HSM HE3 HE4 hs0 hs3
        have HH := hid (HP2.out w4 HB4.out)
        go_wp2_with fail
        refine Calls.mono HH.out ?_
        rintro e w5 ⟨rfl, hb5⟩
        have HB5 := hid (bt HB4.out hb5)
        clear HH hb5 hs4
        go_wp2_with fail
        go_ret2
        refine ⟨_, rfl, ?_, bt HB.out HB5.out⟩
        rw [HTX.out, if_neg HY.out, ← HLL.out.1, ← HLL.out.2]
        simp
    | true =>
      go_enter Tryz.func20, Tryz.ntmps20
      go_wp2_with fail
      refine Calls.mono HC.out ?_
      generalize (w.alloc (.cells #[.bool true, .slice a xs.length ca, .slice b ys.length cb] 26)) = X at *
      rintro e w1 ⟨rfl, hb1⟩
      obtain ⟨p0, p1, p2, _⟩ := res_box3 HN.out hb1
      have HH := hid (HP1.out w1 hb1)
      go_wp2_with fail
      refine Calls.mono HH.out ?_
      rintro e w2 ⟨rfl, hb2⟩
      have HB2 := hid (bt hb1 hb2)
      clear HH HP1 hb1 hb2 p0 p1 p2 HC
      have HK : Hid (∀ V, Below X.heap.size X V → (V.cell? ⟨w.heap.size, 0, none⟩ = some (.bool true) ∧ V.cell? ⟨w.heap.size, 1, none⟩ = some (.slice a xs.length ca) ∧ V.cell? ⟨w.heap.size, 2, none⟩ = some (.slice b ys.length cb))) := fun V hb => by
        obtain ⟨p0, p1, p2, _, _, _⟩ := res_box3 HN.out hb
        exact ⟨p0, p1, p2⟩
      have HO1 : Hid (∀ V, Below X.heap.size X V → Calls Tryz.prog 46 #[] V fun e V' => ∃ g, e = .returned (.slice (some ⟨g, 0, none⟩) 1 1) ∧ Hid (V'.ownsRow V.heap.size 94 1 (.slice (some ⟨g, 0, none⟩) 1 1) 1 ([(1 : Int)].map (Value.int .u32)) ∧ Below X.heap.size X V') ∧ (V'.cell? ⟨w.heap.size, 0, none⟩ = some (.bool true) ∧ V'.cell? ⟨w.heap.size, 1, none⟩ = some (.slice a xs.length ca) ∧ V'.cell? ⟨w.heap.size, 2, none⟩ = some (.slice b ys.length cb))) := fun V hb => by
        refine Calls.mono (one3_any V) ?_
        rintro e V' ⟨g, rfl, o1, hb1⟩
        exact ⟨g, rfl, ⟨o1, bt hb hb1⟩, HK.out V' (bt hb hb1)⟩
      have HSM : Hid (∀ V base g, Below X.heap.size X V → V.ownsRow base 94 1 (.slice (some ⟨g, 0, none⟩) 1 1) 1 ([(1 : Int)].map (Value.int .u32)) → Calls Tryz.prog 45 #[.slice b ys.length cb, .slice (some ⟨g, 0, none⟩) 1 1] V fun e V' => e = .returned (.bool false) ∧ Hid (Below X.heap.size X V') ∧ (V'.cell? ⟨w.heap.size, 0, none⟩ = some (.bool true) ∧ V'.cell? ⟨w.heap.size, 1, none⟩ = some (.slice a xs.length ca) ∧ V'.cell? ⟨w.heap.size, 2, none⟩ = some (.slice b ys.length cb))) := fun V base g hb o => by
        have e := same3_sl _ _ ys [1] V (HS.out.2.later hb) (Sl.own (xs := [1]) o (Wd.one (by omega))) (by omega) (by simp)
        rw [decide_eq_false HY.out] at e
        refine Calls.mono e ?_
        rintro e V' ⟨rfl, hb1⟩
        exact ⟨rfl, bt hb hb1, HK.out V' (bt hb hb1)⟩
      have hs0 := HK.out _ HB2.out.drew
      obtain ⟨p0, p1, p2⟩ := HK.out _ HB2.out
      go_wp2_with fail
      clear p0 p1 p2
      go_region_held3 (fun V : World => (V.cell? ⟨w.heap.size, 0, none⟩ = some (.bool true) ∧ V.cell? ⟨w.heap.size, 1, none⟩ = some (.slice a xs.length ca) ∧ V.cell? ⟨w.heap.size, 2, none⟩ = some (.slice b ys.length cb))) (first | exact hs4 | exact hs3 | exact hs0)
        (first
          | (go_at_call 45; with_reducible refine Calls.mono (HSM.out _ _ _ HE3.out.2 HE3.out.1) ?_; rintro e w4 ⟨rfl, HE4, hs4⟩)
          | (go_at_call 46; with_reducible refine Calls.mono (HO1.out _ HB2.out.drew) ?_; rintro e w3 ⟨g3, rfl, HE3, hs3⟩))
      all_goals
        have HB4 := hid HE4.out
        clear HK HO1 HSM HE3 HE4 hs0 hs3
        have HH := hid (HP2.out w4 HB4.out)
        go_wp2_with fail
        refine Calls.mono HH.out ?_
        rintro e w5 ⟨rfl, hb5⟩
        have HB5 := hid (bt HB4.out hb5)
        clear HH hb5 hs4
        go_wp2_with fail
        go_ret2
        refine ⟨_, rfl, ?_, bt HB.out HB5.out⟩
        rw [HTX.out, if_neg HY.out, ← HLL.out.1, ← HLL.out.2]
        simp
end Go.Proofs.YtldeiapikkebgaaGreatDoor

/- strings.Cut by a bar. -/
namespace Go.Proofs.YtldeiapikkebgaaGreatDoor
open Go.RowKit Go.Lib
set_option linter.unusedVariables false

set_option maxHeartbeats 3200000 in
set_option maxRecDepth 100000 in
theorem index_bar (s : ByteArray) (w : World) :
    Calls Tryz.prog 73 #[.string s, .string ⟨#[47]⟩] w fun e w' => e = .returned (.int .i64 (indexByte s.data.toList 47)) ∧ w = w' := by
  have HH := hid (Tryz.stringslite_IndexByte s 47 w)
  by_cases c : s.data.toList = [47]
  · have hc : (([47] : List UInt8) == s.toList) = true := by rw [toList_data, c]; rfl
    have hi : Hid (indexByte s.data.toList 47 = 0) := by show _ = _; rw [c]; rfl
    rw [hi.out]
    clear HH c
    go_enter Tryz.func73, Tryz.ntmps73
    go_wp2_with fail
    go_ret
    exact ⟨rfl, rfl⟩
  · have hc : (([47] : List UInt8) == s.toList) = false := by rw [toList_data]; exact beq_eq_false_iff_ne.2 (fun e => c e.symm)
    clear c
    go_enter Tryz.func73, Tryz.ntmps73
    go_wp2_with fail
    refine Calls.mono HH.out ?_
    rintro e w' ⟨rfl, rfl⟩
    go_wp2_with fail
    go_ret
    exact ⟨rfl, rfl⟩
set_option maxHeartbeats 3200000 in
set_option maxRecDepth 100000 in
theorem cutl_no (s : ByteArray) (w : World) (h : indexByte s.data.toList 47 = -1) :
    Calls Tryz.prog 47 #[.string s, .string ⟨#[47]⟩] w fun e w' => e = .returned (.tuple #[.string s, .string ⟨#[]⟩, .bool false]) ∧ w = w' := by
  have HH := hid (index_bar s w)
  rw [h] at HH
  clear h
  go_enter Tryz.func47, Tryz.ntmps47
  go_wp2_with fail
  refine Calls.mono HH.out ?_
  rintro e w' ⟨rfl, rfl⟩
  go_wp2_with fail
  go_ret3
  exact ⟨rfl, rfl⟩
set_option maxHeartbeats 3200000 in
set_option maxRecDepth 100000 in
theorem cutl_yes (s : ByteArray) (w : World) (i : Nat) (h : indexByte s.data.toList 47 = (i : Int)) (hi : i + 1 ≤ s.size) (hs : s.size ≤ 65536) :
    Calls Tryz.prog 47 #[.string s, .string ⟨#[47]⟩] w fun e w' => e = .returned (.tuple #[.string (s.extract 0 i), .string (s.extract (i + 1) s.size), .bool true]) ∧ Below w.heap.size w w' := by
  have HH := hid (index_bar s w)
  rw [h] at HH
  clear h
  have c1 : (0 : Int) ≤ ↑i := by omega
  have c2 : (↑i : Int) ≤ ↑s.size := by omega
  have c3 : (0 : Int) ≤ ↑i + 1 := by omega
  have c4 : (↑i + 1 : Int) ≤ ↑s.size := by omega
  have cw : IntKind.i64.wrap ((i : Int) + 1) = (i : Int) + 1 := by rw [IntKind.wrap_i64]; omega
  go_enter Tryz.func47, Tryz.ntmps47
  go_wp2_with fail
  refine Calls.mono HH.out ?_
  rintro e w' ⟨rfl, rfl⟩
  go_wp2_with fail
  go_region
  go_wp2_with fail
  go_ret3
  exact ⟨rfl, (Below.refl _ _).drew⟩
set_option maxHeartbeats 1600000 in
set_option maxRecDepth 100000 in
theorem cut_no (s : ByteArray) (w : World) (h : indexByte s.data.toList 47 = -1) :
    Calls Tryz.prog 22 #[.string s, .string ⟨#[47]⟩] w fun e w' => e = .returned (.tuple #[.string s, .string ⟨#[]⟩, .bool false]) ∧ w = w' := by
  have HH := hid (cutl_no s w h)
  clear h
  go_enter Tryz.func22, Tryz.ntmps22
  go_wp2_with fail
  refine Calls.mono HH.out ?_
  rintro e w' ⟨rfl, rfl⟩
  go_wp2_with fail
  go_ret3
  exact ⟨rfl, rfl⟩
set_option maxHeartbeats 1600000 in
set_option maxRecDepth 100000 in
theorem cut_yes (s : ByteArray) (w : World) (i : Nat) (h : indexByte s.data.toList 47 = (i : Int)) (hi : i + 1 ≤ s.size) (hs : s.size ≤ 65536) :
    Calls Tryz.prog 22 #[.string s, .string ⟨#[47]⟩] w fun e w' => e = .returned (.tuple #[.string (s.extract 0 i), .string (s.extract (i + 1) s.size), .bool true]) ∧ Below w.heap.size w w' := by
  have HH := hid (cutl_yes s w i h hi hs)
  clear h
  go_enter Tryz.func22, Tryz.ntmps22
  go_wp2_with fail
  refine Calls.mono HH.out ?_
  rintro e w' ⟨rfl, hb⟩
  go_wp2_with fail
  go_ret3
  exact ⟨rfl, hb⟩

end Go.Proofs.YtldeiapikkebgaaGreatDoor

/- Fractions read from a text: ratio.read, for any text. -/
namespace Go.Proofs.YtldeiapikkebgaaGreatDoor
open Go.RowKit Go.Lib
set_option linter.unusedVariables false

def RRead (w : World) (l : List UInt8) (x : Ending) (w' : World) : Prop :=
  ∃ n v xs u ys, x = .returned (.agg #[.bool n, v, u]) ∧ w'.ownsRow w.heap.size 94 1 v xs.length (xs.map (Value.int .u32)) ∧ w'.ownsRow w.heap.size 94 1 u ys.length (ys.map (Value.int .u32)) ∧ Wd xs ∧ Wd ys ∧ xs.length ≤ 8192 ∧ ys.length ≤ 8192 ∧ (rform n xs ys ↔ rgood l) ∧ (rgood l → n = rneg l ∧ Trimmed xs ∧ Trimmed ys ∧ val xs = rnu l ∧ val ys = rde l) ∧ Below w.heap.size w w' ∧ Cut w v u w'
theorem rread_bad {w w' : World} {l : List UInt8} (h : ¬ rgood l) (hb : Below w.heap.size w w') : RRead w l (.returned (.agg #[.bool false, .slice none 0 0, .slice none 0 0])) w' :=
  ⟨false, _, [], _, [], rfl, World.ownsRow_nil _ _ _ _, World.ownsRow_nil _ _ _ _, Wd.nil, Wd.nil, by simp, by simp, ⟨fun e => absurd e.2.1 (by simp), fun e => absurd e h⟩, fun e => absurd e h, hb, w'.heap.size, hb.size, Nat.le_refl _, fun g hg => by simp [Value.ownBlock] at hg, fun g hg => by simp [Value.ownBlock] at hg⟩
theorem rform_good {n : Bool} {xs ys : List Int} (wx : Wd xs) (wy : Wd ys) (tx : Trimmed xs) (ty : Trimmed ys) (lx : xs.length ≤ 8192) (ly : ys.length ≤ 8192) {l : List UInt8} (hn : n = rneg l) (hx : val xs = rnu l) (hy : val ys = rde l) (h1 : IsNum (rup l)) (h2 : rbar l = -1 ∨ IsNum (rdn l) ∧ rde l ≠ 1) : rform n xs ys ↔ rgood l := by
  have hp : 0 < ys.length ↔ 0 < rde l := by
    rw [← hy]
    exact ⟨fun h => val_pos' wy ty h, fun h => by
      by_cases c : ys.length = 0
      · obtain rfl := List.length_eq_zero_iff.1 c
        simp [val, valTo] at h
      · omega⟩
  have hq : 0 < xs.length ↔ 0 < rnu l := by
    rw [← hx]
    exact ⟨fun h => val_pos' wx tx h, fun h => by
      by_cases c : xs.length = 0
      · obtain rfl := List.length_eq_zero_iff.1 c
        simp [val, valTo] at h
      · omega⟩
  unfold rform rgood
  rw [hp, hq, hn, hx, hy]
  exact ⟨fun e => ⟨h1, h2, e.2.1, e.2.2.1, e.2.2.2⟩, fun e => ⟨both_good (chk_good lx tx) (chk_good ly ty), e.2.2.1, e.2.2.2.1, e.2.2.2.2⟩⟩
theorem rread_put {w U W : World} {l : List UInt8} {n : Bool} {v u : Value} {xs ys : List Int} (hU : Below w.heap.size w U) (hlt : w.heap.size < U.heap.size) (hW : Below U.heap.size U W) (o1 : One U W v xs (rnu l)) (o2 : One U W u ys (rde l)) (hc : Cut U v u W) (lx : xs.length ≤ 8192) (ly : ys.length ≤ 8192) (hn : n = rneg l) (h1 : IsNum (rup l)) (h2 : rbar l = -1 ∨ IsNum (rdn l) ∧ rde l ≠ 1) (x y z : Value) :
    RRead w l (.returned (.agg #[.bool n, v, u])) (((W.setCell ⟨w.heap.size, 0, none⟩ x).setCell ⟨w.heap.size, 1, none⟩ y).setCell ⟨w.heap.size, 2, none⟩ z) :=
  ⟨n, v, xs, u, ys, rfl, owns_base (own_put3 o1.1 _ (fun g hg => by have := (World.ownsRow.lt o1.1 g hg).1; omega) _ _ _) (by omega), owns_base (own_put3 o2.1 _ (fun g hg => by have := (World.ownsRow.lt o2.1 g hg).1; omega) _ _ _) (by omega), o1.2.1, o2.2.1, lx, ly, rform_good o1.2.1 o2.2.1 o1.2.2.1 o2.2.2.1 lx ly hn o1.2.2.2 o2.2.2.2 h1 h2, fun _ => ⟨hn, o1.2.2.1, o2.2.2.1, o1.2.2.2, o2.2.2.2⟩, below_put3 (bt hU hW) _ (Nat.le_refl _) _ _ _, hc.up (by omega) (by simp)⟩
theorem parse_good (T : ByteArray) (w : World) (hs : T.size ≤ 65536) (l : List UInt8) (hl : T.data.toList = l) (h : IsNum l) :
    Calls Tryz.prog 106 #[.string T] w fun x w' => ∃ a zs c, x = .returned (.tuple #[.slice a (List.length zs) c, .int .i64 0]) ∧ Hid (One w w' (.slice a (List.length zs) c) zs (numTo l l.length) ∧ zs.length ≤ 8192) ∧ Below w.heap.size w w' := by
  have HP := parse_any T w (by unfold maxLen; omega)
  rw [pErr_ok T hs (by rw [hl]; exact h)] at HP
  have hw := num_wide h.2.2 (by rw [← hl, size_list]; exact hs)
  refine Calls.mono HP ?_
  rintro x w' ⟨v, zs, code, rfl, o, t, hb⟩
  obtain ⟨a, c, hv⟩ := own_slice' o
  subst hv
  have e : numTo T.data.toList T.size = numTo l l.length := by rw [← size_list, hl]
  rw [e] at t
  obtain ⟨rfl, hz⟩ := t.good rfl hw
  exact ⟨a, zs, c, rfl, ⟨⟨o, t.wd, t.trim, hz⟩, own_len (U := w) (V := w') ⟨o, t.wd, t.trim, hz⟩ hw⟩, hb⟩
theorem parse_bad (T : ByteArray) (w : World) (hs : T.size ≤ 65536) (l : List UInt8) (hl : T.data.toList = l) (h : ¬ IsNum l) :
    Calls Tryz.prog 106 #[.string T] w fun x w' => ∃ a c, x = .returned (.tuple #[.slice a 0 c, .int .i64 110]) ∧ Below w.heap.size w w' := by
  have HP := parse_any T w (by unfold maxLen; omega)
  rw [pErr_not T hs (by rw [hl]; exact h)] at HP
  refine Calls.mono HP ?_
  rintro x w' ⟨v, zs, code, rfl, o, t, hb⟩
  obtain ⟨a, c, hv⟩ := own_slice' o
  subst hv
  obtain ⟨rfl, rfl⟩ := t.bad (by decide)
  exact ⟨a, c, rfl, hb⟩
theorem of_one (w : World) : Calls Tryz.prog 107 #[.int .u64 1] w fun x w' => ∃ a c, x = .returned (.slice a 1 c) ∧ Hid (One w w' (.slice a 1 c) [1] 1) ∧ Below w.heap.size w w' := by
  refine Calls.mono (of_any 1 w (by decide) (by decide)) ?_
  rintro x w' ⟨v, rfl, o, hb⟩
  have e1 : sz [(1 : Int) % 4294967296, 1 / 4294967296] = 1 := by decide
  have e2 : trimmed [(1 : Int) % 4294967296, 1 / 4294967296] = [1] := by decide
  rw [e1, e2] at o
  obtain ⟨a, c, hv⟩ := own_slice' o
  subst hv
  exact ⟨a, c, rfl, ⟨o, Wd.one (by omega), rfl, by simp [val, valTo]⟩, hb⟩

set_option maxHeartbeats 6400000 in
set_option maxRecDepth 100000 in
theorem read_A1 (s : ByteArray) (w : World) (hs : s.size ≤ 65536) (hB : rbar s.data.toList = -1) (hU : ¬ IsNum (rup s.data.toList)) :
    Calls Tryz.prog 75 #[.string s] w (RRead w s.data.toList) := by
  have HB := hid (alloc_later w (.cells #[.bool false, .slice none 0 0, .slice none 0 0] 26))
  have HZ := hid (Box.made w 26 #[.bool false, .slice none 0 0, .slice none 0 0])
  have HLT : Hid (w.heap.size < (w.alloc (.cells #[.bool false, .slice none 0 0, .slice none 0 0] 26)).heap.size) := by show _ < _; simp
  have HCP := hid (cutPrefix_minus s (w.alloc (.cells #[.bool false, .slice none 0 0, .slice none 0 0] 26)) hs)
  have hss := size_list s
  rw [show decide (s.data.toList[0]? = some 45) = rneg s.data.toList from rfl] at HCP
  have HBR := hid hB
  have HU := hid hU
  have HBAD : Hid (¬ rgood s.data.toList) := fun h => hU h.1
  clear hB hU
  go_enter Tryz.func75, Tryz.ntmps75
  go_wp2_with fail
  refine Calls.mono HCP.out ?_
  rintro e w' ⟨T, b, rfl, hbb, hTw, rfl⟩
  have hTs : T.size ≤ 65536 := by
    rw [← size_list, hTw]
    split
    · rw [List.length_drop]; omega
    · omega
  have hTb : indexByte T.data.toList 47 = rbar s.data.toList := by rw [hTw, hbb]; rfl
  have hTw' : T.data.toList = wdig (rneg s.data.toList) s.data.toList := by rw [hTw, hbb]; rfl
  clear hTw HCP
  have HC := hid (cut_no T (w.alloc (.cells #[.bool false, .slice none 0 0, .slice none 0 0] 26)) (by rw [hTb]; exact HBR.out))
  have HA : Hid (T.data.toList = rup s.data.toList) := by show _ = _; rw [hTw']; unfold rup; rw [if_pos HBR.out]
  clear hTb hTw'
  go_wp2_with fail
  refine Calls.mono HC.out ?_
  rintro e w1 ⟨rfl, rfl⟩
  clear HC
  have HH := hid (parse_bad T (w.alloc (.cells #[.bool false, .slice none 0 0, .slice none 0 0] 26)) hTs _ HA.out HU.out)
  go_wp2_with fail
  refine Calls.mono HH.out ?_
  rintro e w2 ⟨a2, c2, rfl, hb2⟩
  clear HH
  obtain ⟨r0, r1, r2, f0, f1, f2⟩ := res_box3 HZ.out hb2
  have HBA := hid (bt HB.out hb2)
  go_wp2_with fail
  refine bodyPost_ret (v := .agg #[.bool false, .slice none 0 0, .slice none 0 0]) (by simp [results, Tryz.results75, go_sem, r0, r1, r2]) rfl ?_
  exact rread_bad HBAD.out (below_put3 HBA.out _ (Nat.le_refl _) _ _ _)

set_option maxHeartbeats 6400000 in
set_option maxRecDepth 100000 in
theorem read_A2 (s : ByteArray) (w : World) (hs : s.size ≤ 65536) (hB : ¬ rbar s.data.toList = -1) (hU : ¬ IsNum (rup s.data.toList)) :
    Calls Tryz.prog 75 #[.string s] w (RRead w s.data.toList) := by
  have HB := hid (alloc_later w (.cells #[.bool false, .slice none 0 0, .slice none 0 0] 26))
  have HZ := hid (Box.made w 26 #[.bool false, .slice none 0 0, .slice none 0 0])
  have HLT : Hid (w.heap.size < (w.alloc (.cells #[.bool false, .slice none 0 0, .slice none 0 0] 26)).heap.size) := by show _ < _; simp
  have HCP := hid (cutPrefix_minus s (w.alloc (.cells #[.bool false, .slice none 0 0, .slice none 0 0] 26)) hs)
  have hss := size_list s
  rw [show decide (s.data.toList[0]? = some 45) = rneg s.data.toList from rfl] at HCP
  have HBR := hid hB
  have HU := hid hU
  have HBAD : Hid (¬ rgood s.data.toList) := fun h => hU h.1
  clear hB hU
  go_enter Tryz.func75, Tryz.ntmps75
  go_wp2_with fail
  refine Calls.mono HCP.out ?_
  rintro e w' ⟨T, b, rfl, hbb, hTw, rfl⟩
  have hTs : T.size ≤ 65536 := by
    rw [← size_list, hTw]
    split
    · rw [List.length_drop]; omega
    · omega
  have hTb : indexByte T.data.toList 47 = rbar s.data.toList := by rw [hTw, hbb]; rfl
  have hTw' : T.data.toList = wdig (rneg s.data.toList) s.data.toList := by rw [hTw, hbb]; rfl
  clear hTw HCP
  obtain ⟨i, hi⟩ : ∃ i : Nat, rbar s.data.toList = (i : Int) := ⟨(rbar s.data.toList).toNat, by have := indexByte_ge (wdig (rneg s.data.toList) s.data.toList) 47; have h := HBR.out; have e : rbar s.data.toList = indexByte (wdig (rneg s.data.toList) s.data.toList) 47 := rfl; omega⟩
  have hil : i + 1 ≤ T.size := by
    have h := (bar_parts (l := T.data.toList) (by rw [hTb]; exact HBR.out)).2
    rw [hTb, size_list] at h
    omega
  have HC := hid (cut_yes T (w.alloc (.cells #[.bool false, .slice none 0 0, .slice none 0 0] 26)) i (by rw [hTb]; exact hi) hil hTs)
  have HA : Hid ((T.extract 0 i).data.toList = rup s.data.toList) := by show _ = _; rw [extract_list, hTw']; unfold rup; rw [if_neg HBR.out, hi]; simp
  have HD : Hid ((T.extract (i + 1) T.size).data.toList = rdn s.data.toList) := by
    show _ = _
    rw [extract_list, List.take_of_length_le (by rw [List.length_drop, size_list]; omega), hTw']
    unfold rdn
    rw [if_neg HBR.out, hi]; simp
  have hAs : (T.extract 0 i).size ≤ 65536 := by rw [← size_list, extract_list, List.length_take, List.length_drop, size_list]; omega
  have hDs : (T.extract (i + 1) T.size).size ≤ 65536 := by rw [← size_list, extract_list, List.length_take, List.length_drop, size_list]; omega
  generalize T.extract 0 i = A at *
  generalize T.extract (i + 1) T.size = D at *
  clear hTw' hTb hi hil hTs
  go_wp2_with fail
  refine Calls.mono HC.out ?_
  rintro e w1 ⟨rfl, hb1⟩
  clear HC
  have HH := hid (parse_bad A w1 hAs _ HA.out HU.out)
  go_wp2_with fail
  refine Calls.mono HH.out ?_
  rintro e w2 ⟨a2, c2, rfl, hb2⟩
  clear HH
  obtain ⟨r0, r1, r2, f0, f1, f2⟩ := res_box3 HZ.out (bt hb1 hb2)
  have HBA := hid (bt HB.out (bt hb1 hb2))
  go_wp2_with fail
  refine bodyPost_ret (v := .agg #[.bool false, .slice none 0 0, .slice none 0 0]) (by simp [results, Tryz.results75, go_sem, r0, r1, r2]) rfl ?_
  exact rread_bad HBAD.out (below_put3 HBA.out _ (Nat.le_refl _) _ _ _)

set_option maxHeartbeats 6400000 in
set_option maxRecDepth 100000 in
theorem read_B (s : ByteArray) (w : World) (hs : s.size ≤ 65536) (hB : rbar s.data.toList = -1) (hU : IsNum (rup s.data.toList)) :
    Calls Tryz.prog 75 #[.string s] w (RRead w s.data.toList) := by
  have HB := hid (alloc_later w (.cells #[.bool false, .slice none 0 0, .slice none 0 0] 26))
  have HZ := hid (Box.made w 26 #[.bool false, .slice none 0 0, .slice none 0 0])
  have HLT : Hid (w.heap.size < (w.alloc (.cells #[.bool false, .slice none 0 0, .slice none 0 0] 26)).heap.size) := by show _ < _; simp
  have HCP := hid (cutPrefix_minus s (w.alloc (.cells #[.bool false, .slice none 0 0, .slice none 0 0] 26)) hs)
  have hss := size_list s
  rw [show decide (s.data.toList[0]? = some 45) = rneg s.data.toList from rfl] at HCP
  have HBR := hid hB
  have HU := hid hU
  clear hB hU
  go_enter Tryz.func75, Tryz.ntmps75
  go_wp2_with fail
  refine Calls.mono HCP.out ?_
  rintro e w' ⟨T, b, rfl, hbb, hTw, rfl⟩
  have hTs : T.size ≤ 65536 := by
    rw [← size_list, hTw]
    split
    · rw [List.length_drop]; omega
    · omega
  have hTb : indexByte T.data.toList 47 = rbar s.data.toList := by rw [hTw, hbb]; rfl
  have hTw' : T.data.toList = wdig (rneg s.data.toList) s.data.toList := by rw [hTw, hbb]; rfl
  clear hTw HCP
  have HC := hid (cut_no T (w.alloc (.cells #[.bool false, .slice none 0 0, .slice none 0 0] 26)) (by rw [hTb]; exact HBR.out))
  have HA : Hid (T.data.toList = rup s.data.toList) := by show _ = _; rw [hTw']; unfold rup; rw [if_pos HBR.out]
  clear hTb hTw'
  go_wp2_with fail
  refine Calls.mono HC.out ?_
  rintro e w1 ⟨rfl, rfl⟩
  clear HC
  have HH := hid (parse_good T (w.alloc (.cells #[.bool false, .slice none 0 0, .slice none 0 0] 26)) hTs _ HA.out HU.out)
  go_wp2_with fail
  refine Calls.mono HH.out ?_
  rintro e w2 ⟨a2, z2, c2, rfl, H2, hb2⟩
  clear HH
  have HH := hid (of_one w2)
  go_wp2_with fail
  refine Calls.mono HH.out ?_
  rintro e w3 ⟨a3, c3, rfl, H3, hb3⟩
  clear HH
  have HW := hid (bt hb2 hb3)
  obtain ⟨r0, r1, r2, f0, f1, f2⟩ := res_box3 HZ.out HW.out
  have hz2 := hb2.size
  have hz3 := hb3.size
  have HO2 : Hid (One (w.alloc (.cells #[.bool false, .slice none 0 0, .slice none 0 0] 26)) w3 (.slice a2 z2.length c2) z2 (rnu s.data.toList)) := ⟨owns_later H2.out.1.1 hb3, H2.out.1.2⟩
  have HDE : Hid (rde s.data.toList = 1) := by show _ = _; unfold rde; rw [if_pos HBR.out]
  have HO3 : Hid (One (w.alloc (.cells #[.bool false, .slice none 0 0, .slice none 0 0] 26)) w3 (.slice a3 1 c3) [1] (rde s.data.toList)) := ⟨owns_base H3.out.1 (by omega), H3.out.2.1, H3.out.2.2.1, by rw [HDE.out]; exact H3.out.2.2.2⟩
  have HCUT : Hid (Cut (w.alloc (.cells #[.bool false, .slice none 0 0, .slice none 0 0] 26)) (.slice a2 z2.length c2) (.slice a3 1 c3) w3) := cut_two (Nat.le_refl _) hz2 hz3 (World.ownsRow.lt H2.out.1.1) (World.ownsRow.lt H3.out.1)
  have HLL := hid H2.out.2
  clear hb2 hb3 hz2 hz3 H2 H3
  subst hbb
  go_wp2_with fail
  refine bodyPost_ret (v := .agg #[.bool (rneg s.data.toList), .slice a2 z2.length c2, .slice a3 1 c3]) (by simp [results, Tryz.results75, go_sem, r0, r1, r2]) rfl ?_
  exact rread_put HB.out HLT.out HW.out HO2.out HO3.out HCUT.out HLL.out (by simp) rfl HU.out (.inl HBR.out) _ _ _

set_option maxHeartbeats 6400000 in
set_option maxRecDepth 100000 in
theorem read_C (s : ByteArray) (w : World) (hs : s.size ≤ 65536) (hB : ¬ rbar s.data.toList = -1) (hU : IsNum (rup s.data.toList)) (hV : ¬ IsNum (rdn s.data.toList)) :
    Calls Tryz.prog 75 #[.string s] w (RRead w s.data.toList) := by
  have HB := hid (alloc_later w (.cells #[.bool false, .slice none 0 0, .slice none 0 0] 26))
  have HZ := hid (Box.made w 26 #[.bool false, .slice none 0 0, .slice none 0 0])
  have HLT : Hid (w.heap.size < (w.alloc (.cells #[.bool false, .slice none 0 0, .slice none 0 0] 26)).heap.size) := by show _ < _; simp
  have HCP := hid (cutPrefix_minus s (w.alloc (.cells #[.bool false, .slice none 0 0, .slice none 0 0] 26)) hs)
  have hss := size_list s
  rw [show decide (s.data.toList[0]? = some 45) = rneg s.data.toList from rfl] at HCP
  have HBR := hid hB
  have HU := hid hU
  have HV := hid hV
  have HBAD : Hid (¬ rgood s.data.toList) := fun h => h.2.1.elim hB (fun e => hV e.1)
  clear hB hU hV
  go_enter Tryz.func75, Tryz.ntmps75
  go_wp2_with fail
  refine Calls.mono HCP.out ?_
  rintro e w' ⟨T, b, rfl, hbb, hTw, rfl⟩
  have hTs : T.size ≤ 65536 := by
    rw [← size_list, hTw]
    split
    · rw [List.length_drop]; omega
    · omega
  have hTb : indexByte T.data.toList 47 = rbar s.data.toList := by rw [hTw, hbb]; rfl
  have hTw' : T.data.toList = wdig (rneg s.data.toList) s.data.toList := by rw [hTw, hbb]; rfl
  clear hTw HCP
  obtain ⟨i, hi⟩ : ∃ i : Nat, rbar s.data.toList = (i : Int) := ⟨(rbar s.data.toList).toNat, by have := indexByte_ge (wdig (rneg s.data.toList) s.data.toList) 47; have h := HBR.out; have e : rbar s.data.toList = indexByte (wdig (rneg s.data.toList) s.data.toList) 47 := rfl; omega⟩
  have hil : i + 1 ≤ T.size := by
    have h := (bar_parts (l := T.data.toList) (by rw [hTb]; exact HBR.out)).2
    rw [hTb, size_list] at h
    omega
  have HC := hid (cut_yes T (w.alloc (.cells #[.bool false, .slice none 0 0, .slice none 0 0] 26)) i (by rw [hTb]; exact hi) hil hTs)
  have HA : Hid ((T.extract 0 i).data.toList = rup s.data.toList) := by show _ = _; rw [extract_list, hTw']; unfold rup; rw [if_neg HBR.out, hi]; simp
  have HD : Hid ((T.extract (i + 1) T.size).data.toList = rdn s.data.toList) := by
    show _ = _
    rw [extract_list, List.take_of_length_le (by rw [List.length_drop, size_list]; omega), hTw']
    unfold rdn
    rw [if_neg HBR.out, hi]; simp
  have hAs : (T.extract 0 i).size ≤ 65536 := by rw [← size_list, extract_list, List.length_take, List.length_drop, size_list]; omega
  have hDs : (T.extract (i + 1) T.size).size ≤ 65536 := by rw [← size_list, extract_list, List.length_take, List.length_drop, size_list]; omega
  generalize T.extract 0 i = A at *
  generalize T.extract (i + 1) T.size = D at *
  clear hTw' hTb hi hil hTs
  go_wp2_with fail
  refine Calls.mono HC.out ?_
  rintro e w1 ⟨rfl, hb1⟩
  clear HC
  have HH := hid (parse_good A w1 hAs _ HA.out HU.out)
  go_wp2_with fail
  refine Calls.mono HH.out ?_
  rintro e w2 ⟨a2, z2, c2, rfl, H2, hb2⟩
  clear HH
  have HH := hid (parse_bad D w2 hDs _ HD.out HV.out)
  go_wp2_with fail
  refine Calls.mono HH.out ?_
  rintro e w3 ⟨a3, c3, rfl, hb3⟩
  clear HH
  obtain ⟨r0, r1, r2, f0, f1, f2⟩ := res_box3 HZ.out (bt hb1 (bt hb2 hb3))
  have HBA := hid (bt HB.out (bt hb1 (bt hb2 hb3)))
  go_wp2_with fail
  refine bodyPost_ret (v := .agg #[.bool false, .slice none 0 0, .slice none 0 0]) (by simp [results, Tryz.results75, go_sem, r0, r1, r2]) rfl ?_
  exact rread_bad HBAD.out (below_put3 HBA.out _ (Nat.le_refl _) _ _ _)

set_option maxHeartbeats 6400000 in
set_option maxRecDepth 100000 in
theorem read_D (s : ByteArray) (w : World) (hs : s.size ≤ 65536) (hB : ¬ rbar s.data.toList = -1) (hU : IsNum (rup s.data.toList)) (hV : IsNum (rdn s.data.toList)) (hO : rde s.data.toList = 1) :
    Calls Tryz.prog 75 #[.string s] w (RRead w s.data.toList) := by
  have HB := hid (alloc_later w (.cells #[.bool false, .slice none 0 0, .slice none 0 0] 26))
  have HZ := hid (Box.made w 26 #[.bool false, .slice none 0 0, .slice none 0 0])
  have HLT : Hid (w.heap.size < (w.alloc (.cells #[.bool false, .slice none 0 0, .slice none 0 0] 26)).heap.size) := by show _ < _; simp
  have HCP := hid (cutPrefix_minus s (w.alloc (.cells #[.bool false, .slice none 0 0, .slice none 0 0] 26)) hs)
  have hss := size_list s
  rw [show decide (s.data.toList[0]? = some 45) = rneg s.data.toList from rfl] at HCP
  have HBR := hid hB
  have HU := hid hU
  have HV := hid hV
  have HBAD : Hid (¬ rgood s.data.toList) := fun h => h.2.1.elim hB (fun e => e.2 hO)
  have hde : rde s.data.toList = numTo (rdn s.data.toList) (rdn s.data.toList).length := by unfold rde; rw [if_neg hB]
  have hval : ∀ z : List Int, Wd z → Trimmed z → val z = numTo (rdn s.data.toList) (rdn s.data.toList).length → decide (z = [1]) = true := fun z w t v => decide_eq_true ((one_iff w t).2 (by rw [v, ← hde]; exact hO))
  clear hB hU hV hO hde
  go_enter Tryz.func75, Tryz.ntmps75
  go_wp2_with fail
  refine Calls.mono HCP.out ?_
  rintro e w' ⟨T, b, rfl, hbb, hTw, rfl⟩
  have hTs : T.size ≤ 65536 := by
    rw [← size_list, hTw]
    split
    · rw [List.length_drop]; omega
    · omega
  have hTb : indexByte T.data.toList 47 = rbar s.data.toList := by rw [hTw, hbb]; rfl
  have hTw' : T.data.toList = wdig (rneg s.data.toList) s.data.toList := by rw [hTw, hbb]; rfl
  clear hTw HCP
  obtain ⟨i, hi⟩ : ∃ i : Nat, rbar s.data.toList = (i : Int) := ⟨(rbar s.data.toList).toNat, by have := indexByte_ge (wdig (rneg s.data.toList) s.data.toList) 47; have h := HBR.out; have e : rbar s.data.toList = indexByte (wdig (rneg s.data.toList) s.data.toList) 47 := rfl; omega⟩
  have hil : i + 1 ≤ T.size := by
    have h := (bar_parts (l := T.data.toList) (by rw [hTb]; exact HBR.out)).2
    rw [hTb, size_list] at h
    omega
  have HC := hid (cut_yes T (w.alloc (.cells #[.bool false, .slice none 0 0, .slice none 0 0] 26)) i (by rw [hTb]; exact hi) hil hTs)
  have HA : Hid ((T.extract 0 i).data.toList = rup s.data.toList) := by show _ = _; rw [extract_list, hTw']; unfold rup; rw [if_neg HBR.out, hi]; simp
  have HD : Hid ((T.extract (i + 1) T.size).data.toList = rdn s.data.toList) := by
    show _ = _
    rw [extract_list, List.take_of_length_le (by rw [List.length_drop, size_list]; omega), hTw']
    unfold rdn
    rw [if_neg HBR.out, hi]; simp
  have hAs : (T.extract 0 i).size ≤ 65536 := by rw [← size_list, extract_list, List.length_take, List.length_drop, size_list]; omega
  have hDs : (T.extract (i + 1) T.size).size ≤ 65536 := by rw [← size_list, extract_list, List.length_take, List.length_drop, size_list]; omega
  generalize T.extract 0 i = A at *
  generalize T.extract (i + 1) T.size = D at *
  clear hTw' hTb hi hil hTs
  go_wp2_with fail
  refine Calls.mono HC.out ?_
  rintro e w1 ⟨rfl, hb1⟩
  clear HC
  have HH := hid (parse_good A w1 hAs _ HA.out HU.out)
  go_wp2_with fail
  refine Calls.mono HH.out ?_
  rintro e w2 ⟨a2, z2, c2, rfl, H2, hb2⟩
  clear HH
  have HH := hid (parse_good D w2 hDs _ HD.out HV.out)
  go_wp2_with fail
  refine Calls.mono HH.out ?_
  rintro e w3 ⟨a3, z3, c3, rfl, H3, hb3⟩
  clear HH
  have HI := isOne_any _ z3 w3 (Sl.own H3.out.1.1 H3.out.1.2.1)
  rw [hval z3 H3.out.1.2.1 H3.out.1.2.2.1 H3.out.1.2.2.2] at HI
  clear hval
  have HH := hid (HI)
  go_wp2_with fail
  refine Calls.mono HH.out ?_
  rintro e w4 ⟨rfl, rfl⟩
  clear HH
  obtain ⟨r0, r1, r2, f0, f1, f2⟩ := res_box3 HZ.out (bt hb1 (bt hb2 hb3))
  have HBA := hid (bt HB.out (bt hb1 (bt hb2 hb3)))
  go_wp2_with fail
  refine bodyPost_ret (v := .agg #[.bool false, .slice none 0 0, .slice none 0 0]) (by simp [results, Tryz.results75, go_sem, r0, r1, r2]) rfl ?_
  exact rread_bad HBAD.out (below_put3 HBA.out _ (Nat.le_refl _) _ _ _)

set_option maxHeartbeats 6400000 in
set_option maxRecDepth 100000 in
theorem read_E (s : ByteArray) (w : World) (hs : s.size ≤ 65536) (hB : ¬ rbar s.data.toList = -1) (hU : IsNum (rup s.data.toList)) (hV : IsNum (rdn s.data.toList)) (hO : ¬ rde s.data.toList = 1) :
    Calls Tryz.prog 75 #[.string s] w (RRead w s.data.toList) := by
  have HB := hid (alloc_later w (.cells #[.bool false, .slice none 0 0, .slice none 0 0] 26))
  have HZ := hid (Box.made w 26 #[.bool false, .slice none 0 0, .slice none 0 0])
  have HLT : Hid (w.heap.size < (w.alloc (.cells #[.bool false, .slice none 0 0, .slice none 0 0] 26)).heap.size) := by show _ < _; simp
  have HCP := hid (cutPrefix_minus s (w.alloc (.cells #[.bool false, .slice none 0 0, .slice none 0 0] 26)) hs)
  have hss := size_list s
  rw [show decide (s.data.toList[0]? = some 45) = rneg s.data.toList from rfl] at HCP
  have HBR := hid hB
  have HU := hid hU
  have HV := hid hV
  have HO := hid hO
  have hde : rde s.data.toList = numTo (rdn s.data.toList) (rdn s.data.toList).length := by unfold rde; rw [if_neg hB]
  have hval : ∀ z : List Int, Wd z → Trimmed z → val z = numTo (rdn s.data.toList) (rdn s.data.toList).length → decide (z = [1]) = false := fun z w t v => decide_eq_false (fun e => hO (by rw [hde, ← v]; exact (one_iff w t).1 e))
  have HDE := hid hde
  clear hB hU hV hO hde
  go_enter Tryz.func75, Tryz.ntmps75
  go_wp2_with fail
  refine Calls.mono HCP.out ?_
  rintro e w' ⟨T, b, rfl, hbb, hTw, rfl⟩
  have hTs : T.size ≤ 65536 := by
    rw [← size_list, hTw]
    split
    · rw [List.length_drop]; omega
    · omega
  have hTb : indexByte T.data.toList 47 = rbar s.data.toList := by rw [hTw, hbb]; rfl
  have hTw' : T.data.toList = wdig (rneg s.data.toList) s.data.toList := by rw [hTw, hbb]; rfl
  clear hTw HCP
  obtain ⟨i, hi⟩ : ∃ i : Nat, rbar s.data.toList = (i : Int) := ⟨(rbar s.data.toList).toNat, by have := indexByte_ge (wdig (rneg s.data.toList) s.data.toList) 47; have h := HBR.out; have e : rbar s.data.toList = indexByte (wdig (rneg s.data.toList) s.data.toList) 47 := rfl; omega⟩
  have hil : i + 1 ≤ T.size := by
    have h := (bar_parts (l := T.data.toList) (by rw [hTb]; exact HBR.out)).2
    rw [hTb, size_list] at h
    omega
  have HC := hid (cut_yes T (w.alloc (.cells #[.bool false, .slice none 0 0, .slice none 0 0] 26)) i (by rw [hTb]; exact hi) hil hTs)
  have HA : Hid ((T.extract 0 i).data.toList = rup s.data.toList) := by show _ = _; rw [extract_list, hTw']; unfold rup; rw [if_neg HBR.out, hi]; simp
  have HD : Hid ((T.extract (i + 1) T.size).data.toList = rdn s.data.toList) := by
    show _ = _
    rw [extract_list, List.take_of_length_le (by rw [List.length_drop, size_list]; omega), hTw']
    unfold rdn
    rw [if_neg HBR.out, hi]; simp
  have hAs : (T.extract 0 i).size ≤ 65536 := by rw [← size_list, extract_list, List.length_take, List.length_drop, size_list]; omega
  have hDs : (T.extract (i + 1) T.size).size ≤ 65536 := by rw [← size_list, extract_list, List.length_take, List.length_drop, size_list]; omega
  generalize T.extract 0 i = A at *
  generalize T.extract (i + 1) T.size = D at *
  clear hTw' hTb hi hil hTs
  go_wp2_with fail
  refine Calls.mono HC.out ?_
  rintro e w1 ⟨rfl, hb1⟩
  clear HC
  have HH := hid (parse_good A w1 hAs _ HA.out HU.out)
  go_wp2_with fail
  refine Calls.mono HH.out ?_
  rintro e w2 ⟨a2, z2, c2, rfl, H2, hb2⟩
  clear HH
  have HH := hid (parse_good D w2 hDs _ HD.out HV.out)
  go_wp2_with fail
  refine Calls.mono HH.out ?_
  rintro e w3 ⟨a3, z3, c3, rfl, H3, hb3⟩
  clear HH
  have HI := isOne_any _ z3 w3 (Sl.own H3.out.1.1 H3.out.1.2.1)
  rw [hval z3 H3.out.1.2.1 H3.out.1.2.2.1 H3.out.1.2.2.2] at HI
  clear hval
  have HH := hid (HI)
  go_wp2_with fail
  refine Calls.mono HH.out ?_
  rintro e w4 ⟨rfl, rfl⟩
  clear HH
  have HW := hid (bt hb1 (bt hb2 hb3))
  obtain ⟨r0, r1, r2, f0, f1, f2⟩ := res_box3 HZ.out HW.out
  have hz1 := hb1.size
  have hz2 := hb2.size
  have hz3 := hb3.size
  have HO2 : Hid (One (w.alloc (.cells #[.bool false, .slice none 0 0, .slice none 0 0] 26)) w3 (.slice a2 z2.length c2) z2 (rnu s.data.toList)) := ⟨owns_base (owns_later H2.out.1.1 hb3) hz1, H2.out.1.2⟩
  have HO3 : Hid (One (w.alloc (.cells #[.bool false, .slice none 0 0, .slice none 0 0] 26)) w3 (.slice a3 z3.length c3) z3 (rde s.data.toList)) := ⟨owns_base H3.out.1.1 (by omega), H3.out.1.2.1, H3.out.1.2.2.1, by rw [HDE.out]; exact H3.out.1.2.2.2⟩
  have HCUT : Hid (Cut (w.alloc (.cells #[.bool false, .slice none 0 0, .slice none 0 0] 26)) (.slice a2 z2.length c2) (.slice a3 z3.length c3) w3) := cut_two hz1 hz2 hz3 (World.ownsRow.lt H2.out.1.1) (World.ownsRow.lt H3.out.1.1)
  have HLL := hid (And.intro H2.out.2 H3.out.2)
  clear hb1 hb2 hb3 hz1 hz2 hz3 H2 H3
  have HBB := hid hbb
  subst hbb
  go_wp2_with fail
  refine bodyPost_ret (v := .agg #[.bool (rneg s.data.toList), .slice a2 z2.length c2, .slice a3 z3.length c3]) (by simp [results, Tryz.results75, go_sem, r0, r1, r2]) rfl ?_
  exact rread_put HB.out HLT.out HW.out HO2.out HO3.out HCUT.out HLL.out.1 HLL.out.2 rfl HU.out (.inr ⟨HV.out, HO.out⟩) _ _ _
end Go.Proofs.YtldeiapikkebgaaGreatDoor

/- Fractions read from a text: ratio.Parse, for any text. -/
namespace Go.Proofs.YtldeiapikkebgaaGreatDoor
open Go.RowKit Go.Lib
set_option linter.unusedVariables false

theorem read_any (s : ByteArray) (w : World) (hs : s.size ≤ 65536) : Calls Tryz.prog 75 #[.string s] w (RRead w s.data.toList) := by
  by_cases hB : rbar s.data.toList = -1
  · by_cases hU : IsNum (rup s.data.toList)
    · exact read_B s w hs hB hU
    · exact read_A1 s w hs hB hU
  · by_cases hU : IsNum (rup s.data.toList)
    · by_cases hV : IsNum (rdn s.data.toList)
      · by_cases hO : rde s.data.toList = 1
        · exact read_D s w hs hB hU hV hO
        · exact read_E s w hs hB hU hV hO
      · exact read_C s w hs hB hU hV
    · exact read_A2 s w hs hB hU
theorem prErr_good {s : ByteArray} (hs : s.size ≤ 65536) (h : rgood s.data.toList) : prErr s = 0 := by unfold prErr; rw [if_neg (by omega), if_pos h]
theorem prErr_bad {s : ByteArray} (hs : s.size ≤ 65536) (h : ¬ rgood s.data.toList) : prErr s = 130 := by unfold prErr; rw [if_neg (by omega), if_neg h]
theorem prErr_long {s : ByteArray} (hs : 65536 < s.size) : prErr s = 3 := by unfold prErr; rw [if_pos hs]
theorem rtold_zero {w W : World} {e : Int} {q : Rat} (he : e ≠ 0) (hb : Below w.heap.size w W) : RToldA w e q (.returned (.tuple #[.agg #[.bool false, .slice none 0 0, .slice none 0 0], .int .i64 e])) W :=
  ⟨false, _, [], _, [], e, rfl, World.ownsRow_nil _ _ _ _, World.ownsRow_nil _ _ _ _, RTells.err he, hb, W.heap.size, hb.size, Nat.le_refl _, fun g hg => by simp [Value.ownBlock] at hg, fun g hg => by simp [Value.ownBlock] at hg⟩

set_option maxHeartbeats 6400000 in
set_option maxRecDepth 100000 in
theorem rparse_any (s : ByteArray) (w : World) (hs : s.size ≤ 65536) : Calls Tryz.prog 49 #[.string s] w (RToldA w (prErr s) (rpq s.data.toList)) := by
  have hs' : ¬ (65536 : Int) < (s.size : Int) := by omega
  have HB := hid (alloc_later w (.cells #[.bool false, .slice none 0 0, .slice none 0 0] 26))
  have HZ := hid (Box.made w 26 #[.bool false, .slice none 0 0, .slice none 0 0])
  have HLT : Hid (w.heap.size < (w.alloc (.cells #[.bool false, .slice none 0 0, .slice none 0 0] 26)).heap.size) := by show _ < _; simp
  have HR := hid (read_any s (w.alloc (.cells #[.bool false, .slice none 0 0, .slice none 0 0] 26)) hs)
  by_cases hg : rgood s.data.toList
  · rw [prErr_good hs hg]
    have HG := hid hg
    clear hg hs
    go_enter Tryz.func49, Tryz.ntmps49
    go_wp2_with fail
    refine Calls.mono HR.out ?_
    generalize (w.alloc (.cells #[.bool false, .slice none 0 0, .slice none 0 0] 26)) = X at *
    rintro e w1 ⟨n, v, xs, u, ys, rfl, o1, o2, wx, wy, lx, ly, hiff, hval, hb1, hcut⟩
    obtain ⟨a1, c1, hv⟩ := own_slice' o1
    subst hv
    obtain ⟨a2, c2, hv⟩ := own_slice' o2
    subst hv
    obtain ⟨hn, tx, ty, vx, vy⟩ := hval HG.out
    have HAL := hid (alloc_later w1 (.cells #[.bool n, .slice a1 xs.length c1, .slice a2 ys.length c2] 26))
    have HBX := hid (Box.made w1 26 #[.bool n, .slice a1 xs.length c1, .slice a2 ys.length c2])
    have HI := inOneForm_any n _ xs _ ys (w1.alloc (.cells #[.bool n, .slice a1 xs.length c1, .slice a2 ys.length c2] 26)) ((Sl.own o1 wx).later HAL.out) ((Sl.own o2 wy).later HAL.out) (by omega) (by omega)
    rw [decide_eq_true (hiff.2 HG.out)] at HI
    have HH := hid HI
    have HO1 : Hid (One X w1 (.slice a1 xs.length c1) xs (rnu s.data.toList)) := ⟨o1, wx, tx, vx⟩
    have HO2 : Hid (One X w1 (.slice a2 ys.length c2) ys (rde s.data.toList)) := ⟨o2, wy, ty, vy⟩
    have HCUT := hid hcut
    have HN := hid hn
    have HB1 := hid (bt hb1 HAL.out)
    clear o1 o2 wx wy lx ly hiff hval hb1 hcut HI hn tx ty vx vy HR
    go_wp2_with fail
    refine Calls.mono HH.out ?_
    rintro e w2 ⟨rfl, hb2⟩
    obtain ⟨p0, p1, p2, _, _, _⟩ := res_box3 HBX.out hb2
    have HAB := hid (bt HAL.out hb2)
    have hz := HAB.out.size
    have HT := hid (rtold_cut2 (n := n) (q := rpq s.data.toList) (bt HB1.out hb2) (HO1.out.later HAB.out) (HO2.out.later HAB.out) (HCUT.out.up (Nat.le_refl _) hz) HG.out.2.2.1 HG.out.2.2.2.2 (by rw [HN.out]; rfl))
    have HB2 := hid (bt HB1.out hb2)
    clear hb2 HH HAB HBX HAL
    go_wp2_with fail
    refine Calls.mono HT.out ?_
    rintro e w3 ⟨k9, a8, z8, c8, a9, z9, c9, code, rfl, HE9, hb3, _⟩
    obtain ⟨r0, r1, r2, f0, f1, f2⟩ := res_box3 HZ.out hb3
    have HBW := hid (bt HB.out hb3)
    clear hb3 HT
    go_wp2_with fail
    refine bodyPost_ret (v := .tuple #[.agg #[.bool k9, .slice a8 z8.length c8, .slice a9 z9.length c9], .int .i64 code]) (by simp [results, Tryz.results49, go_sem, r0, r1, r2]) rfl ?_
    exact RToldA.put HE9.out w.heap.size HLT.out (Nat.le_refl _) HBW.out _ _ _
  · rw [prErr_bad hs hg]
    have HG := hid hg
    clear hg hs
    go_enter Tryz.func49, Tryz.ntmps49
    go_wp2_with fail
    refine Calls.mono HR.out ?_
    generalize (w.alloc (.cells #[.bool false, .slice none 0 0, .slice none 0 0] 26)) = X at *
    rintro e w1 ⟨n, v, xs, u, ys, rfl, o1, o2, wx, wy, lx, ly, hiff, hval, hb1, hcut⟩
    obtain ⟨a1, c1, hv⟩ := own_slice' o1
    subst hv
    obtain ⟨a2, c2, hv⟩ := own_slice' o2
    subst hv
    have HAL := hid (alloc_later w1 (.cells #[.bool n, .slice a1 xs.length c1, .slice a2 ys.length c2] 26))
    have HI := inOneForm_any n _ xs _ ys (w1.alloc (.cells #[.bool n, .slice a1 xs.length c1, .slice a2 ys.length c2] 26)) ((Sl.own o1 wx).later HAL.out) ((Sl.own o2 wy).later HAL.out) (by omega) (by omega)
    rw [decide_eq_false (fun e => HG.out (hiff.1 e))] at HI
    have HH := hid HI
    have HB1 := hid (bt hb1 HAL.out)
    clear o1 o2 wx wy lx ly hiff hval hb1 hcut HI HR
    go_wp2_with fail
    refine Calls.mono HH.out ?_
    rintro e w2 ⟨rfl, hb2⟩
    obtain ⟨r0, r1, r2, f0, f1, f2⟩ := res_box3 HZ.out (bt HB1.out hb2)
    have HBW := hid (bt HB.out (bt HB1.out hb2))
    clear hb2 HH
    go_wp2_with fail
    refine bodyPost_ret (v := .tuple #[.agg #[.bool false, .slice none 0 0, .slice none 0 0], .int .i64 130]) (by simp [results, Tryz.results49, go_sem, r0, r1, r2]) rfl ?_
    exact rtold_zero (by decide) (below_put3 HBW.out _ (Nat.le_refl _) _ _ _)
end Go.Proofs.YtldeiapikkebgaaGreatDoor

/- The document's answer for Parse of a fraction: how many digits stand at a place; the number that digits say. -/
namespace Go.Proofs.YtldeiapikkebgaaGreatDoor
open Go.RowKit Go.Lib
set_option linter.unusedVariables false

def dig (c : UInt8) : Prop := 48 ≤ (c.toNat : Int) ∧ (c.toNat : Int) ≤ 57
structure Lead (l : List UInt8) (at' n : Nat) : Prop where
  len : at' + n ≤ l.length
  all : ∀ j, j < n → dig (l[at' + j]?.getD 0)
  stop : at' + n < l.length → ¬ dig (l[at' + n]?.getD 0)
def Digs (l : List UInt8) (at' n r : Nat) : Prop := Lead l at' n ∧ ((r = n ∧ (1 < n → l[at']?.getD 0 ≠ 48)) ∨ (r = 0 ∧ 1 < n ∧ l[at']?.getD 0 = 48))

set_option maxHeartbeats 6400000 in
set_option maxRecDepth 100000 in
theorem digits_any (s : ByteArray) (at' : Nat) (w : World) (hs : s.size ≤ 65536) (ha : at' ≤ s.size) :
    Calls Tryz.prog 78 #[.string s, .int .i64 at'] w fun e w' => ∃ n r : Nat, e = .returned (.int .i64 r) ∧ Hid (Digs s.data.toList at' n r) ∧ w = w' := by
  have HL := hid (size_list s)
  go_enter Tryz.func78, Tryz.ntmps78
  go_wp2_with fail
  go_loop [5] (fun t => ∃ k : Nat, at' + k ≤ s.size ∧ t = .int .i64 k ∧ Hid (∀ j : Nat, j < k → dig (s.data.toList[at' + j]?.getD 0))) (fun t => s.size - (RowKit.intOf t).toNat)
  case atStart => exact ⟨0, by omega, rfl, fun j hj => by omega⟩
  case round =>
    obtain ⟨k, hk, rfl, HJ⟩ := hrel
    have hw : IntKind.i64.wrap ((at' : Int) + (k : Int)) = (at' : Int) + (k : Int) := by rw [IntKind.wrap_i64]; omega
    by_cases hlt : at' + k < s.size
    · have hlt' : (at' : Int) + (k : Int) < (s.size : Int) := by omega
      have h0 : (0 : Int) ≤ (at' : Int) + (k : Int) := by omega
      have htn : ((at' : Int) + (k : Int)).toNat = at' + k := by omega
      have bk := byte_at s (at' + k) hlt
      by_cases d1 : (s[at' + k].toNat : Int) < 48
      · have HLD : Hid (Lead s.data.toList at' k) := ⟨by have := HL.out; omega, HJ.out, fun _ h => by rw [bk] at h; have h1 : 48 ≤ (s[at' + k].toNat : Int) := h.1; omega⟩
        clear bk
        by_cases hk1 : 1 < k
        · have hk1' : (1 : Int) < (k : Int) := by omega
          have ha' : at' < s.size := by omega
          have b0 := byte_at s at' ha'
          by_cases hz : (s[at'].toNat : Int) = 48
          · have hz' : ((s[at'].toNat : Int) == 48) = true := by simp [hz]
            have HZ : Hid (s.data.toList[at']?.getD 0 = 48) := by show _ = _; rw [b0]; exact UInt8.toNat_inj.1 (by show s[at'].toNat = 48; omega)
            clear b0 hz
            go_wp2_with fail
            go_ret
            exact ⟨k, 0, rfl, ⟨HLD.out, .inr ⟨rfl, hk1, HZ.out⟩⟩, rfl⟩
          · have hz' : ((s[at'].toNat : Int) == 48) = false := by simp [hz]
            have HZ : Hid (s.data.toList[at']?.getD 0 ≠ 48) := fun h => by rw [b0] at h; apply hz; have h2 : s[at'] = 48 := h; rw [h2]; rfl
            clear b0 hz
            go_wp2_with fail
            go_ret
            exact ⟨k, k, rfl, ⟨HLD.out, .inl ⟨rfl, fun _ => HZ.out⟩⟩, rfl⟩
        · have hk1' : ¬ (1 : Int) < (k : Int) := by omega
          go_wp2_with fail
          go_ret
          exact ⟨k, k, rfl, ⟨HLD.out, .inl ⟨rfl, fun h => absurd h hk1⟩⟩, rfl⟩
      · by_cases d2 : 57 < (s[at' + k].toNat : Int)
        · have HLD : Hid (Lead s.data.toList at' k) := ⟨by have := HL.out; omega, HJ.out, fun _ h => by rw [bk] at h; have h1 : (s[at' + k].toNat : Int) ≤ 57 := h.2; omega⟩
          clear bk
          by_cases hk1 : 1 < k
          · have hk1' : (1 : Int) < (k : Int) := by omega
            have ha' : at' < s.size := by omega
            have b0 := byte_at s at' ha'
            by_cases hz : (s[at'].toNat : Int) = 48
            · have hz' : ((s[at'].toNat : Int) == 48) = true := by simp [hz]
              have HZ : Hid (s.data.toList[at']?.getD 0 = 48) := by show _ = _; rw [b0]; exact UInt8.toNat_inj.1 (by show s[at'].toNat = 48; omega)
              clear b0 hz
              go_wp2_with fail
              go_ret
              exact ⟨k, 0, rfl, ⟨HLD.out, .inr ⟨rfl, hk1, HZ.out⟩⟩, rfl⟩
            · have hz' : ((s[at'].toNat : Int) == 48) = false := by simp [hz]
              have HZ : Hid (s.data.toList[at']?.getD 0 ≠ 48) := fun h => by rw [b0] at h; apply hz; have h2 : s[at'] = 48 := h; rw [h2]; rfl
              clear b0 hz
              go_wp2_with fail
              go_ret
              exact ⟨k, k, rfl, ⟨HLD.out, .inl ⟨rfl, fun _ => HZ.out⟩⟩, rfl⟩
          · have hk1' : ¬ (1 : Int) < (k : Int) := by omega
            go_wp2_with fail
            go_ret
            exact ⟨k, k, rfl, ⟨HLD.out, .inl ⟨rfl, fun h => absurd h hk1⟩⟩, rfl⟩
        · have HJ' : Hid (∀ j : Nat, j < k + 1 → dig (s.data.toList[at' + j]?.getD 0)) := fun j hj => by
            by_cases e : j = k
            · rw [e, bk]; show 48 ≤ (s[at' + k].toNat : Int) ∧ (s[at' + k].toNat : Int) ≤ 57; omega
            · exact HJ.out j (by omega)
          clear bk
          go_wp2_with fail
          go_round
          case rel => exact ⟨k + 1, by omega, by go_num, HJ'⟩
          case measure => simp [RowKit.intOf]; omega
    · have hlt' : ¬ (at' : Int) + (k : Int) < (s.size : Int) := by omega
      have HLD : Hid (Lead s.data.toList at' k) := ⟨by have := HL.out; omega, HJ.out, fun h => by have := HL.out; omega⟩
      by_cases hk1 : 1 < k
      · have hk1' : (1 : Int) < (k : Int) := by omega
        have ha' : at' < s.size := by omega
        have b0 := byte_at s at' ha'
        by_cases hz : (s[at'].toNat : Int) = 48
        · have hz' : ((s[at'].toNat : Int) == 48) = true := by simp [hz]
          have HZ : Hid (s.data.toList[at']?.getD 0 = 48) := by show _ = _; rw [b0]; exact UInt8.toNat_inj.1 (by show s[at'].toNat = 48; omega)
          clear b0 hz
          go_wp2_with fail
          go_ret
          exact ⟨k, 0, rfl, ⟨HLD.out, .inr ⟨rfl, hk1, HZ.out⟩⟩, rfl⟩
        · have hz' : ((s[at'].toNat : Int) == 48) = false := by simp [hz]
          have HZ : Hid (s.data.toList[at']?.getD 0 ≠ 48) := fun h => by rw [b0] at h; apply hz; have h2 : s[at'] = 48 := h; rw [h2]; rfl
          clear b0 hz
          go_wp2_with fail
          go_ret
          exact ⟨k, k, rfl, ⟨HLD.out, .inl ⟨rfl, fun _ => HZ.out⟩⟩, rfl⟩
      · have hk1' : ¬ (1 : Int) < (k : Int) := by omega
        go_wp2_with fail
        go_ret
        exact ⟨k, k, rfl, ⟨HLD.out, .inl ⟨rfl, fun h => absurd h hk1⟩⟩, rfl⟩

theorem number_good (T : ByteArray) (w : World) (hs : T.size ≤ 65536) (l : List UInt8) (hl : T.data.toList = l) (h : IsNum l) :
    Calls Tryz.prog 79 #[.string T] w fun x w' => ∃ a zs c, x = .returned (.slice a (List.length zs) c) ∧ Hid (One w w' (.slice a (List.length zs) c) zs (numTo l l.length) ∧ zs.length ≤ 8192) ∧ Below w.heap.size w w' := by
  have HP := refParse_any T w (by unfold maxLen; omega)
  rw [pErr_ok T hs (by rw [hl]; exact h)] at HP
  have hw := num_wide h.2.2 (by rw [← hl, size_list]; exact hs)
  have HQ : Hid (Calls Tryz.prog 109 #[.string T] w fun x w' => ∃ a zs c, x = .returned (.tuple #[.slice a (List.length zs) c, .int .i64 0]) ∧ Hid (One w w' (.slice a (List.length zs) c) zs (numTo l l.length) ∧ zs.length ≤ 8192) ∧ Hid (Below w.heap.size w w')) := by
    refine Calls.mono HP ?_
    rintro x w' ⟨v, zs, code, rfl, o, t, hb⟩
    obtain ⟨a, c, hv⟩ := own_slice' o
    subst hv
    have e : numTo T.data.toList T.size = numTo l l.length := by rw [← size_list, hl]
    rw [e] at t
    obtain ⟨rfl, hz⟩ := t.good rfl hw
    exact ⟨a, zs, c, rfl, ⟨⟨o, t.wd, t.trim, hz⟩, own_len (U := w) (V := w') ⟨o, t.wd, t.trim, hz⟩ hw⟩, hb⟩
  clear HP hw hs hl h
  go_enter Tryz.func79, Tryz.ntmps79
  go_wp2_with fail
  refine Calls.mono HQ.out ?_
  rintro e w1 ⟨a, zs, c, rfl, HE, HB⟩
  go_wp2_with fail
  go_ret
  exact ⟨a, zs, c, rfl, HE, HB.out⟩
end Go.Proofs.YtldeiapikkebgaaGreatDoor

/- The document's Check, Print of complex fractions; the place of a text's first blank. (tools/mkgd1.py) -/
namespace Go.Proofs.YtldeiapikkebgaaGreatDoor
open Go.RowKit Go.Lib
set_option linter.unusedVariables false

set_option maxHeartbeats 800000 in
set_option maxRecDepth 100000 in
theorem kd4check_any (n : Bool) (a : Option Addr) (ca : Nat) (xs : List Int) (b : Option Addr) (cb : Nat) (ys : List Int) (m : Bool) (c : Option Addr) (cc : Nat) (us : List Int) (d : Option Addr) (cd : Nat) (vs : List Int) (w : World) (sx : Sl w (.slice a xs.length ca) xs) (sy : Sl w (.slice b ys.length cb) ys) (su : Sl w (.slice c us.length cc) us) (sw : Sl w (.slice d vs.length cd) vs) (lx : xs.length ≤ 281474976710656) (ly : ys.length ≤ 281474976710656) (lu : us.length ≤ 281474976710656) (lv : vs.length ≤ 281474976710656) :
    Calls Tryz.prog 42 #[.agg #[.bool n, .slice a xs.length ca, .slice b ys.length cb, .bool m, .slice c us.length cc, .slice d vs.length cd]] w fun e w' => e = .returned (.int .i64 (gchk n xs ys m us vs)) ∧ Below w.heap.size w w' := by
  obtain ⟨X, hX⟩ : ∃ X, w.alloc (.cells #[.bool n, .slice a xs.length ca, .slice b ys.length cb, .bool m, .slice c us.length cc, .slice d vs.length cd] 28) = X := ⟨_, rfl⟩
  have b1 : Below w.heap.size w X := by rw [← hX]; exact alloc_later _ _
  have HP : Hid (Box X w.heap.size 28 #[.bool n, .slice a xs.length ca, .slice b ys.length cb, .bool m, .slice c us.length cc, .slice d vs.length cd]) := by rw [← hX]; exact Box.made w _ _
  have HC1 := hid (check3_any n a ca xs b cb ys X (sx.later b1) (sy.later b1) lx ly)
  have HC2 : Hid (∀ V, Below X.heap.size X V → Calls Tryz.prog 43 #[.agg #[.bool m, .slice c us.length cc, .slice d vs.length cd]] V fun e w' => e = .returned (.int .i64 (rchk m us vs)) ∧ Below V.heap.size V w') := fun V hv => check3_any m c cc us d cd vs V ((su.later b1).later hv) ((sw.later b1).later hv) lu lv
  obtain ⟨r1, h1⟩ : ∃ r, rchk n xs ys = r := ⟨_, rfl⟩
  obtain ⟨r2, h2⟩ : ∃ r, rchk m us vs = r := ⟨_, rfl⟩
  obtain ⟨r3, h3⟩ : ∃ r, gchk n xs ys m us vs = r := ⟨_, rfl⟩
  have HE : Hid (r3 = if r1 = 0 then r2 else r1) := by show _ = _; rw [← h3, ← h1, ← h2]; rfl
  rw [h1] at HC1
  rw [h2] at HC2
  rw [h3]
  have HB1 := hid b1
  have e0 : X.cell? ⟨w.heap.size, 0, none⟩ = some (.bool n) := HP.out.cell 0
  have e1 : X.cell? ⟨w.heap.size, 1, none⟩ = some (.slice a xs.length ca) := HP.out.cell 1
  have e2 : X.cell? ⟨w.heap.size, 2, none⟩ = some (.slice b ys.length cb) := HP.out.cell 2
  clear sx sy su sw b1 h1 h2 h3 lx ly lu lv
  by_cases hz : r1 = 0
  · have h3' : r3 = r2 := by rw [HE.out, if_pos hz]
    rw [h3']
    subst hz
    clear HE h3'
    go_enter Tryz.func42, Tryz.ntmps42
    go_wp2_with fail
    clear hX
    refine Calls.mono HC1.out ?_
    rintro e w2 ⟨rfl, b2⟩
    have h := HP.out.later b2 HP.out.lt
    have e3 : w2.cell? ⟨w.heap.size, 3, none⟩ = some (.bool m) := h.cell 3
    have e4 : w2.cell? ⟨w.heap.size, 4, none⟩ = some (.slice c us.length cc) := h.cell 4
    have e5 : w2.cell? ⟨w.heap.size, 5, none⟩ = some (.slice d vs.length cd) := h.cell 5
    have HC3 := hid (HC2.out w2 b2)
    have HB2 := hid (bt HB1.out b2)
    clear e0 e1 e2 h b2 HC1 HC2
    go_wp2_with fail
    refine Calls.mono HC3.out ?_
    rintro e w3 ⟨rfl, b3⟩
    have HB3 := hid (bt HB2.out b3)
    clear b3 HC3 e3 e4 e5
    go_wp2_with fail
    go_ret
    exact ⟨rfl, HB3.out⟩
  · have h3' : r3 = r1 := by rw [HE.out, if_neg hz]
    rw [h3']
    have hz2 : (r1 != 0) = true := by simpa using hz
    clear HE h3' hz
    go_enter Tryz.func42, Tryz.ntmps42
    go_wp2_with fail
    clear hX
    refine Calls.mono HC1.out ?_
    rintro e w2 ⟨rfl, b2⟩
    have HB2 := hid (bt HB1.out b2)
    clear e0 e1 e2 b2 HC1 HC2
    go_wp2_with fail
    go_ret
    exact ⟨rfl, HB2.out⟩

theorem occ_one (l : List UInt8) (c : UInt8) (j : Nat) : occAt l [c] j = true ↔ l[j]? = some c := by
  unfold occAt
  rw [← List.head?_drop]
  cases h : l.drop j with
  | nil => simp
  | cons x t =>
    rw [List.isPrefixOf_cons_cons]
    constructor
    · intro h2
      have h3 : (c == x) = true := by
        cases h4 : (c == x)
        · rw [h4] at h2; exact absurd h2 (by simp)
        · rfl
      exact congrArg some (eq_of_beq h3).symm
    · intro h2
      have h3 : x = c := Option.some.inj h2
      rw [h3, beq_self_eq_true]
      rfl
def BlT (l : List UInt8) (r : Int) : Prop := (r = -1 ∧ 32 ∉ l) ∨ (∃ k : Nat, r = (k : Int) ∧ k < l.length ∧ l[k]?.getD 0 = 32 ∧ ∀ j, j < k → l[j]?.getD 0 ≠ 32)

theorem bl_index {l : List UInt8} {r : Int} (h : BlT l r) : Lib.index l [32] = r := by
  rcases h with ⟨rfl, hn⟩ | ⟨k, rfl, hk, hv, hn⟩
  · refine index_none (fun j hj => ?_)
    cases ho : occAt l [32] j
    · rfl
    · exact absurd (List.mem_of_getElem? ((occ_one l 32 j).1 ho)) hn
  · refine index_first (by omega) ((occ_one l 32 k).2 ?_) (fun j hj => ?_)
    · rw [List.getElem?_eq_getElem hk] at hv ⊢
      exact congrArg some hv
    · cases ho : occAt l [32] j
      · rfl
      · have e := (occ_one l 32 j).1 ho
        exact absurd (by rw [e]; rfl) (hn j hj)

set_option maxHeartbeats 1600000 in
set_option maxRecDepth 100000 in
theorem d4blank_any (s : ByteArray) (w : World) (hs : s.size ≤ 65536) :
    Calls Tryz.prog 56 #[.string s] w fun e w' => ∃ r, e = .returned (.int .i64 r) ∧ Hid (BlT s.data.toList r) ∧ w = w' := by
  have HL := hid (size_list s)
  go_enter Tryz.func56, Tryz.ntmps56
  go_wp2_with fail
  go_loop [3] (fun t => ∃ k : Nat, k ≤ s.size ∧ t = .int .i64 k ∧ Hid (∀ j : Nat, j < k → s.data.toList[j]?.getD 0 ≠ 32)) (fun t => s.size - (RowKit.intOf t).toNat)
  case atStart => exact ⟨0, by omega, rfl, fun j hj => by omega⟩
  case round =>
    obtain ⟨k, hk, rfl, HJ⟩ := hrel
    by_cases hlt : k < s.size
    · have hlt' : (k : Int) < (s.size : Int) := by omega
      have h0 : (0 : Int) ≤ (k : Int) := by omega
      have bk := byte_at s k hlt
      by_cases hz : (s[k].toNat : Int) = 32
      · have hz' : ((s[k].toNat : Int) == 32) = true := by simp [hz]
        have HZ : Hid (s.data.toList[k]?.getD 0 = 32) := by show _ = _; rw [bk]; exact UInt8.toNat_inj.1 (by show s[k].toNat = 32; omega)
        clear bk hz
        go_wp2_with fail
        go_ret
        exact ⟨_, rfl, .inr ⟨k, rfl, by have := HL.out; omega, HZ.out, HJ.out⟩, rfl⟩
      · have hz' : ((s[k].toNat : Int) == 32) = false := by simp [hz]
        have HZ : Hid (s.data.toList[k]?.getD 0 ≠ 32) := fun h => by rw [bk] at h; apply hz; have h2 : s[k] = 32 := h; rw [h2]; rfl
        have HJ' : Hid (∀ j : Nat, j < k + 1 → s.data.toList[j]?.getD 0 ≠ 32) := fun j hj => by
          by_cases e : j = k
          · rw [e]; exact HZ.out
          · exact HJ.out j (by omega)
        clear bk hz
        go_wp2_with fail
        go_round
        case rel => exact ⟨k + 1, by omega, by go_num, HJ'⟩
        case measure => simp [RowKit.intOf]; omega
    · have hlt' : ¬ (k : Int) < (s.size : Int) := by omega
      have HZ : Hid (BlT s.data.toList (-1)) := by
        refine .inl ⟨rfl, fun h => ?_⟩
        obtain ⟨j, hj, e⟩ := List.mem_iff_getElem.1 h
        exact HJ.out j (by have := HL.out; omega) (by rw [List.getElem?_eq_getElem hj, e]; rfl)
      go_wp2_with fail
      go_ret
      exact ⟨_, rfl, HZ.out, rfl⟩
end Go.Proofs.YtldeiapikkebgaaGreatDoor

/- The laws of fractions: small, is, and awake (the document's examples), whatever the world, where the table of powers of ten stands. -/
namespace Go.Proofs.YtldeiapikkebgaaGreatDoor
open Go.RowKit Go.Lib
set_option linter.unusedVariables false

theorem t21 : ([45, 50] : List UInt8) = rtext true [2] [1] := by
  rw [rtext_eq, show val [2] = 2 by simp [val, valTo], show (2 : Int).toNat = 2 from rfl, decDigits_one (by decide)]
  decide
end Go.Proofs.YtldeiapikkebgaaGreatDoor

/- What a told fraction says where its code is 0; fractions that are the same; three laws of rational numbers. -/
namespace Go.Proofs.YtldeiapikkebgaaGreatDoor
open Go.RowKit Go.Lib
set_option linter.unusedVariables false

end Go.Proofs.YtldeiapikkebgaaGreatDoor

/- Complex fractions, the steps' own: copied: two appends in whatever order. -/
namespace Go.Proofs.YtldeiapikkebgaaGreatDoor
open Go.RowKit
set_option linter.unusedVariables false

end Go.Proofs.YtldeiapikkebgaaGreatDoor

/- Fractions (no program): the height of a fraction; what is made of small ones is not too long. -/
namespace Go.Proofs.YtldeiapikkebgaaGreatDoor
open Go.RowKit
set_option linter.unusedVariables false

theorem hgt_val {xs : List Int} (wx : Wd xs) {k : Nat} (lx : xs.length ≤ k) : (val xs).natAbs ≤ 2 ^ (32 * k) := by
  have h := val_lt wx
  have h0 := val_nonneg wx
  have e1 : (4294967296 : Int) ^ xs.length = ((4294967296 ^ xs.length : Nat) : Int) := by rw [Int.natCast_pow]; rfl
  have e2 : (2 : Nat) ^ (32 * k) = 4294967296 ^ k := by rw [Nat.pow_mul]
  have e3 : (4294967296 : Nat) ^ xs.length ≤ 4294967296 ^ k := Nat.pow_le_pow_right (by omega) lx
  rw [e1] at h
  rw [e2]
  omega
end Go.Proofs.YtldeiapikkebgaaGreatDoor

/- What the digits at a place say of a text: whether it is a fraction's own. -/
namespace Go.Proofs.YtldeiapikkebgaaGreatDoor
open Go.RowKit Go.Lib
set_option linter.unusedVariables false

theorem Lead.uniq {l : List UInt8} {A n m : Nat} (h : Lead l A n) (g : Lead l A m) : n = m := by
  by_cases c : n < m
  · exact absurd (g.all n c) (h.stop (by have := g.len; omega))
  · by_cases d : m < n
    · exact absurd (h.all m d) (g.stop (by have := h.len; omega))
    · omega
theorem Digs.uniq {l : List UInt8} {A n m r q : Nat} (h : Digs l A n r) (g : Digs l A m q) : n = m ∧ r = q := by
  obtain rfl := h.1.uniq g.1
  refine ⟨rfl, ?_⟩
  rcases h.2 with ⟨h1, h2⟩ | ⟨h1, h2, h3⟩
  · rcases g.2 with ⟨g1, g2⟩ | ⟨g1, g2, g3⟩
    · omega
    · exact absurd g3 (h2 g2)
  · rcases g.2 with ⟨g1, g2⟩ | ⟨g1, g2, g3⟩
    · exact absurd h3 (g2 h2)
    · omega
theorem lead_ex (l : List UInt8) : ∀ (k A : Nat), A + k = l.length → ∃ n, Lead l A n
  | 0, A, h => ⟨0, by omega, fun j hj => by omega, fun h' => by omega⟩
  | k + 1, A, h => by
    by_cases c : dig (l[A]?.getD 0)
    · obtain ⟨n, hn⟩ := lead_ex l k (A + 1) (by omega)
      refine ⟨n + 1, by have := hn.len; omega, fun j hj => ?_, fun h' => ?_⟩
      · cases j with
        | zero => exact c
        | succ j => have e := hn.all j (by omega); rw [show A + 1 + j = A + (j + 1) by omega] at e; exact e
      · have e := hn.stop (by omega)
        rw [show A + 1 + n = A + (n + 1) by omega] at e
        exact e
    · exact ⟨0, by omega, fun j hj => by omega, fun _ => c⟩
theorem digs_ex {l : List UInt8} {A : Nat} (h : A ≤ l.length) : ∃ n r, Digs l A n r := by
  obtain ⟨n, hn⟩ := lead_ex l (l.length - A) A (by omega)
  by_cases c : 1 < n ∧ l[A]?.getD 0 = 48
  · exact ⟨n, 0, hn, .inr ⟨rfl, c.1, c.2⟩⟩
  · exact ⟨n, n, hn, .inl ⟨rfl, fun h1 h2 => c ⟨h1, h2⟩⟩⟩
theorem at_drop (l : List UInt8) (A j : Nat) : (l.drop A)[j]? = l[A + j]? := by rw [List.getElem?_drop]
theorem lead_dg {l : List UInt8} {A n : Nat} (h : Lead l A n) : Dg ((l.drop A).take n) := fun c hc => by
  obtain ⟨j, hj, e⟩ := List.mem_iff_getElem.1 hc
  have hj' : j < n := by rw [List.length_take] at hj; omega
  have e2 : ((l.drop A).take n)[j]? = some c := by rw [List.getElem?_eq_getElem hj, e]
  rw [List.getElem?_take_of_lt hj', at_drop] at e2
  have t := h.all j hj'
  rw [e2] at t
  exact t
theorem lead_len {l : List UInt8} {A n : Nat} (h : Lead l A n) : ((l.drop A).take n).length = n := by
  have := h.len
  rw [List.length_take, List.length_drop]; omega
theorem digs_num {l : List UInt8} {A n r : Nat} (h : Digs l A n r) (hr : r ≠ 0) : r = n ∧ IsNum ((l.drop A).take n) := by
  rcases h.2 with ⟨h1, h2⟩ | ⟨h1, h2, h3⟩
  · refine ⟨h1, ?_⟩
    have e := lead_len h.1
    refine ⟨by omega, fun h0 => ?_, lead_dg h.1⟩
    rw [e]
    rw [List.getElem?_take_of_lt (by omega), at_drop, Nat.add_zero] at h0
    by_cases c : 1 < n
    · exact absurd h0 (h2 c)
    · omega
  · omega
theorem digs_not {l : List UInt8} {A n : Nat} (h : Digs l A n 0) : ¬ IsNum ((l.drop A).take n) := fun g => by
  have e := lead_len h.1
  have g1 := g.1
  have g2 := g.2.1
  rw [e] at g1 g2
  rcases h.2 with ⟨h1, h2⟩ | ⟨h1, h2, h3⟩
  · omega
  · rw [List.getElem?_take_of_lt (by omega), at_drop, Nat.add_zero] at g2
    have := g2 h3
    omega
def from' (l : List UInt8) : Nat := if rneg l then 1 else 0
theorem wdig_from (l : List UInt8) : wdig (rneg l) l = l.drop (from' l) := by
  unfold wdig from'
  cases rneg l <;> simp
theorem up_end {l : List UInt8} {n : Nat} (h : Lead l (from' l) n) (he : from' l + n = l.length) : rbar l = -1 ∧ rup l = (l.drop (from' l)).take n := by
  have e : (l.drop (from' l)).take n = l.drop (from' l) := List.take_of_length_le (by rw [List.length_drop]; omega)
  have d := lead_dg h
  rw [e] at d ⊢
  have b : rbar l = -1 := by unfold rbar; rw [wdig_from]; exact bar_none d
  exact ⟨b, by unfold rup; rw [if_pos b, wdig_from]⟩
theorem lead_split {l : List UInt8} {A n : Nat} {c : UInt8} (h : Lead l A n) (hc : l[A + n]? = some c) : l.drop A = (l.drop A).take n ++ c :: l.drop (A + n + 1) := by
  obtain ⟨hk, e2⟩ := List.getElem?_eq_some_iff.1 hc
  have e3 := List.drop_eq_getElem_cons hk
  rw [e2] at e3
  rw [← e3, ← List.drop_drop, List.take_append_drop]
theorem up_bar {l : List UInt8} {n : Nat} (h : Lead l (from' l) n) (hc : l[from' l + n]? = some 47) : rbar l = n ∧ rup l = (l.drop (from' l)).take n ∧ rdn l = l.drop (from' l + n + 1) := by
  have e := lead_split h hc
  have ln := lead_len h
  have b : rbar l = n := by
    unfold rbar
    rw [wdig_from, e, bar_at (lead_dg h), ln]
  have nb : ¬ rbar l = -1 := by omega
  refine ⟨b, ?_, ?_⟩
  · unfold rup; rw [if_neg nb, wdig_from, b]; rfl
  · unfold rdn
    rw [if_neg nb, wdig_from, b, List.drop_drop]
    congr 1
theorem up_other {l : List UInt8} {n : Nat} (h : Lead l (from' l) n) (hl : from' l + n < l.length) (hc : l[from' l + n]?.getD 0 ≠ 47) : ¬ IsNum (rup l) := fun g => by
  have hz : (wdig (rneg l) l)[n]? = l[from' l + n]? := by rw [wdig_from, at_drop]
  have hs := h.stop hl
  have hsome : l[from' l + n]? = some (l[from' l + n]?.getD 0) := by rw [List.getElem?_eq_getElem hl]; rfl
  have hin : l[from' l + n]?.getD 0 ∈ rup l := by
    unfold rup
    by_cases b : rbar l = -1
    · rw [if_pos b]
      exact List.mem_of_getElem? (hz.trans hsome)
    · rw [if_neg b]
      have g1 := indexByte_ge (wdig (rneg l) l) 47
      have eb : rbar l = indexByte (wdig (rneg l) l) 47 := rfl
      obtain ⟨e1, e2⟩ := indexByte_some (l := wdig (rneg l) l) (c := 47) (o := (rbar l).toNat) (by omega)
      have k1 : ¬ (rbar l).toNat < n := fun hk => by
        have t := h.all _ hk
        rw [← at_drop, ← wdig_from, e1] at t
        exact absurd t.1 (by decide)
      have k2 : (rbar l).toNat ≠ n := fun hk => by
        rw [hk, hz, hsome] at e1
        exact hc (Option.some.inj e1)
      exact List.mem_of_getElem? (i := n) (by rw [List.getElem?_take_of_lt (by omega)]; exact hz.trans hsome)
  exact hs (g.2.2 _ hin)
theorem bad_first {l : List UInt8} {n : Nat} (h : Digs l (from' l) n 0) : ¬ rgood l := fun g => by
  by_cases c : from' l + n < l.length
  · by_cases d : l[from' l + n]?.getD 0 = 47
    · have e : l[from' l + n]? = some 47 := by rw [List.getElem?_eq_getElem c] at d ⊢; exact congrArg some d
      obtain ⟨_, e2, _⟩ := up_bar h.1 e
      exact digs_not h (e2 ▸ g.1)
    · exact up_other h.1 c d g.1
  · obtain ⟨_, e2⟩ := up_end h.1 (by have := h.1.len; omega)
    exact digs_not h (e2 ▸ g.1)
theorem up_any {l : List UInt8} {n : Nat} (h : Lead l (from' l) n) (g : IsNum (rup l)) : rup l = (l.drop (from' l)).take n := by
  by_cases c : from' l + n < l.length
  · by_cases d : l[from' l + n]?.getD 0 = 47
    · have e : l[from' l + n]? = some 47 := by rw [List.getElem?_eq_getElem c] at d ⊢; exact congrArg some d
      exact (up_bar h e).2.1
    · exact absurd g (up_other h c d)
  · exact (up_end h (by have := h.len; omega)).2
theorem bad_zero {l : List UInt8} {n r : Nat} (h : Digs l (from' l) n r) (hr : r ≠ 0) (hn : rneg l = true) (hz : l[1]?.getD 0 = 48) : ¬ rgood l := fun g => by
  obtain ⟨rfl, _⟩ := digs_num h hr
  have ef : from' l = 1 := by unfold from'; rw [hn]; rfl
  have e := up_any h.1 g.1
  have ln := lead_len h.1
  have g2 := g.1.2.1
  have h0 : (rup l)[0]?.getD 0 = 48 := by rw [e, List.getElem?_take_of_lt (by omega), at_drop, ef]; exact hz
  have l1 := g2 h0
  rw [e, ln] at l1
  have r1 : r = 1 := by omega
  have hnu : rnu l = 0 := by
    unfold rnu
    rw [show (rup l).length = 1 by rw [e, ln]; exact r1]
    have h1 : (rup l)[0]?.getD 48 = 48 := by
      cases hx : (rup l)[0]? with
      | none => rfl
      | some c => rw [hx] at h0; exact h0
    simp only [numTo]
    rw [h1]; rfl
  rcases g.2.2.2.1 with t | t
  · rw [hn] at t; cases t
  · omega
theorem sign_good {l : List UInt8} {n r : Nat} (h : Digs l (from' l) n r) (hr : r ≠ 0) (hu : rup l = (l.drop (from' l)).take n) (hz : rneg l = true → l[1]?.getD 0 ≠ 48) : rneg l = false ∨ 0 < rnu l := by
  cases hn : rneg l with
  | false => exact .inl rfl
  | true =>
    right
    obtain ⟨rfl, hN⟩ := digs_num h hr
    have ef : from' l = 1 := by unfold from'; rw [hn]; rfl
    have ln := lead_len h.1
    have h0 : ¬ (rup l)[0]?.getD 0 = 48 := by rw [hu, List.getElem?_take_of_lt (by omega), at_drop, ef]; exact hz hn
    have t := num_pos (rup l) (by rw [hu]; exact hN.2.2) h0 (by rw [hu, ln]; omega) (r - 1)
    unfold rnu
    rw [hu, ln] at *
    rw [show r - 1 + 1 = r by omega] at t
    omega
theorem good_end {l : List UInt8} {n r : Nat} (h : Digs l (from' l) n r) (hr : r ≠ 0) (he : from' l + n = l.length) (hz : rneg l = true → l[1]?.getD 0 ≠ 48) : rgood l ∧ rnu l = numTo ((l.drop (from' l)).take n) ((l.drop (from' l)).take n).length ∧ rde l = 1 := by
  obtain ⟨b, e⟩ := up_end h.1 he
  have d : rde l = 1 := by unfold rde; rw [if_pos b]
  refine ⟨⟨by rw [e]; exact (digs_num h hr).2, .inl b, by rw [d]; decide, sign_good h hr e hz, by rw [d]; unfold gcdI; simp⟩, by unfold rnu; rw [e], d⟩
theorem bad_behind {l : List UInt8} {n m q : Nat} (h : Lead l (from' l) n) (hc : l[from' l + n]? = some 47) (g : Digs l (from' l + n + 1) m q) (hq : q = 0 ∨ from' l + n + 1 + q ≠ l.length) : ¬ rgood l := fun t => by
  obtain ⟨b, _, e⟩ := up_bar h hc
  have tn : IsNum (rdn l) := t.2.1.elim (fun x => by omega) (fun x => x.1)
  rw [e] at tn
  by_cases c : from' l + n + 1 + m = l.length
  · have e2 : (l.drop (from' l + n + 1)).take m = l.drop (from' l + n + 1) := List.take_of_length_le (by rw [List.length_drop]; omega)
    rcases hq with rfl | hq
    · exact digs_not g (e2.symm ▸ tn)
    · by_cases hq0 : q = 0
      · subst hq0; exact digs_not g (e2.symm ▸ tn)
      · have := (digs_num g hq0).1
        omega
  · have lm := g.1.len
    have hlt : from' l + n + 1 + m < l.length := by omega
    refine g.1.stop hlt (tn.2.2 _ (List.mem_of_getElem? (i := m) ?_))
    rw [at_drop, List.getElem?_eq_getElem hlt]; rfl
theorem both_num {l : List UInt8} {n r m q : Nat} (h : Digs l (from' l) n r) (hr : r ≠ 0) (hc : l[from' l + n]? = some 47) (g : Digs l (from' l + n + 1) m q) (hq : q ≠ 0) (he : from' l + n + 1 + q = l.length) (hz : rneg l = true → l[1]?.getD 0 ≠ 48) :
    IsNum (l.drop (from' l + n + 1)) ∧ rnu l = numTo ((l.drop (from' l)).take n) ((l.drop (from' l)).take n).length ∧ rde l = numTo (l.drop (from' l + n + 1)) (l.drop (from' l + n + 1)).length ∧ (rgood l ↔ 0 < rde l ∧ rde l ≠ 1 ∧ gcdI (rnu l) (rde l) = 1) := by
  obtain ⟨b, e1, e2⟩ := up_bar h.1 hc
  obtain ⟨rfl, n1⟩ := digs_num h hr
  obtain ⟨rfl, n2⟩ := digs_num g hq
  have e3 : (l.drop (from' l + r + 1)).take q = l.drop (from' l + r + 1) := List.take_of_length_le (by rw [List.length_drop]; omega)
  rw [e3] at n2
  have nb : ¬ rbar l = -1 := by omega
  refine ⟨n2, by unfold rnu; rw [e1], by unfold rde; rw [if_neg nb, e2], ⟨fun t => ⟨t.2.2.1, t.2.1.elim (fun x => absurd x nb) (fun x => x.2), t.2.2.2.2⟩, fun t => ⟨by rw [e1]; exact n1, .inr ⟨by rw [e2]; exact n2, t.2.1⟩, t.1, sign_good h hr e1 hz, t.2.2⟩⟩⟩
end Go.Proofs.YtldeiapikkebgaaGreatDoor

/- The document's answer for Parse of a fraction: for any text. -/
namespace Go.Proofs.YtldeiapikkebgaaGreatDoor
open Go.RowKit Go.Lib
set_option linter.unusedVariables false

theorem RTold.zero {w W : World} {e : Int} {q : Rat} (he : e ≠ 0) (hb : Below w.heap.size w W) : RTold w e q (.returned (.tuple #[.agg #[.bool false, .slice none 0 0, .slice none 0 0], .int .i64 e])) W :=
  ⟨false, _, [], _, [], e, rfl, World.ownsRow_nil _ _ _ _, World.ownsRow_nil _ _ _ _, RTells.err he, hb⟩
theorem byte_list (s : ByteArray) (k : Nat) (h : k < s.size) : s.data.toList[k]?.getD 0 = s[k] := by rw [byte_at s k h]; rfl
theorem wrapI {x : Int} (h0 : 0 ≤ x) (h1 : x ≤ 1000000) : IntKind.i64.wrap x = x ∧ wrap64 x = x := ⟨by rw [IntKind.wrap_i64]; omega, by unfold wrap64; omega⟩
theorem cast1 (r : Nat) : ((r + 1 : Nat) : Int) = (r : Int) + 1 := by omega
theorem cast2 (r : Nat) : ((1 + r + 1 : Nat) : Int) = 1 + (r : Int) + 1 := by omega
theorem byte_yes {c d : UInt8} {k : Int} (h : c = d) (hk : (d.toNat : Int) = k) : ((c.toNat : Int) == k) = true := by rw [h, hk]; simp
theorem byte_no {c d : UInt8} {k : Int} (h : ¬ c = d) (hk : (d.toNat : Int) = k) : ((c.toNat : Int) == k) = false := beq_eq_false_iff_ne.2 (fun e => h (UInt8.toNat_inj.1 (by omega)))
end Go.Proofs.YtldeiapikkebgaaGreatDoor

