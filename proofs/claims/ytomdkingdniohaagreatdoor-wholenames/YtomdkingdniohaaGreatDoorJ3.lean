/- My texts on the way to WholeNames, one behind the other: contracts of the program and of the document's answers. -/
import Derived.Test.YtomdkingdniohaaGreatDoorJ1
import Derived.Test.YtomdkingdniohaaGreatDoorJ2
import Derived.Test.YtomdkingdniohaaGreatDoorShelf
import Derived.Lib.ItoaMem
import Derived.Lib.ItoaLen
import Derived.Lib.Walk
import Derived.Deep.LoopGhost
import Derived.Handy
import Derived.Laws.BytesString
import Derived.Laws.Cells
import Derived.Deep.RegionHeld3
/- strconv.FormatUint to the base 10 tells a number's digits: of every number of 64 bits, where the library's table of powers of ten stands as its text lays it. -/
namespace Go.Proofs.YtomdkingdniohaaGreatDoor
open Go.RowKit Go.Lib Go.Sort
set_option linter.unusedVariables false

/-- The table of powers of ten stands as the library's text lays it. -/
def Tab (w : World) : Prop := Lib.TabIs Tryz.prog w "internal/strconv.uint64pow10" .u64 Lib.pow10Tab
theorem Tab.later {w w' : World} (h : Tab w) (hb : Below w.heap.size w w') : Tab w' := by
  unfold Tab Lib.TabIs World.var? at *
  cases hg : Tryz.prog.globalNamed "internal/strconv.uint64pow10" with
  | none => simp [hg] at h
  | some g =>
    simp only [hg, Option.bind_some] at h ⊢
    have hlt : g < w.heap.size := by
      rcases Nat.lt_or_ge g w.heap.size with h' | h'
      · exact h'
      · rw [Array.getElem?_eq_none h'] at h; simp at h
    rw [hb.block g hlt]
    exact h

theorem holds_zero0 (w : World) (T : TypeId) (nd : Nat) (hs : nd ≤ 24) : Holds (fun (b : UInt8) => Value.int .u8 (b.toNat : Int)) (w.alloc (.cells zeros24 T)) w.heap.size 0 (Array.replicate nd (0 : UInt8)) := fun j hj => by
  have hj' : j < nd := by simpa using hj
  refine ⟨?_, World.frozen?_alloc_new _ _ _ _⟩
  rw [World.cell?_alloc_new, zeros24_at _ (by omega), getElem!_pos _ j hj]
  simp
theorem fin_pos0 (w : World) (o : Obj) (dk : Array UInt8) (k : Nat) : Below w.heap.size w ((putRow (fun (b : UInt8) => Value.int .u8 (b.toNat : Int)) (w.alloc o) w.heap.size 0 dk).drewN k) := by
  rw [alloc_eq_grow]
  obtain ⟨os', _, e⟩ := putRow_grow_new (fun (b : UInt8) => Value.int .u8 (b.toNat : Int)) w #[o] w.heap.size 0 dk (Nat.le_refl _)
  rw [e]
  refine ⟨rfl, rfl, rfl, ?_, fun j hj => ?_⟩
  · show w.heap.size ≤ (w.heap ++ os').size
    simp
  · show (w.heap ++ os')[j]? = _
    rw [Array.getElem?_append_left hj]

set_option maxHeartbeats 3200000 in
set_option maxRecDepth 100000 in
theorem formatUint_any (u : Nat) (hu64 : u < 18446744073709551616) (w : World) (htab : Tab w) :
    Calls Tryz.prog 72 #[.int .u64 u, .int .i64 10] w fun e w' => e = .returned (.string ⟨(Lib.decDigits u).toArray⟩) ∧ Below w.heap.size w w' := by
  by_cases hs : u < 100
  · have hlt : (u : Int) < 100 := by omega
    go_enter Tryz.func72, Tryz.ntmps72
    go_wp2_with fail
    refine (Tryz.internal_strconv_small u hs _).mono ?_
    rintro e w' ⟨rfl, rfl⟩
    go_wp2
    go_ret
    exact ⟨rfl, Below.refl _ _⟩
  · have hu1 : 1 ≤ u := by omega
    have hge : ¬ (u : Int) < 100 := by omega
    have hnd20 : Lib.nDigits u ≤ 20 := nDigits_le20 u hu64
    have hnd24 : Lib.nDigits u ≤ 24 := by omega
    have hal : Tryz.prog.arrayLen 113 = 24 := by kernel_rfl
    have hsl : ∀ W, (Instr.sliceAt 113 (.pointer (some ⟨w.heap.size, 0, none⟩)) none (some (.int .i64 (Lib.nDigits u : Int))) none).run Tryz.prog W = .ok (.slice (some ⟨w.heap.size, 0, none⟩) (Lib.nDigits u) 24) W := fun W => by
      rw [run_sliceAt_array_h W 113 ⟨w.heap.size, 0, none⟩ (by kernel_rfl) .i64 (Lib.nDigits u : Int) (by omega) (by rw [hal]; omega)]
      go_simp
    have hH0 := holds_zero0 w 113 (Lib.nDigits u) (by omega)
    have hfmt := Tryz.internal_strconv_formatBase10 w.heap.size 0 24 u (Array.replicate (Lib.nDigits u) 0) (w.alloc (.cells Lib.zeros24 113)) hH0 (by rw [Array.size_replicate]; exact Lib.lt_pow_nDigits u) hu64 (by rw [Array.size_replicate]; omega)
    rw [Array.size_replicate] at hfmt
    have HH0 := hid hH0
    have HFM := hid hfmt
    have HT := hid (Lib.tabIs_alloc htab (.cells Lib.zeros24 113))
    clear hH0 hal hfmt htab
    go_enter Tryz.func72, Tryz.ntmps72
    go_wp2_with fail
    refine (Tryz.internal_strconv_numDigits u hu1 hu64 _ HT.out).mono ?_
    rintro e w' ⟨rfl, rfl⟩
    go_wp2_with fail
    refine Calls.mono HFM.out ?_
    rintro e w' ⟨rfl, k, v', dk, rfl, hF⟩
    have HF := hid hF
    have hcv : (convert 64 9 (.slice (some ⟨w.heap.size, 0, none⟩) (Lib.nDigits u) 24)).run Tryz.prog ((putRow (fun (b : UInt8) => Value.int .u8 (b.toNat : Int)) (w.alloc (.cells Lib.zeros24 113)) w.heap.size 0 dk).drewN k) = .ok (.string ⟨(Lib.decDigits u).toArray⟩) ((putRow (fun (b : UInt8) => Value.int .u8 (b.toNat : Int)) (w.alloc (.cells Lib.zeros24 113)) w.heap.size 0 dk).drewN k) := by
      have h := run_convert_bytes_back (P := Tryz.prog) ((putRow (fun (b : UInt8) => Value.int .u8 (b.toNat : Int)) (w.alloc (.cells Lib.zeros24 113)) w.heap.size 0 dk).drewN k) 64 9 5 ⟨w.heap.size, 0, none⟩ 24 (Lib.decDigits u) Tryz.underlying64 Tryz.underlying5 Tryz.underlying9 (fun j hj => by
        rw [Lib.add_plain, Lib.row_is_numeral hF j hj, World.cell?_drewN]
        exact cell?_putRow (fun (b : UInt8) => Value.int .u8 (b.toNat : Int)) _ w.heap.size 0 _ dk HH0.out (by rw [hF.size, Array.size_replicate]) j (by rw [hF.size]; rw [Lib.decDigits_length] at hj; exact hj))
      rw [Lib.decDigits_length] at h
      exact h
    clear hF
    go_wp2
    go_ret
    exact ⟨rfl, fin_pos0 w _ dk k⟩

set_option maxHeartbeats 800000 in
set_option maxRecDepth 100000 in
theorem format_any (u : Nat) (hu64 : u < 18446744073709551616) (w : World) (htab : Tab w) :
    Calls Tryz.prog 52 #[.int .u64 u, .int .i64 10] w fun e w' => e = .returned (.string ⟨(Lib.decDigits u).toArray⟩) ∧ Below w.heap.size w w' := by
  go_enter Tryz.func52, Tryz.ntmps52
  go_wp2_with fail
  refine (formatUint_any u hu64 w htab).mono ?_
  rintro e w' ⟨rfl, hb⟩
  go_wp2
  go_ret
  exact ⟨rfl, hb⟩
end Go.Proofs.YtomdkingdniohaaGreatDoor

/- nat.Print tells the decimal digits of a number's value, or its error: of every list that can be read, where the library's table of powers of ten stands as its text lays it. -/
namespace Go.Proofs.YtomdkingdniohaaGreatDoor
open Go.RowKit Go.Lib
set_option linter.unusedVariables false

/-- Nine digits, noughts ahead. -/
def pad : Nat → Nat → List UInt8
  | 0, _ => []
  | k + 1, p => pad k (p / 10) ++ [UInt8.ofNat (48 + p % 10)]
theorem digits_pad (hi : Nat) (h : 1 ≤ hi) : ∀ (k p : Nat), p < 10 ^ k → decDigits (hi * 10 ^ k + p) = decDigits hi ++ pad k p
  | 0, p, hp => by
    have : p = 0 := by simpa using hp
    subst this; simp [pad]
  | k + 1, p, hp => by
    have hk : 1 ≤ 10 ^ k := Nat.one_le_pow _ _ (by decide)
    have e1 : hi * 10 ^ (k + 1) = hi * 10 ^ k * 10 := by rw [Nat.pow_succ, Nat.mul_assoc]
    have h2 : hi ≤ hi * 10 ^ k := Nat.le_mul_of_pos_right hi hk
    have hge : ¬ hi * 10 ^ (k + 1) + p < 10 := by omega
    rw [decDigits, dif_neg hge]
    have e2 : (hi * 10 ^ (k + 1) + p) / 10 = hi * 10 ^ k + p / 10 := by omega
    have e3 : (hi * 10 ^ (k + 1) + p) % 10 = p % 10 := by omega
    rw [e2, e3, digits_pad hi h k (p / 10) (by rw [Nat.pow_succ] at hp; omega), pad, List.append_assoc]
theorem pad_eq : ∀ (k p : Nat), p < 10 ^ (k + 1) → pad (k + 1) p = List.replicate (k + 1 - nDigits p) 48 ++ decDigits p ∧ nDigits p ≤ k + 1
  | 0, p, hp => by
    have h10 : p < 10 := by simpa using hp
    rw [nDigits_small h10, decDigits_one h10]
    refine ⟨?_, Nat.le_refl _⟩
    simp [pad]
    congr 1
    omega
  | k + 1, p, hp => by
    by_cases h10 : p < 10
    · have ih := pad_eq k (p / 10) (by rw [Nat.pow_succ] at hp; omega)
      have e0 : p / 10 = 0 := by omega
      rw [e0, nDigits_small (by omega), decDigits_one (by omega)] at ih
      rw [nDigits_small h10, decDigits_one h10]
      refine ⟨?_, by omega⟩
      show pad (k + 1) (p / 10) ++ _ = _
      rw [e0, ih.1]
      have e1 : k + 1 + 1 - 1 = (k + 1 - 1) + 1 := by omega
      rw [e1, List.replicate_succ', show p % 10 = p by omega]
      rfl
    · have ih := pad_eq k (p / 10) (by rw [Nat.pow_succ] at hp; omega)
      rw [nDigits_big h10]
      refine ⟨?_, by omega⟩
      show pad (k + 1) (p / 10) ++ _ = _
      rw [ih.1, decDigits.eq_def p, dif_neg h10, List.append_assoc]
      congr 2
      omega

theorem repeat_noughts : ∀ c, repeatL [48] c = List.replicate c 48
  | 0 => rfl
  | c + 1 => by show [48] ++ repeatL [48] c = _; rw [repeat_noughts c]; rfl

/-- The digits of the pieces from place k on. -/
theorem piece_step (ps : List Int) (hp : Pc ps) (k : Nat) (hk : k + 1 < ps.length) (htop : 0 < ps[ps.length - 1]?.getD 0) :
    decDigits (pval (ps.drop k)).toNat = decDigits (pval (ps.drop (k + 1))).toNat ++ (List.replicate (9 - nDigits (ps[k]?.getD 0).toNat) 48 ++ decDigits (ps[k]?.getD 0).toNat) ∧ nDigits (ps[k]?.getD 0).toNat ≤ 9 := by
  have hb := hp.at k
  have e1 : ps.drop k = ps[k]?.getD 0 :: ps.drop (k + 1) := by
    rw [List.drop_eq_getElem_cons (by omega), List.getElem?_eq_getElem (by omega)]; rfl
  have hpc : Pc (ps.drop (k + 1)) := fun q hq => hp q (List.mem_of_mem_drop hq)
  have hpos : 1 ≤ pval (ps.drop (k + 1)) := by
    have main : ∀ l : List Int, Pc l → 0 < l.length → 0 < l[l.length - 1]?.getD 0 → 1 ≤ pval l := by
      intro l
      induction l with
      | nil => intro _ h; simp at h
      | cons q l ih =>
        intro hc _ ht
        have hq := hc q List.mem_cons_self
        show 1 ≤ q + pval l * 1000000000
        rcases l with _ | ⟨q2, l⟩
        · simp at ht; simp [pval]; omega
        · have := ih (fun x hx => hc x (List.mem_cons_of_mem _ hx)) (by simp) (by simpa using ht)
          omega
    refine main _ hpc (by rw [List.length_drop]; omega) ?_
    rw [List.getElem?_drop, List.length_drop, show k + 1 + (ps.length - (k + 1) - 1) = ps.length - 1 by omega]
    exact htop
  have e2 : (pval (ps.drop k)).toNat = (pval (ps.drop (k + 1))).toNat * 10 ^ 9 + (ps[k]?.getD 0).toNat := by
    rw [e1]
    show (ps[k]?.getD 0 + pval (ps.drop (k + 1)) * 1000000000).toNat = _
    omega
  have pe := pad_eq 8 (ps[k]?.getD 0).toNat (by omega)
  rw [e2, digits_pad _ (by omega) 9 _ (by omega), pe.1]
  exact ⟨rfl, pe.2⟩

theorem builder_later {T e B b : Nat} {bs : List Value} {w w' : World} (h : IsBuilder T e B b bs w) (hb : Below w.heap.size w w') : IsBuilder T e B b bs w' := by
  have main : ∀ p, BuilderAt T e B b p bs w → BuilderAt T e B b p bs w' := by
    intro p h
    have hlt := h.lt
    obtain ⟨hB, v, hbk, hown, hne⟩ := h
    exact ⟨hB, v, (hb.block b hlt).trans hbk, owns_later hown hb, hne⟩
  exact h.imp (main _) (main _)
theorem builder_lt {T e B b : Nat} {bs : List Value} {w : World} (h : IsBuilder T e B b bs w) : b < w.heap.size := by
  rcases h with h | h
  · exact h.lt
  · exact h.lt

theorem ret_text {a b : ByteArray} {c d : Int} (h : a = b) (g : c = d) : Ending.returned (.tuple #[.string a, .int .i64 c]) = .returned (.tuple #[.string b, .int .i64 d]) := by rw [h, g]

set_option maxHeartbeats 6400000 in
set_option maxRecDepth 100000 in
theorem print_any (v : Value) (xs : List Int) (w : World) (h : Sl w v xs) (hn : xs.length ≤ 281474976710656) (htab : Tab w) :
    Calls Tryz.prog 30 #[v] w fun e w' => e = .returned (.tuple #[.string (if chk xs = 0 then ⟨(decDigits (val xs).toNat).toArray⟩ else ⟨#[]⟩), .int .i64 (chk xs)]) ∧ Below w.heap.size w w' := by
  by_cases hc : chk xs = 0
  · have HC := hid (check_sl v xs w h hn)
    rw [hc] at HC ⊢
    rw [if_pos rfl]
    have l1 := (chk_ok hc).1
    have t1 := (chk_ok hc).2
    have wx := h.wd
    clear hc
    by_cases h0 : xs.length = 0
    · have hx : xs = [] := List.eq_nil_of_length_eq_zero h0
      have HF : Hid ((⟨(decDigits (val xs).toNat).toArray⟩ : ByteArray) = ⟨#[48]⟩) := by
        show _ = _
        rw [hx, val_nil, show Int.toNat 0 = 0 from rfl, decDigits_one (by decide)]
        rfl
      obtain ⟨a, cap, rfl, hr⟩ := h
      have hz : ((xs.length : Int) == 0) = true := by simp [hx]
      clear hx h0 hr t1
      go_enter Tryz.func30, Tryz.ntmps30
      go_wp2_with fail
      refine Calls.mono HC.out ?_
      rintro e w' ⟨rfl, rfl⟩
      go_wp2_with fail
      go_ret2
      exact ⟨ret_text HF.out.symm rfl, Below.refl _ _⟩
    · have hz : ((xs.length : Int) == 0) = false := by simp; exact fun e => h0 (by simp [e])
      have HS := hid (split_any v xs w h l1 t1 (by omega))
      have HT := hid htab
      obtain ⟨a, cap, rfl, hr⟩ := h
      clear hr t1 h0 htab
      go_enter Tryz.func30, Tryz.ntmps30
      go_wp2_with fail
      refine Calls.mono HC.out ?_
      rintro e w' ⟨rfl, rfl⟩
      go_wp2_with fail
      refine Calls.mono HS.out ?_
      rintro e w1 ⟨vp, ps, rfl, op, hpc, hpv, hp0, hp1, htop, hb1⟩
      obtain ⟨gp, cp, hvp, hcp1, hcp2⟩ := own_shape' op hp0
      rw [hvp] at op ⊢
      have hgp := op.lt gp rfl
      have hcell : ∀ j, j < ps.length → w1.cell? ⟨gp, j, none⟩ = some (.int .u32 (ps[j]?.getD 0)) := fun j hj => by
        rw [op.cellAt j (by omega), List.getElem?_map, List.getElem?_eq_getElem hj]; rfl
      have HCE := hid hcell
      have HPV := hid hpv
      have HTP := hid htop
      obtain ⟨K, hK⟩ : ∃ K, K = ps.length := ⟨_, rfl⟩
      have HK := hid hK
      rw [← hK] at hp0 hp1 hcp1 ⊢
      have hs1 := hb1.size
      have hcp3 : cp ≤ 9223372036854775807 := by unfold maxLen at hcp2; omega
      obtain ⟨b, hb⟩ : ∃ b, b = w1.heap.size := ⟨_, rfl⟩
      have HBB : Hid (IsBuilder 66 5 b b (byteCells []) (w1.alloc (.cells #[.pointer none, .slice none 0 0] 66))) := by
        left
        exact ⟨Nat.le_refl _, .slice none 0 0, by rw [hb]; exact heap_alloc_new w1 _, World.ownsRow_nil _ _ _ _, by simp [Value.ownBlock]⟩
      have hbA : Below w.heap.size w (w1.alloc (.cells #[.pointer none, .slice none 0 0] 66)) := hb1.alloc hs1 _
      have hbB : Below b w1 (w1.alloc (.cells #[.pointer none, .slice none 0 0] 66)) := (Below.refl _ _).alloc (by omega) _
      have hgpb : gp < b := by omega
      have hwb : w.heap.size ≤ b := by omega
      clear op hcell hpv htop hK hcp2 hvp hs1 HS HC
      go_wp2_with fail
      rw [← hb]
      clear hb
      go_loopw [7] (fun t wr => ∃ (k : Nat) (txt : List UInt8), k ≤ K ∧ t = .int .i64 ((k : Int) - 1) ∧ Hid (k < K → txt = decDigits (pval (ps.drop k)).toNat) ∧ Hid (k = K → txt = []) ∧ txt.length ≤ 9 * (K - k) ∧
        IsBuilder 66 5 b b (byteCells txt) wr ∧ Below w.heap.size w wr ∧ Below b w1 wr) (fun t _ => (RowKit.intOf t + 1).toNat)
      case atStart => exact ⟨K, [], Nat.le_refl _, rfl, fun e => by omega, fun _ => rfl, by simp, HBB.out, hbA, hbB⟩
      case round =>
        obtain ⟨k, txt, hk, rfl, HX, HY, hlen, hbu, hb2, hb3⟩ := hrel
        have hblt := builder_lt hbu
        rcases k with _ | k
        · have HX' : Hid (txt = decDigits (val xs).toNat) := by
            show _ = _
            rw [HX.out hp0, List.drop_zero, HPV.out]
          clear HX HY
          go_wp2_with fail
          refine (Tryz.Builder_String_any b b txt wr hbu (by omega)).mono ?_
          rintro e w3 ⟨rfl, hb4⟩
          have hbF : Below w.heap.size w w3 := hb2.trans (hb4.mono hwb)
          go_wp2_with fail
          go_ret2
          exact ⟨ret_text (by rw [HX'.out]) rfl, hbF⟩
        · have ek : (((k + 1 : Nat) : Int) - 1) = (k : Int) := by omega
          rw [ek]
          clear ek
          have bp := hpc.at k
          have x1 : wr.cell? ⟨gp, k, none⟩ = some (.int .u32 (ps[k]?.getD 0)) := (hb3.cell (p := ⟨gp, k, none⟩) hgpb).trans (HCE.out k (by have := HK.out; omega))
          obtain ⟨p, hp⟩ : ∃ p : Nat, (p : Int) = ps[k]?.getD 0 := ⟨(ps[k]?.getD 0).toNat, by omega⟩
          rw [← hp] at x1 bp
          have hp9 : p < 1000000000 := by omega
          have HP := hid hp
          have htw := HT.out.later hb2
          clear hp bp
          go_wp2_with fail
          refine (format_any p (by omega) wr htw).mono ?_
          rintro e w4 ⟨rfl, hb4⟩
          have hnd : nDigits p ≤ 9 := (pad_eq 8 p (by omega)).2
          obtain ⟨S, hS⟩ : ∃ S : ByteArray, S = ⟨(decDigits p).toArray⟩ := ⟨_, rfl⟩
          have hSs : S.size = nDigits p := by rw [hS, ← decDigits_length]; exact List.size_toArray
          rw [← hS]
          have hSn : S.size ≤ 9 := by omega
          have HSE := hid hS
          have HSS := hid hSs
          have hbu4 := builder_later hbu hb4
          have hs4 := hb4.size
          have hb24 : Below w.heap.size w w4 := bt hb2 hb4
          have hb34 : Below b w1 w4 := hb3.trans (hb4.mono (by omega))
          clear hS hSs hbu hb4 htw x1 hb2 hb3
          by_cases hlast : k + 1 < K
          · have hli : (k : Int) < (K : Int) - 1 := by omega
            go_wp2_with fail
            rw [show (9 : Int) - (S.size : Int) = ((9 - S.size : Nat) : Int) by omega]
            refine (Tryz.strings_Repeat ⟨#[48]⟩ (9 - S.size) w4 (by omega) (by show 1 * _ ≤ _; omega)).mono ?_
            rintro e w5 ⟨rfl, hb5⟩
            have hbu5 := builder_later hbu4 hb5
            have hs5 := hb5.size
            obtain ⟨Z, hZ⟩ : ∃ Z : ByteArray, Z = ⟨(repeatL [48] (9 - S.size)).toArray⟩ := ⟨_, rfl⟩
            have hZs : Z.size = 9 - S.size := by rw [hZ]; show (repeatL [48] (9 - S.size)).toArray.size = _; rw [List.size_toArray, repeatL_length]; simp
            have hZ' : Z = ⟨(repeatL (ByteArray.mk #[48]).data.toList (9 - S.size)).toArray⟩ := hZ
            rw [← hZ']
            have HZE := hid hZ
            have hb25 : Below w.heap.size w w5 := bt hb24 hb5
            have hb35 : Below b w1 w5 := hb34.trans (hb5.mono (by omega))
            have HZS := hid hZs
            have hz9 : Z.size ≤ 9 := by omega
            clear hZ hZ' hZs hbu4 hb5 hb24 hb34
            go_wp2_with fail
            refine (Tryz.Builder_WriteString b b (byteCells txt) Z w5 hbu5 (by rw [byteCells_length]; omega) (by omega)).mono ?_
            rintro e w6 ⟨rfl, hbu6, hb6⟩
            have hs6 := hb6.size
            have hb26 : Below w.heap.size w w6 := hb25.trans (hb6.mono hwb)
            have hb36 : Below b w1 w6 := hb35.trans hb6
            rw [strCells_eq, ← byteCells_append] at hbu6
            clear hbu5 hb6 hb25 hb35
            go_wp2_with fail
            refine (Tryz.Builder_WriteString b b (byteCells (txt ++ Z.data.toList)) S w6 (.inr hbu6) (by have e1 : Z.data.toList.length = Z.size := Array.length_toList; rw [byteCells_length, List.length_append]; omega) (by omega)).mono ?_
            rintro e w7 ⟨rfl, hbu7, hb7⟩
            have hb27 : Below w.heap.size w w7 := hb26.trans (hb7.mono hwb)
            have hb37 : Below b w1 w7 := hb36.trans hb7
            rw [strCells_eq, ← byteCells_append] at hbu7
            have HB7 := hid (show IsBuilder 66 5 b b (byteCells (txt ++ Z.data.toList ++ S.data.toList)) w7 from .inr hbu7)
            have HTX : Hid (txt ++ Z.data.toList ++ S.data.toList = decDigits (pval (ps.drop k)).toNat) := by
              show _ = _
              have st := piece_step ps hpc k (by have := HK.out; omega) HTP.out
              have ep : (ps[k]?.getD 0).toNat = p := by have := HP.out; omega
              rw [ep] at st
              rw [st.1, HX.out hlast, HZE.out, HSS.out, HSE.out, repeat_noughts, List.append_assoc]
            have HLN : Hid ((txt ++ Z.data.toList ++ S.data.toList).length ≤ 9 * (K - k)) := by
              show _ ≤ _
              have e1 : Z.data.toList.length = Z.size := Array.length_toList
              have e2 : S.data.toList.length = S.size := Array.length_toList
              have := HZS.out
              rw [List.length_append, List.length_append]
              omega
            clear hbu6 hbu7 hb7 hb26 hb36 HX HY
            go_wp2_with fail
            go_roundw
            case rel => exact ⟨k, _, by omega, rfl, fun _ => HTX.out, fun e => by omega, HLN.out, HB7.out, hb27, hb37⟩
            case measure => simp [RowKit.intOf]
          · have hkK : k + 1 = K := by omega
            have hli : ¬ (k : Int) < (K : Int) - 1 := by omega
            have htx : txt = [] := HY.out hkK
            go_wp2_with fail
            refine (Tryz.Builder_WriteString b b (byteCells txt) S w4 hbu4 (by rw [byteCells_length]; omega) (by omega)).mono ?_
            rintro e w5 ⟨rfl, hbu5, hb5⟩
            rw [strCells_eq, ← byteCells_append] at hbu5
            have hb25 : Below w.heap.size w w5 := hb24.trans (hb5.mono hwb)
            have hb35 : Below b w1 w5 := hb34.trans hb5
            have HB5 := hid (show IsBuilder 66 5 b b (byteCells (txt ++ S.data.toList)) w5 from .inr hbu5)
            have HTX : Hid (txt ++ S.data.toList = decDigits (pval (ps.drop k)).toNat) := by
              show _ = _
              have ed : ps.drop k = [ps[k]?.getD 0] := by
                rw [List.drop_eq_getElem_cons (by have := HK.out; omega), List.getElem?_eq_getElem (by have := HK.out; omega), List.drop_eq_nil_of_le (by have := HK.out; omega)]; rfl
              have ep : (ps[k]?.getD 0).toNat = p := by have := HP.out; omega
              rw [htx, ed, HSE.out]
              simp [pval, ep]
            have HLN : Hid ((txt ++ S.data.toList).length ≤ 9 * (K - k)) := by
              show _ ≤ _
              have e2 : S.data.toList.length = S.size := Array.length_toList
              rw [List.length_append, htx]
              simp
              omega
            clear hbu4 hbu5 hb5 hb24 hb34 HX HY htx
            go_wp2_with fail
            go_roundw
            case rel => exact ⟨k, _, by omega, rfl, fun _ => HTX.out, fun e => by omega, HLN.out, HB5.out, hb25, hb35⟩
            case measure => simp [RowKit.intOf]
  · have hne : (chk xs != 0) = true := by simp [hc]
    rw [if_neg hc]
    clear hc
    go_enter Tryz.func30, Tryz.ntmps30
    go_wp2_with fail
    refine (check_sl v xs w h hn).mono ?_
    rintro e w' ⟨rfl, rfl⟩
    go_wp2
    go_ret2
    exact ⟨rfl, Below.refl _ _⟩
end Go.Proofs.YtomdkingdniohaaGreatDoor

/- nat.Parse reads decimal digits, or tells the error: of every text. -/
namespace Go.Proofs.YtomdkingdniohaaGreatDoor
open Go.RowKit
set_option linter.unusedVariables false

/-- Digits alone. -/
def Dg (l : List UInt8) : Prop := ∀ c ∈ l, 48 ≤ (c.toNat : Int) ∧ (c.toNat : Int) ≤ 57
/-- The text of a number: digits alone, no nought ahead. -/
def IsNum (l : List UInt8) : Prop := 0 < l.length ∧ (l[0]?.getD 0 = 48 → l.length ≤ 1) ∧ Dg l

theorem byte_at (s : ByteArray) (k : Nat) (h : k < s.size) : s.data.toList[k]? = some s[k] := by
  have : k < s.data.toList.length := by simpa using h
  rw [List.getElem?_eq_getElem this]; rfl
theorem size_list (s : ByteArray) : s.data.toList.length = s.size := Array.length_toList
theorem mem_at {l : List UInt8} {c : UInt8} (h : c ∈ l) : ∃ k : Nat, k < l.length ∧ l[k]? = some c := by
  obtain ⟨k, hk, e⟩ := List.getElem_of_mem h
  exact ⟨k, hk, by rw [List.getElem?_eq_getElem hk, e]⟩

open Classical in
set_option maxHeartbeats 1600000 in
set_option maxRecDepth 100000 in
theorem isNumber_loop (s : ByteArray) (w : World) (hs : s.size ≤ 65536) (hp : 0 < s.size) (hem : s.toList.isEmpty = false) (hz : ((s[0].toNat : Int) = 48 ∧ s.size = 1) ∨ ¬ (s[0].toNat : Int) = 48) (H1 : Hid (s.data.toList[0]?.getD 0 = 48 → s.data.toList.length ≤ 1)) :
    Calls Tryz.prog 54 #[.string s] w fun e w' => e = .returned (.bool (decide (IsNum s.data.toList))) ∧ w = w' := by
  have hl := size_list s
  have HL := hid hl
  have hen : ¬ s.toList = [] := fun e => by rw [e] at hem; simp at hem
  have hb : ((s[0].toNat : Int) == 48) = true ∧ ¬ 1 < s.size ∨ ((s[0].toNat : Int) == 48) = false := by
    rcases hz with ⟨h1, h2⟩ | h1
    · left; exact ⟨by simp [h1], by omega⟩
    · right; simp [h1]
  clear hl hz
  rcases hb with ⟨c0b, c1⟩ | c0b
  all_goals
    go_enter Tryz.func54, Tryz.ntmps54
    go_wp2_with fail
    go_loop [18] (fun t => ∃ k : Nat, k ≤ s.size ∧ t = .int .i64 k ∧ Hid (∀ j : Nat, j < k → 48 ≤ ((s.data.toList[j]?.getD 0).toNat : Int) ∧ ((s.data.toList[j]?.getD 0).toNat : Int) ≤ 57)) (fun t => s.size - (intOf t).toNat)
    case atStart => exact ⟨0, by omega, rfl, fun j hj => by omega⟩
    case round =>
      obtain ⟨k, hk, rfl, HJ⟩ := hrel
      by_cases hlt : k < s.size
      · have bk := byte_at s k hlt
        by_cases d1 : (s[k].toNat : Int) < 48
        · have HF : Hid (decide (IsNum s.data.toList) = false) := decide_eq_false (fun h => by
            have := h.2.2 _ (List.mem_of_getElem? bk)
            omega)
          clear bk
          go_wp2_with fail
          go_ret
          exact ⟨ret_bool HF.out.symm, rfl⟩
        · by_cases d2 : 57 < (s[k].toNat : Int)
          · have HF : Hid (decide (IsNum s.data.toList) = false) := decide_eq_false (fun h => by
              have := h.2.2 _ (List.mem_of_getElem? bk)
              omega)
            clear bk
            go_wp2_with fail
            go_ret
            exact ⟨ret_bool HF.out.symm, rfl⟩
          · have HJ' : Hid (∀ j : Nat, j < k + 1 → 48 ≤ ((s.data.toList[j]?.getD 0).toNat : Int) ∧ ((s.data.toList[j]?.getD 0).toNat : Int) ≤ 57) := fun j hj => by
              by_cases e : j = k
              · rw [e, bk]; show 48 ≤ (s[k].toNat : Int) ∧ (s[k].toNat : Int) ≤ 57; omega
              · exact HJ.out j (by omega)
            clear bk
            go_wp2_with fail
            go_round
            case rel => exact ⟨k + 1, by omega, by go_num, HJ'⟩
            case measure => simp [intOf]; omega
      · have HF : Hid (decide (IsNum s.data.toList) = true) := decide_eq_true (by
          refine ⟨by have := HL.out; omega, H1.out, fun c hc => ?_⟩
          obtain ⟨j, hj, e⟩ := mem_at hc
          have := HJ.out j (by have := HL.out; omega)
          rw [e] at this
          exact this)
        go_wp2_with fail
        go_ret
        exact ⟨ret_bool HF.out.symm, rfl⟩

open Classical in
set_option maxHeartbeats 1600000 in
set_option maxRecDepth 100000 in
theorem isNumber_any (s : ByteArray) (w : World) (hs : s.size ≤ 65536) :
    Calls Tryz.prog 54 #[.string s] w fun e w' => e = .returned (.bool (decide (IsNum s.data.toList))) ∧ w = w' := by
  have hl := size_list s
  by_cases h0 : s.size = 0
  · have HF : Hid (decide (IsNum s.data.toList) = false) := decide_eq_false (fun h => by have := h.1; omega)
    have hse : s = ⟨#[]⟩ := by
      obtain ⟨d⟩ := s
      have : d = #[] := Array.eq_empty_of_size_eq_zero h0
      rw [this]
    subst hse
    clear h0 hl
    go_enter Tryz.func54, Tryz.ntmps54
    go_wp2
    go_ret
    exact ⟨ret_bool HF.out.symm, rfl⟩
  · have hp : 0 < s.size := by omega
    have b0 := byte_at s 0 hp
    have hem : s.toList.isEmpty = false := by
      rw [ByteArray.toList_eq]
      cases hx : s.data.toList with
      | nil => rw [hx] at hl; simp at hl; omega
      | cons _ _ => rfl
    have hen : ¬ s.toList = [] := fun e => by rw [e] at hem; simp at hem
    by_cases c0 : (s[0].toNat : Int) = 48
    · have c0b : ((s[0].toNat : Int) == 48) = true := by simp [c0]
      have hc48 : s[0] = 48 := UInt8.toNat_inj.1 (by show s[0].toNat = 48; omega)
      by_cases c1 : 1 < s.size
      · have HF : Hid (decide (IsNum s.data.toList) = false) := decide_eq_false (fun h => by
          have := h.2.1 (by rw [b0, hc48]; rfl)
          omega)
        clear hl h0 b0 hen hc48
        go_enter Tryz.func54, Tryz.ntmps54
        go_wp2_with fail
        go_ret
        exact ⟨ret_bool HF.out.symm, rfl⟩
      · have H1 : Hid (s.data.toList[0]?.getD 0 = 48 → s.data.toList.length ≤ 1) := fun _ => by omega
        exact isNumber_loop s w hs hp hem (.inl ⟨c0, by omega⟩) H1
    · have H1 : Hid (s.data.toList[0]?.getD 0 = 48 → s.data.toList.length ≤ 1) := fun e => by
        rw [b0] at e
        have e : s[0] = 48 := e
        exact absurd (by rw [e]; rfl) c0
      exact isNumber_loop s w hs hp hem (.inr c0) H1

/-- The number of the first k digits. -/
def numTo (l : List UInt8) : Nat → Int
  | 0 => 0
  | k + 1 => numTo l k * 10 + (((l[k]?.getD 48).toNat : Int) - 48)
theorem numTo_bounds {l : List UInt8} (hd : Dg l) : ∀ k, 0 ≤ numTo l k ∧ numTo l k < 10 ^ k
  | 0 => ⟨Int.le_refl _, by simp [numTo]⟩
  | k + 1 => by
    obtain ⟨h0, h1⟩ := numTo_bounds hd k
    have hc : 48 ≤ ((l[k]?.getD 48).toNat : Int) ∧ ((l[k]?.getD 48).toNat : Int) ≤ 57 := by
      by_cases hk : k < l.length
      · rw [List.getElem?_eq_getElem hk]; exact hd _ (List.getElem_mem hk)
      · rw [List.getElem?_eq_none (by omega)]; decide
    show 0 ≤ numTo l k * 10 + _ ∧ numTo l k * 10 + _ < _
    rw [Int.pow_succ]
    omega
theorem numTo_congr (l l' : List UInt8) : ∀ k, (∀ j, j < k → l[j]?.getD 48 = l'[j]?.getD 48) → numTo l k = numTo l' k
  | 0, _ => rfl
  | k + 1, h => by
    show numTo l k * 10 + _ = numTo l' k * 10 + _
    rw [numTo_congr l l' k (fun j hj => h j (by omega)), h k (by omega)]
theorem numTo_add (l : List UInt8) (m : Nat) : ∀ n, numTo l (m + n) = numTo l m * 10 ^ n + numTo (l.drop m) n
  | 0 => by simp [numTo]
  | n + 1 => by
    have ih := numTo_add l m n
    show numTo l (m + n) * 10 + _ = numTo l m * 10 ^ (n + 1) + (numTo (l.drop m) n * 10 + _)
    rw [ih, Int.pow_succ, List.getElem?_drop, Int.add_mul, Int.mul_assoc, Int.add_assoc]
    rfl
theorem Dg.drop {l : List UInt8} (h : Dg l) (k : Nat) : Dg (l.drop k) := fun c hc => h c (List.mem_of_mem_drop hc)
theorem Dg.take {l : List UInt8} (h : Dg l) (k : Nat) : Dg (l.take k) := fun c hc => h c (List.mem_of_mem_take hc)

set_option maxHeartbeats 1600000 in
set_option maxRecDepth 100000 in
theorem wordOf_any (s : ByteArray) (w : World) (hs : s.size ≤ 9) (hd : Dg s.data.toList) :
    Calls Tryz.prog 74 #[.string s] w fun e w' => e = .returned (.int .u32 (numTo s.data.toList s.size)) ∧ w = w' := by
  have HD := hid hd
  clear hd
  go_enter Tryz.func74, Tryz.ntmps74
  go_wp2_with fail
  go_loop [3, 7] (fun x t => ∃ (k : Nat) (y : Int), k ≤ s.size ∧ t = .int .i64 k ∧ x = .int .u32 y ∧ Hid (y = numTo s.data.toList k)) (fun _ t => s.size - (intOf t).toNat)
  case atStart => exact ⟨0, 0, by omega, rfl, rfl, rfl⟩
  case round =>
    obtain ⟨k, y, hk, rfl, rfl, HY⟩ := hrel
    by_cases hlt : k < s.size
    · have bk := byte_at s k hlt
      have hb : 48 ≤ (s[k].toNat : Int) ∧ (s[k].toNat : Int) ≤ 57 := HD.out _ (List.mem_of_getElem? bk)
      have hy := numTo_bounds HD.out k
      rw [← HY.out] at hy
      have hp : (10 : Int) ^ k ≤ 10 ^ 8 := by
        obtain ⟨d, hd⟩ : ∃ d, 8 = k + d := ⟨8 - k, by omega⟩
        rw [hd, Int.pow_add]
        have h1 : (0 : Int) < 10 ^ k := Int.pow_pos (by decide)
        have h2 : (0 : Int) < 10 ^ d := Int.pow_pos (by decide)
        have h3 : (10 : Int) ^ k * 1 ≤ 10 ^ k * 10 ^ d := Int.mul_le_mul_of_nonneg_left (by omega) (by omega)
        omega
      have hy0 : 0 ≤ y := hy.1
      have hy1 : y < 100000000 := by have := hy.2; omega
      have hb0 := hb.1
      have hb1 := hb.2
      have HY' : Hid (y * 10 + ((s[k].toNat : Int) - 48) = numTo s.data.toList (k + 1)) := by
        show _ = numTo s.data.toList k * 10 + _
        rw [bk, ← HY.out]; rfl
      clear hy hp hb bk HY
      go_wp2
      go_round
      case rel => exact ⟨k + 1, _, by omega, by go_num, rfl, HY'.out⟩
      case measure => simp [intOf]; omega
    · have hkn : k = s.size := by omega
      go_wp2
      go_ret
      exact ⟨ret_int (by rw [HY.out, hkn]), rfl⟩
end Go.Proofs.YtomdkingdniohaaGreatDoor

/- nat.timesPiece, nat.join: the number of digits, piece by piece, in new memory. -/
namespace Go.Proofs.YtomdkingdniohaaGreatDoor
open Go.RowKit
set_option linter.unusedVariables false

theorem times_step (ys us : List Int) (k : Nat) (x c t : Int) (hk : k < us.length) (ht : c + ys[k]?.getD 0 * 1000000000 = t)
    (h : valTo us k + c * 4294967296 ^ k = valTo ys k * 1000000000 + x) :
    valTo (us.set k (t % 4294967296)) (k + 1) + t / 4294967296 * 4294967296 ^ (k + 1) = valTo ys (k + 1) * 1000000000 + x := by
  rw [valTo_set us k _ hk, valTo_succ, pw_succ]
  have e := carry_step (4294967296 ^ k) (t % 4294967296) (t / 4294967296) t (by omega)
  have e2 : t * 4294967296 ^ k = c * 4294967296 ^ k + ys[k]?.getD 0 * 4294967296 ^ k * 1000000000 := by
    rw [← ht, Int.add_mul, Int.mul_assoc, Int.mul_comm 1000000000, ← Int.mul_assoc]
  omega
theorem val_snoc (us : List Int) (z : Int) : val (us ++ [z]) = val us + z * 4294967296 ^ us.length := by
  unfold val
  rw [List.length_append, List.length_singleton, valTo_succ, valTo_congr (us ++ [z]) us us.length (fun j hj => by rw [List.getElem?_append_left hj])]
  simp

set_option maxHeartbeats 3200000 in
set_option maxRecDepth 100000 in
theorem timesPiece_any (base n : Nat) (v : Value) (ys : List Int) (x : Int) (w : World) (ho : w.ownsRow base 42 1 v n (ys.map (Value.int .u32))) (hwy : Wd ys) (hn : n ≤ 1000000) (hx : 0 ≤ x ∧ x ≤ 4294967295) (hbase : base ≤ w.heap.size) :
    Calls Tryz.prog 73 #[v, .int .u32 x] w fun e w' => ∃ (v' : Value) (zs : List Int), e = .returned v' ∧ w'.ownsRow base 42 1 v' zs.length (zs.map (Value.int .u32)) ∧ Wd zs ∧ zs.length ≤ n + 1 ∧ val zs = val ys * 1000000000 + x ∧ Below base w w' := by
  obtain ⟨i0, hi, hz0, hz1, hz2⟩ := info_parts Tryz.infoW
  have hx1 := hx.1
  have hx2 := hx.2
  rcases ho.2 with ⟨rfl, rfl⟩ | ⟨g, cap, cur, rfl, hrest⟩
  · have hy : ys = [] := List.eq_nil_of_length_eq_zero (by have := ho.1; simpa using this)
    subst hy
    clear ho
    by_cases h0 : x = 0
    · subst h0
      go_enter Tryz.func73, Tryz.ntmps73
      go_wp2
      refine wp_loop_rounds 1 ?_
      rw [rounds_succ]
      go_wp2
      go_ret
      exact ⟨_, [], rfl, World.ownsRow_nil _ _ _ _, Wd.nil, by simp, by simp [val, valTo], Below.refl _ _⟩
    · have hne : (x != 0) = true := by simp [h0]
      clear h0
      go_enter Tryz.func73, Tryz.ntmps73
      go_wp2_with fail
      refine wp_loop_rounds 1 ?_
      rw [rounds_succ]
      go_wp2_with (at_builtin; refine wpList_append_own _ rfl _ _ 23 rfl base 42 i0 (.int .u32 0) 1 4 Tryz.underlying23 hi hz0 hz1 hz2 rfl (by decide) _ _ _ rfl (World.ownsRow_nil _ _ _ _) ⟨w.heap.size, 0, none⟩ 1 1 [.int .u32 x] rfl rfl (cell_one_new _ _ _) (by simp [Value.oneCell']) (by unfold maxLen; omega) (by omega) (by simp; omega) ?_)
      intro v3 w3 op3 hg3 _
      have hb3 : Below base w w3 := ((Below.refl base w).alloc (by omega) _).grown hg3 (by simp; omega) (fun g hg => by simp [Value.ownBlock] at hg)
      have HP : Hid (w3.ownsRow base 42 1 v3 [x].length ([x].map (Value.int .u32))) := op3
      clear op3 hg3
      go_wp2
      go_ret
      exact ⟨v3, [x], rfl, HP.out, Wd.one hx, by simp, by rw [val_one, val_nil]; omega, hb3⟩
  · have ho' : OwnC w base g n cap ys := ho
    have hlen := ho'.len
    have hgl := World.ownsRow.lt ho g rfl
    have hcap := ho'.cap
    have hcp1 := hcap.1
    have hcp2 : cap ≤ 9223372036854775807 := by have := hcap.2; unfold maxLen at this; omega
    have HLN := hid hlen
    clear hlen hrest ho hx hcap
    go_enter Tryz.func73, Tryz.ntmps73
    go_wp2_with fail
    go_loopw [5, 12] (fun c t wr => ∃ (k : Nat) (r : Int) (us : List Int), k ≤ n ∧ t = .int .i64 k ∧ c = .int .u64 r ∧ 0 ≤ r ∧ r ≤ 4294967295 ∧ Wd us ∧ Hid (valTo us k + r * 4294967296 ^ k = valTo ys k * 1000000000 + x) ∧
      Hid (∀ j, k ≤ j → us[j]?.getD 0 = ys[j]?.getD 0) ∧ OwnC wr base g n cap us ∧ Below base w wr) (fun _ t _ => n - (intOf t).toNat)
    case atStart => exact ⟨0, x, ys, by omega, rfl, by go_num, by omega, by omega, hwy, show _ = _ by simp [valTo], fun _ _ => rfl, ho', Below.refl _ _⟩
    case round =>
      obtain ⟨k, r, us, hk, rfl, rfl, r0, r1, hwu, HV, HK, hou, hb⟩ := hrel
      by_cases hlt : k < n
      · have y1 := hou.cell k hlt
        have f1 := hou.free k
        have bu := hwu.at k
        have hlu := hou.len
        obtain ⟨t, ht⟩ : ∃ t, t = r + us[k]?.getD 0 * 1000000000 := ⟨_, rfl⟩
        have HT := hid ht
        have HV' := hid (times_step ys us k x r t (by omega) (by rw [ht, HK.out k (by omega)]) HV.out)
        have HK' : Hid (∀ j, k + 1 ≤ j → (us.set k (t % 4294967296))[j]?.getD 0 = ys[j]?.getD 0) := fun j hj => by
          rw [List.getElem?_set, if_neg (by omega)]
          exact HK.out j (by omega)
        have HO' := hid (hou.set k (t % 4294967296)).1
        have HB' := hid (hb.setCell (p := ⟨g, k, none⟩) hgl.1 (.int .u32 (t % 4294967296)))
        have ht0 : 0 ≤ t ∧ t ≤ 18446744073709551615 := by omega
        clear hlu hou hb HV HK ht
        go_wp2
        go_roundw
        case rel => rw [← HT.out]; exact ⟨k + 1, t / 4294967296, us.set k (t % 4294967296), by omega, by go_num, by go_num, by have := HT.out; omega, by have := HT.out; omega, hwu.set _ (by omega), HV', HK', HO'.out, HB'.out⟩
        case measure => simp [intOf]; omega
      · have hkm : k = n := by omega
        subst hkm
        have HV' : Hid (val us + r * 4294967296 ^ us.length = val ys * 1000000000 + x) := by
          show _ = _
          have e := HV.out
          rw [valTo_stable us k (by have := hou.len; omega), valTo_stable ys k (by have := HLN.out; omega)] at e
          rw [hou.len]
          exact e
        clear HV
        by_cases h0 : r = 0
        · subst h0
          have HE : Hid (val us = val ys * 1000000000 + x) := by show _ = _; have := HV'.out; omega
          have HO := hid (owns_len hou)
          have HU := hid hou.len
          clear hou HV'
          go_wp2_with fail
          go_ret
          exact ⟨_, us, rfl, HO.out, hwu, by have := HU.out; omega, HE.out, hb⟩
        · have hne : (r != 0) = true := by simp [h0]
          obtain ⟨R, hR⟩ : ∃ R, R = us.map (Value.int .u32) := ⟨_, rfl⟩
          have HM : Hid ((us ++ [r]).map (Value.int .u32) = R ++ [.int .u32 r]) := by show _ = _; rw [hR]; simp
          have hop : wr.ownsRow base 42 1 (.slice (some ⟨g, 0, none⟩) k cap) k R := by rw [hR]; exact hou
          have HU := hid hou.len
          have hbs := hb.size
          clear hR hou h0
          go_wp2_with (at_builtin; refine wpList_append_own _ rfl _ _ 23 rfl base 42 i0 (.int .u32 0) 1 4 Tryz.underlying23 hi hz0 hz1 hz2 rfl (by decide) _ _ _ rfl (hop.alloc _) ⟨wr.heap.size, 0, none⟩ 1 1 [.int .u32 r] rfl rfl (cell_one_new _ _ _) (by simp [Value.oneCell']) (by unfold maxLen; omega) (by omega) (by simp; omega) ?_)
          intro v3 w3 op3 hg3 _
          have hb3 : Below base w w3 := (hb.alloc (by omega) _).grown hg3 (by simp; omega) (fun g2 hg2 => by have := hop.lt g2 hg2; omega)
          have HPP : Hid (w3.ownsRow base 42 1 v3 (us ++ [r]).length ((us ++ [r]).map (Value.int .u32))) := by
            show World.ownsRow _ _ _ _ _ _ _
            rw [HM.out, List.length_append, List.length_singleton, HU.out]
            exact op3
          clear op3 hg3 hop
          go_wp2
          go_ret
          exact ⟨v3, us ++ [r], rfl, HPP.out, hwu.append (Wd.one ⟨r0, r1⟩), by rw [List.length_append, HU.out]; simp, by rw [val_snoc]; exact HV'.out, hb3⟩
end Go.Proofs.YtomdkingdniohaaGreatDoor

/- nat.join, nat.Parse: the number of digits, piece by piece, in new memory; every text read, or its error. -/
namespace Go.Proofs.YtomdkingdniohaaGreatDoor
open Go.RowKit
set_option linter.unusedVariables false

theorem list_size (s : ByteArray) {l : List UInt8} (h : s.data.toList = l) : s.size = l.length := by rw [← h]; exact (size_list s).symm

theorem extract_list (s : ByteArray) (i j : Nat) : (s.extract i j).data.toList = (s.data.toList.drop i).take (j - i) := by
  rw [ByteArray.data_extract, Array.toList_extract, List.extract_eq_take_drop]
theorem numTo_take (l : List UInt8) (n : Nat) : numTo (l.take n) n = numTo l n :=
  numTo_congr _ _ _ (fun j hj => by rw [List.getElem?_take, if_pos hj])
theorem numTo_piece (l : List UInt8) (m n k : Nat) (t : Int) (ht : t = numTo l m) (h : m = 0 ∨ k % 9 = 0) (hn : n = (k - 1) % 9 + 1) (hk : 0 < k) : t * 1000000000 + numTo (l.drop m) n = numTo l (m + n) := by
  rw [numTo_add, ht]
  rcases h with h | h
  · rw [h]; simp [numTo]
  · have : n = 9 := by omega
    rw [this]; rfl

set_option maxHeartbeats 3200000 in
set_option maxRecDepth 100000 in
theorem join_any (s : ByteArray) (w : World) (hs : s.size ≤ 65536) (hd : Dg s.data.toList) :
    Calls Tryz.prog 56 #[.string s] w fun e w' => ∃ (v : Value) (zs : List Int), e = .returned v ∧ w'.ownsRow w.heap.size 42 1 v zs.length (zs.map (Value.int .u32)) ∧ Wd zs ∧ zs.length ≤ s.size ∧ val zs = numTo s.data.toList s.size ∧ Below w.heap.size w w' := by
  have HD := hid hd
  have HL := hid (size_list s)
  clear hd
  go_enter Tryz.func56, Tryz.ntmps56
  go_wp2_with fail
  go_loopg [0, 3] s.size (fun k t v wr => ∃ (m : Nat) (s' : ByteArray) (ys : List Int), t = .string s' ∧ m + k = s.size ∧ s'.size = k ∧ Hid (s'.data.toList = s.data.toList.drop m) ∧ wr.ownsRow w.heap.size 42 1 v ys.length (ys.map (Value.int .u32)) ∧ Wd ys ∧ ys.length ≤ m ∧
    Hid (val ys = numTo s.data.toList m) ∧ Hid (m = 0 ∨ k % 9 = 0) ∧ Below w.heap.size w wr)
  case atStart => exact ⟨0, s, [], rfl, by omega, rfl, show _ = _ by simp, World.ownsRow_nil _ _ _ _, Wd.nil, by simp, show _ = _ by simp [val, valTo, numTo], .inl rfl, Below.refl _ _⟩
  case round =>
    obtain ⟨m, s', ys, rfl, hmk, hsz, HS, hop, hwy, hly, HV, HN, hb⟩ := hrel
    by_cases h0 : s'.size = 0
    · have hse : s' = ⟨#[]⟩ := by
        obtain ⟨d⟩ := s'
        have : d = #[] := Array.eq_empty_of_size_eq_zero h0
        rw [this]
      subst hse
      have hm : m = s.size := by omega
      have HV' : Hid (val ys = numTo s.data.toList s.size) := by show _ = _; rw [HV.out, hm]
      have HO := hid hop
      clear hop HS h0
      go_wp2_with fail
      go_ret
      exact ⟨_, ys, rfl, HO.out, hwy, by omega, HV'.out, hb⟩
    · have hp : 0 < s'.size := by omega
      have hem : s'.toList.isEmpty = false := by
        rw [ByteArray.toList_eq]
        have hl := size_list s'
        cases hx : s'.data.toList with
        | nil => rw [hx] at hl; simp at hl; omega
        | cons _ _ => rfl
      have hen : ¬ s'.toList = [] := fun e => by rw [e] at hem; simp at hem
      have hl1 : (s'.extract 0 ((gk - 1) % 9 + 1)).data.toList = (s.data.toList.drop m).take ((gk - 1) % 9 + 1) := by rw [extract_list, HS.out]; simp
      have hl2 : (s'.extract ((gk - 1) % 9 + 1) gk).data.toList = s.data.toList.drop (m + ((gk - 1) % 9 + 1)) := by
        rw [extract_list, HS.out, List.drop_drop, List.take_of_length_le (by rw [List.length_drop, HL.out]; omega)]
      have z1 : (s'.extract 0 ((gk - 1) % 9 + 1)).size = (gk - 1) % 9 + 1 := by
        rw [list_size _ hl1, List.length_take, List.length_drop, HL.out]; omega
      have z2 : (s'.extract ((gk - 1) % 9 + 1) gk).size = gk - ((gk - 1) % 9 + 1) := by
        rw [list_size _ hl2, List.length_drop, HL.out]; omega
      have hdg : Dg (s'.extract 0 ((gk - 1) % 9 + 1)).data.toList := by rw [hl1]; exact (HD.out.drop _).take _
      have hnum : numTo (s'.extract 0 ((gk - 1) % 9 + 1)).data.toList (s'.extract 0 ((gk - 1) % 9 + 1)).size = numTo (s.data.toList.drop m) ((gk - 1) % 9 + 1) := by
        rw [z1, hl1, numTo_take]
      have hpc := numTo_piece s.data.toList m ((gk - 1) % 9 + 1) gk _ HV.out HN.out rfl (by omega)
      have hbd := numTo_bounds (HD.out.drop m) ((gk - 1) % 9 + 1)
      have hp9 : (10 : Int) ^ ((gk - 1) % 9 + 1) ≤ 10 ^ 9 := by
        have h9 : (gk - 1) % 9 + 1 ≤ 9 := by omega
        generalize (gk - 1) % 9 + 1 = q at h9
        obtain ⟨d, hd⟩ : ∃ d, 9 = q + d := ⟨9 - q, by omega⟩
        rw [hd, Int.pow_add]
        have h1 : (0 : Int) < 10 ^ q := Int.pow_pos (by decide)
        have h2 : (0 : Int) < 10 ^ d := Int.pow_pos (by decide)
        have h3 : (10 : Int) ^ q * 1 ≤ 10 ^ q * 10 ^ d := Int.mul_le_mul_of_nonneg_left (by omega) (by omega)
        omega
      have HW := hid (wordOf_any (s'.extract 0 ((gk - 1) % 9 + 1)) wr (by rw [z1]; omega) hdg)
      rw [hnum] at HW
      obtain ⟨x, hx⟩ : ∃ x, x = numTo (s.data.toList.drop m) ((gk - 1) % 9 + 1) := ⟨_, rfl⟩
      rw [← hx] at HW hpc hbd
      have hx0 := hbd.1
      have hx1 : x ≤ 4294967295 := by have := hbd.2; omega
      have hbs := hb.size
      have HT := hid (timesPiece_any w.heap.size _ u3 ys x wr hop hwy (by omega) ⟨hx0, hx1⟩ hbs)
      have HPC := hid hpc
      have HL2 := hid hl2
      have HN' : Hid (m + ((gk - 1) % 9 + 1) = 0 ∨ (gk - ((gk - 1) % 9 + 1)) % 9 = 0) := by right; omega
      clear hop hx hl1 hl2 z1 hdg hnum hpc hbd hp9 HV HN HS
      go_wp2_with fail
      refine Calls.mono HW.out ?_
      rintro e w1 ⟨rfl, rfl⟩
      go_wp2_with fail
      refine Calls.mono HT.out ?_
      rintro e w2 ⟨v2, zs, rfl, ho2, hwz, hlz, hvz, hb2⟩
      have HO2 := hid ho2
      have HV2 : Hid (val zs = numTo s.data.toList (m + ((gk - 1) % 9 + 1))) := by show _ = _; rw [hvz]; exact HPC.out
      clear ho2 hvz HT HW HPC
      go_wp2_with fail
      go_roundg (gk - ((gk - 1) % 9 + 1))
      case measure => omega
      case rel => exact ⟨m + ((gk - 1) % 9 + 1), _, zs, rfl, by omega, z2, HL2, HO2.out, hwz, by omega, HV2, HN', hb.trans hb2⟩

set_option maxHeartbeats 800000 in
set_option maxRecDepth 100000 in
theorem told_own (base n : Nat) (v : Value) (ys : List Int) (w : World) (ho : w.ownsRow base 42 1 v n (ys.map (Value.int .u32))) (hw : Wd ys) (hN : n ≤ 1099511627776) :
    Calls Tryz.prog 55 #[v] w fun e w' => ∃ v zs code, e = .returned (.tuple #[v, .int .i64 code]) ∧ w.ownsRow base 42 1 v zs.length (zs.map (Value.int .u32)) ∧ Tells 0 (val ys) zs code ∧ w = w' := by
  have hlen : ys.length = n := by have := ho.1; simpa using this
  have sx := sz_le ys
  rw [hlen] at sx
  have HT := hid (Tells.told hw)
  rcases ho.2 with ⟨rfl, rfl⟩ | ⟨g, cap, cur, rfl, hrest⟩
  · have hy : ys = [] := List.eq_nil_of_length_eq_zero hlen
    subst hy
    rw [if_neg (by simp [sz, szTo]), if_neg (by simp [sz, szTo])] at HT
    have HZ := hid (size_any none 0 0 [] w.heap.size w (by obtain ⟨a, cap, hv, hr⟩ := Reads.own ho hw; simp only [Value.slice.injEq] at hv; obtain ⟨rfl, _, rfl⟩ := hv; exact hr) (by omega))
    clear ho
    go_enter Tryz.func55, Tryz.ntmps55
    go_wp2_with fail
    refine Calls.mono HZ.out ?_
    rintro e w' ⟨rfl, rfl⟩
    rw [show sz [] = 0 from rfl]
    go_wp2
    go_ret2
    exact ⟨_, [], _, rfl, World.ownsRow_nil _ _ _ _, HT.out, rfl⟩
  · have ho' : OwnC w base g n cap ys := ho
    have hcap := ho'.cap
    have hcp1 := hcap.1
    have hcp2 : cap ≤ 9223372036854775807 := by have := hcap.2; unfold maxLen at this; omega
    have hr : Reads w w.heap.size (some ⟨g, 0, none⟩) n cap ys := by
      obtain ⟨a, cap, hv, hr⟩ := Reads.own ho' hw
      simp only [Value.slice.injEq] at hv
      obtain ⟨rfl, _, rfl⟩ := hv
      exact hr
    by_cases hs : 8192 < sz ys
    · rw [if_pos hs, if_pos hs] at HT
      have hsi : (8192 : Int) < (sz ys : Int) := by omega
      clear hlen hrest hcap
      go_enter Tryz.func55, Tryz.ntmps55
      go_wp2_with fail
      refine (size_any _ _ _ ys _ _ hr (by omega)).mono ?_
      rintro e w' ⟨rfl, rfl⟩
      go_wp2
      go_ret2
      exact ⟨_, [], _, rfl, World.ownsRow_nil _ _ _ _, HT.out, rfl⟩
    · rw [if_neg hs, if_neg hs] at HT
      have hsi : (sz ys : Int) ≤ 8192 := by omega
      have HO := hid (owns_len (ho'.take (sz ys) sx))
      clear hlen hrest hcap
      go_enter Tryz.func55, Tryz.ntmps55
      go_wp2_with fail
      refine (size_any _ _ _ ys _ _ hr (by omega)).mono ?_
      rintro e w' ⟨rfl, rfl⟩
      go_wp2
      go_ret2
      exact ⟨_, _, _, rfl, HO.out, HT.out, rfl⟩

open Classical in
/-- Parse's error, of a text. -/
noncomputable def pErr (s : ByteArray) : Int := if 65536 < s.size then 3 else if IsNum s.data.toList then 0 else 110

open Classical in
set_option maxHeartbeats 1600000 in
set_option maxRecDepth 100000 in
theorem parse_any (s : ByteArray) (w : World) (hs : s.size ≤ maxLen) :
    Calls Tryz.prog 32 #[.string s] w (Told w (pErr s) (numTo s.data.toList s.size)) := by
  unfold maxLen at hs
  by_cases h1 : 65536 < s.size
  · have HE : Hid (pErr s = 3) := by show _ = _; unfold pErr; rw [if_pos h1]
    have HT := hid (Tells.err (t := numTo s.data.toList s.size) (e := 3) (by decide))
    rw [HE.out]
    go_enter Tryz.func32, Tryz.ntmps32
    go_wp2_with fail
    go_ret2
    exact ⟨_, [], _, rfl, World.ownsRow_nil _ _ _ _, HT.out, Below.refl _ _⟩
  · have h2 : s.size ≤ 65536 := by omega
    by_cases hnum : IsNum s.data.toList
    · have HE : Hid (pErr s = 0) := by show _ = _; unfold pErr; rw [if_neg h1, if_pos hnum]
      have HI := hid (isNumber_any s w h2)
      rw [decide_eq_true hnum] at HI
      have HJ := hid (join_any s w h2 hnum.2.2)
      rw [HE.out]
      clear h1 hnum
      go_enter Tryz.func32, Tryz.ntmps32
      go_wp2_with fail
      refine Calls.mono HI.out ?_
      rintro e w' ⟨rfl, rfl⟩
      go_wp2_with fail
      refine Calls.mono HJ.out ?_
      rintro e w1 ⟨v, zs, rfl, ho, hwz, hlz, hvz, hb⟩
      have HT := hid (told_own _ _ v zs w1 ho hwz (by omega))
      clear ho
      go_wp2_with fail
      refine Calls.mono HT.out ?_
      rintro e w2 ⟨v2, us, code, rfl, ho2, ht2, rfl⟩
      rw [hvz] at ht2
      have HO2 := hid ho2
      have HT2 := hid ht2
      clear ho2 ht2 hvz
      go_wp2
      go_ret2
      exact ⟨_, us, code, rfl, HO2.out, HT2.out, hb⟩
    · have HE : Hid (pErr s = 110) := by show _ = _; unfold pErr; rw [if_neg h1, if_neg hnum]
      have HI := hid (isNumber_any s w h2)
      rw [decide_eq_false hnum] at HI
      have HT := hid (Tells.err (t := numTo s.data.toList s.size) (e := 110) (by decide))
      rw [HE.out]
      clear h1 hnum
      go_enter Tryz.func32, Tryz.ntmps32
      go_wp2_with fail
      refine Calls.mono HI.out ?_
      rintro e w' ⟨rfl, rfl⟩
      go_wp2_with fail
      go_ret2
      exact ⟨_, [], _, rfl, World.ownsRow_nil _ _ _ _, HT.out, Below.refl _ _⟩
end Go.Proofs.YtomdkingdniohaaGreatDoor

/- What the laws' own example says. -/
namespace Go.Proofs.YtomdkingdniohaaGreatDoor
open Go.RowKit
set_option linter.unusedVariables false

theorem digits_ex : Lib.decDigits 4294967296 = [52, 50, 57, 52, 57, 54, 55, 50, 57, 54] := by simp [Lib.decDigits]

end Go.Proofs.YtomdkingdniohaaGreatDoor

/- The law NatBack answers true, and writes nothing that was there: whatever list and text come in, where the library's table of powers of ten stands as its text lays it. -/
namespace Go.Proofs.YtomdkingdniohaaGreatDoor
open Go.RowKit Go.Lib
set_option linter.unusedVariables false

theorem numTo_snoc (l : List UInt8) (c : UInt8) : numTo (l ++ [c]) (l.length + 1) = numTo l l.length * 10 + ((c.toNat : Int) - 48) := by
  show numTo (l ++ [c]) l.length * 10 + _ = _
  rw [numTo_congr (l ++ [c]) l l.length (fun j hj => by rw [List.getElem?_append_left hj])]
  simp
theorem toNat_digit (d : Nat) (h : d < 10) : (UInt8.ofNat (48 + d)).toNat = 48 + d := by
  rw [UInt8.toNat_ofNat']; omega
theorem Dg.snoc {l : List UInt8} (h : Dg l) {c : UInt8} (hc : 48 ≤ (c.toNat : Int) ∧ (c.toNat : Int) ≤ 57) : Dg (l ++ [c]) := fun x hx => by
  rcases List.mem_append.1 hx with hx | hx
  · exact h x hx
  · simp at hx; rw [hx]; exact hc
theorem isNum_dec : ∀ n : Nat, IsNum (decDigits n) ∧ numTo (decDigits n) (decDigits n).length = n ∧ (0 < n → ¬ (decDigits n)[0]?.getD 0 = 48)
  | n => by
    by_cases h : n < 10
    · rw [decDigits_one h]
      have e := toNat_digit n h
      refine ⟨⟨by simp, fun _ => by simp, fun c hc => ?_⟩, ?_, fun h0 => ?_⟩
      · rw [List.mem_singleton.1 hc, e]; omega
      · show (0 : Int) * 10 + (((UInt8.ofNat (48 + n)).toNat : Int) - 48) = n
        rw [e]; omega
      · intro e2
        have e2 : UInt8.ofNat (48 + n) = 48 := e2
        rw [e2] at e
        have : (48 : UInt8).toNat = 48 := rfl
        omega
    · obtain ⟨⟨h1, h2, h3⟩, h4, h5⟩ := isNum_dec (n / 10)
      have e := toNat_digit (n % 10) (by omega)
      rw [decDigits, dif_neg h]
      have h6 := h5 (by omega)
      have hz : (decDigits (n / 10) ++ [UInt8.ofNat (48 + n % 10)])[0]?.getD 0 = (decDigits (n / 10))[0]?.getD 0 := by rw [List.getElem?_append_left h1]
      refine ⟨⟨by simp, fun e2 => ?_, h3.snoc (by rw [e]; omega)⟩, ?_, fun _ => by rw [hz]; exact h6⟩
      · rw [hz] at e2; exact absurd e2 h6
      · rw [List.length_append, List.length_singleton, numTo_snoc, h4, e]; omega
theorem num_pos (l : List UInt8) (hd : Dg l) (h0 : ¬ l[0]?.getD 0 = 48) (hp : 0 < l.length) : ∀ k, 1 ≤ numTo l (k + 1)
  | 0 => by
    show 1 ≤ (0 : Int) * 10 + (((l[0]?.getD 48).toNat : Int) - 48)
    rw [List.getElem?_eq_getElem hp] at h0 ⊢
    have h1 := hd _ (List.getElem_mem hp)
    have h2 : ¬ (l[0].toNat : Int) = 48 := fun e => h0 (UInt8.toNat_inj.1 (by show l[0].toNat = 48; omega))
    simp only [Option.getD_some]
    omega
  | k + 1 => by
    have ih := num_pos l hd h0 hp k
    have hb := numTo_bounds hd (k + 1)
    show 1 ≤ numTo l (k + 1) * 10 + (((l[k + 1]?.getD 48).toNat : Int) - 48)
    have hc : 48 ≤ ((l[k + 1]?.getD 48).toNat : Int) := by
      by_cases hk : k + 1 < l.length
      · rw [List.getElem?_eq_getElem hk]; exact (hd _ (List.getElem_mem hk)).1
      · rw [List.getElem?_eq_none (by omega)]; decide
    omega
theorem dec_num : ∀ (k : Nat) (l : List UInt8), l.length = k + 1 → IsNum l → decDigits (numTo l l.length).toNat = l
  | 0, l, hl, h => by
    obtain ⟨c, rfl⟩ := List.length_eq_one_iff.1 hl
    have hc := h.2.2 c (by simp)
    have e : numTo [c] [c].length = (c.toNat : Int) - 48 := by simp [numTo]
    rw [e, decDigits_one (by omega)]
    congr 1
    refine UInt8.toNat_inj.1 ?_
    rw [toNat_digit _ (by omega)]; omega
  | k + 1, l, hl, h => by
    have hne : l ≠ [] := fun e => by rw [e] at hl; simp at hl
    obtain ⟨l', c, rfl⟩ : ∃ l' c, l = l' ++ [c] := ⟨l.dropLast, l.getLast hne, (List.dropLast_concat_getLast hne).symm⟩
    have hl' : l'.length = k + 1 := by simp at hl; exact hl
    have hd' : Dg l' := fun x hx => h.2.2 x (List.mem_append_left _ hx)
    have hc := h.2.2 c (by simp)
    have h0 : ¬ l'[0]?.getD 0 = 48 := fun e => by
      have := h.2.1 (by rw [List.getElem?_append_left (by omega)]; exact e)
      omega
    have hn : IsNum l' := ⟨by omega, fun e => absurd e h0, hd'⟩
    have ih := dec_num k l' hl' hn
    have hp := num_pos l' hd' h0 (by omega) k
    rw [← hl'] at hp
    rw [List.length_append, List.length_singleton, numTo_snoc]
    obtain ⟨q, hq⟩ : ∃ q : Nat, numTo l' l'.length = q := ⟨(numTo l' l'.length).toNat, by omega⟩
    rw [hq] at ih hp ⊢
    rw [decDigits, dif_neg (by omega)]
    have e1 : ((q : Int) * 10 + ((c.toNat : Int) - 48)).toNat / 10 = q := by omega
    have e2 : ((q : Int) * 10 + ((c.toNat : Int) - 48)).toNat % 10 = c.toNat - 48 := by omega
    rw [e1, e2]
    have ih : decDigits q = l' := ih
    rw [ih]
    congr 2
    refine UInt8.toNat_inj.1 ?_
    rw [toNat_digit _ (by omega)]; omega
theorem nDigits_le : ∀ (k n : Nat), n < 10 ^ (k + 1) → nDigits n ≤ k + 1
  | k, n, h => (pad_eq k n h).2
theorem digits_few {x : Int} {L : Nat} (h0 : 0 ≤ x) (h : x < 4294967296 ^ L) : nDigits x.toNat ≤ 10 * L + 1 := by
  refine nDigits_le _ _ ?_
  have h1 : (4294967296 : Int) ^ L ≤ 10 ^ (10 * L) := by
    have e : (4294967296 : Nat) ^ L ≤ (10 ^ 10) ^ L := Nat.pow_le_pow_left (by decide) _
    rw [← Nat.pow_mul] at e
    have := Int.ofNat_le.2 e
    rw [Int.natCast_pow, Int.natCast_pow] at this
    exact this
  have h2 : x < 10 ^ (10 * L) := by omega
  have h3 : (x.toNat : Int) < ((10 ^ (10 * L) : Nat) : Int) := by rw [Int.natCast_pow]; rw [Int.toNat_of_nonneg h0]; exact h2
  have h4 := Int.ofNat_lt.1 h3
  have h5 : (10 : Nat) ^ (10 * L) ≤ 10 ^ (10 * L + 1) := Nat.pow_le_pow_right (by decide) (by omega)
  omega

open Classical in
/-- Whether the first k signs are digits, the text not being empty, and without a nought ahead. -/
noncomputable def rightTo (l : List UInt8) (k : Nat) : Bool := decide (0 < l.length ∧ (l[0]?.getD 0 = 48 → l.length ≤ 1) ∧ ∀ j : Nat, j < k → 48 ≤ ((l[j]?.getD 0).toNat : Int) ∧ ((l[j]?.getD 0).toNat : Int) ≤ 57)
open Classical in
theorem rightTo_all (l : List UInt8) : rightTo l l.length = decide (IsNum l) := by
  unfold rightTo
  by_cases h : IsNum l
  · rw [decide_eq_true h]
    refine decide_eq_true ⟨h.1, h.2.1, fun j hj => ?_⟩
    rw [List.getElem?_eq_getElem hj]; exact h.2.2 _ (List.getElem_mem hj)
  · rw [decide_eq_false h]
    refine decide_eq_false (fun g => h ⟨g.1, g.2.1, fun c hc => ?_⟩)
    obtain ⟨j, hj, e⟩ := mem_at hc
    have := g.2.2 j hj
    rw [e] at this
    exact this
theorem rightTo_no {l : List UInt8} {k : Nat} (h : rightTo l k = false) : rightTo l (k + 1) = false := by
  unfold rightTo at h ⊢
  have := of_decide_eq_false h
  exact decide_eq_false (fun g => this ⟨g.1, g.2.1, fun j hj => g.2.2 j (by omega)⟩)
theorem rightTo_bad {l : List UInt8} {k : Nat} {c : UInt8} (h : l[k]? = some c) (hc : ¬ (48 ≤ (c.toNat : Int) ∧ (c.toNat : Int) ≤ 57)) : rightTo l (k + 1) = false := by
  unfold rightTo
  refine decide_eq_false (fun g => hc ?_)
  have := g.2.2 k (by omega)
  rw [h] at this
  exact this
theorem rightTo_good {l : List UInt8} {k : Nat} {c : UInt8} (hr : rightTo l k = true) (h : l[k]? = some c) (hc : 48 ≤ (c.toNat : Int) ∧ (c.toNat : Int) ≤ 57) : rightTo l (k + 1) = true := by
  unfold rightTo at hr ⊢
  have g := of_decide_eq_true hr
  refine decide_eq_true ⟨g.1, g.2.1, fun j hj => ?_⟩
  by_cases e : j = k
  · rw [e, h]; exact hc
  · exact g.2.2 j (by omega)
end Go.Proofs.YtomdkingdniohaaGreatDoor

/- Whole numbers as texts: whole.Print, strings.CutPrefix by a minus, whole.Parse. -/
namespace Go.Proofs.YtomdkingdniohaaGreatDoor
open Go.RowKit Go.Lib
set_option linter.unusedVariables false

theorem wdec_len : ∀ (k n : Nat), n < 10 ^ (k + 1) → (decDigits n).length ≤ k + 1
  | 0, n, h => by rw [decDigits_one (by simpa using h)]; simp
  | k + 1, n, h => by
    by_cases c : n < 10
    · rw [decDigits_one c]; simp
    · have ih := wdec_len k (n / 10) (by rw [Nat.pow_succ] at h; omega)
      rw [decDigits, dif_neg c, List.length_append, List.length_singleton]
      omega
theorem ten_pow (m : Nat) : (4294967296 : Int) ^ m ≤ 10 ^ (10 * m) := by
  induction m with
  | zero => simp
  | succ m ih =>
    rw [pw_succ, show 10 * (m + 1) = 10 * m + 10 by omega, Int.pow_add]
    have p := pw_pos m
    have e : (10 : Int) ^ 10 = 10000000000 := by decide
    rw [e]
    omega
theorem dec_short' {xs : List Int} (hw : Wd xs) (m : Nat) (hl : xs.length ≤ m) : (decDigits (val xs).toNat).length ≤ 10 * m + 1 := by
  have h1 := val_lt hw
  have h2 : (4294967296 : Int) ^ xs.length ≤ 4294967296 ^ m := pw_le hl
  have h3 := ten_pow m
  have h0 := val_nonneg hw
  have h4 : val xs < 10 ^ (10 * m) := Int.lt_of_lt_of_le h1 (Int.le_trans h2 h3)
  have h6 : (10 : Int) ^ (10 * m + 1) = 10 ^ (10 * m) * 10 := Int.pow_succ _ _
  have h7 : (0 : Int) < 10 ^ (10 * m) := Int.pow_pos (by decide)
  have h5 : (((val xs).toNat : Nat) : Int) < ((10 ^ (10 * m + 1) : Nat) : Int) := by
    rw [Int.toNat_of_nonneg h0, Int.natCast_pow]
    show _ < (10 : Int) ^ (10 * m + 1)
    rw [h6]; omega
  exact wdec_len (10 * m) _ (Int.ofNat_lt.1 h5)
theorem dec_short {xs : List Int} (hw : Wd xs) (hl : xs.length ≤ 2048) : (decDigits (val xs).toNat).length ≤ 20481 := by
  have := dec_short' hw 2048 hl
  omega
theorem ten_le (k : Nat) : (10 : Int) ^ k ≤ 4294967296 ^ k := by
  induction k with
  | zero => simp
  | succ k ih =>
    rw [Int.pow_succ, pw_succ]
    have p := pw_pos k
    omega

/-- The text of a whole number. -/
def wtext (n : Bool) (xs : List Int) : List UInt8 := (if n then [45] else []) ++ decDigits (val xs).toNat

set_option maxHeartbeats 1600000 in
set_option maxRecDepth 100000 in
theorem wprint_any (n : Bool) (v : Value) (xs : List Int) (w : World) (h : Sl w v xs) (hx : wchk n xs = 0) (htab : Tab w) :
    Calls Tryz.prog 12 #[.agg #[.bool n, v]] w fun e w' => ∃ T : ByteArray, e = .returned (.tuple #[.string T, .int .i64 0]) ∧ T.data.toList = wtext n xs ∧ Below w.heap.size w w' := by
  obtain ⟨lx, tx, _⟩ := wchk_ok hx
  have wx := h.wd
  have HB := hid (alloc_later w (.cells #[.bool n, v] 25))
  have HX := hid (Box.made w 25 #[.bool n, v])
  have HC := hid (wcheck_any n v xs _ (h.later HB.out) (by omega))
  rw [hx] at HC
  have HP := hid (fun w1 (hb : Below (w.alloc (.cells #[.bool n, v] 25)).heap.size (w.alloc (.cells #[.bool n, v] 25)) w1) => print_any v xs w1 ((h.later HB.out).later hb) (by omega) (htab.later (bt HB.out hb)))
  rw [chk_good (by omega) tx, if_pos rfl] at HP
  obtain ⟨D, hD⟩ : ∃ D : ByteArray, D = ⟨(decDigits (val xs).toNat).toArray⟩ := ⟨_, rfl⟩
  have hds : D.size ≤ 20481 := by
    have e : D.size = (decDigits (val xs).toNat).length := by rw [hD]; exact (size_list _).symm
    rw [e]; exact dec_short wx lx
  have HDL : Hid (D.data.toList = decDigits (val xs).toNat) := by rw [hD]; rfl
  rw [← hD] at HP
  obtain ⟨a, cap, rfl, hr⟩ := h
  clear hr hD hx
  cases n with
  | false =>
    go_enter Tryz.func12, Tryz.ntmps12
    go_wp2_with fail
    refine Calls.mono HC.out ?_
    rintro e w1 ⟨rfl, hb1⟩
    obtain ⟨p0, p1, _, _⟩ := res_box HX.out hb1
    have HP1 := hid (HP.out w1 hb1)
    have HB1 := hid hb1
    clear hb1 HP
    go_wp2_with fail
    refine Calls.mono HP1.out ?_
    rintro e w2 ⟨rfl, hb2⟩
    obtain ⟨q0, q1, _, _⟩ := res_box HX.out (bt HB1.out hb2)
    have hbF := bt HB.out (bt HB1.out hb2)
    clear hb2 p0 p1
    go_wp2_with fail
    go_ret2
    exact ⟨D, rfl, HDL.out, hbF⟩
  | true =>
    go_enter Tryz.func12, Tryz.ntmps12
    go_wp2_with fail
    refine Calls.mono HC.out ?_
    rintro e w1 ⟨rfl, hb1⟩
    obtain ⟨p0, p1, _, _⟩ := res_box HX.out hb1
    have HP1 := hid (HP.out w1 hb1)
    have HB1 := hid hb1
    clear hb1 HP
    go_wp2_with fail
    refine Calls.mono HP1.out ?_
    rintro e w2 ⟨rfl, hb2⟩
    obtain ⟨q0, q1, _, _⟩ := res_box HX.out (bt HB1.out hb2)
    have hbF := bt HB.out (bt HB1.out hb2)
    clear hb2 p0 p1
    go_wp2_with fail
    go_ret2
    refine ⟨_, rfl, ?_, hbF⟩
    show _ = 45 :: decDigits (val xs).toNat
    rw [← HDL.out]
    simp

theorem cut_minus (s : ByteArray) (w : World) (hs : s.size ≤ 65536) :
    Calls Tryz.prog 53 #[.string s, .string ⟨#[45]⟩] w fun e w' => ∃ (T : ByteArray) (b : Bool), e = .returned (.tuple #[.string T, .bool b]) ∧ b = decide (s.data.toList[0]? = some 45) ∧ T.data.toList = (if b then s.data.toList.drop 1 else s.data.toList) ∧ w = w' := by
  have HH := hid (Tryz.stringslite_HasPrefix s ⟨#[45]⟩ w)
  have e0 : Lib.hasPrefix s.data.toList (⟨#[45]⟩ : ByteArray).data.toList = decide (s.data.toList[0]? = some 45) := by
    cases hl : s.data.toList with
    | nil => simp [Lib.hasPrefix]
    | cons c l =>
      by_cases hc : c = 45
      · subst hc; simp [Lib.hasPrefix, List.isPrefixOf]
      · have hc' : ¬ (45 : UInt8) = c := fun e => hc e.symm
        simp [Lib.hasPrefix, List.isPrefixOf, hc, hc']
  rw [e0] at HH
  by_cases c : s.data.toList[0]? = some 45
  · have hd : decide (s.data.toList[0]? = some 45) = true := decide_eq_true c
    rw [hd] at HH ⊢
    have h1 : 1 ≤ s.size := by
      rw [← size_list]
      by_cases z : s.data.toList.length = 0
      · rw [List.getElem?_eq_none (by omega)] at c; cases c
      · omega
    have HX := hid (extract_list s 1 s.size)
    clear c hd e0
    go_enter Tryz.func53, Tryz.ntmps53
    go_wp2_with fail
    refine Calls.mono HH.out ?_
    rintro e w' ⟨rfl, rfl⟩
    go_wp2_with fail
    go_ret2
    refine ⟨_, true, rfl, rfl, ?_, rfl⟩
    rw [if_pos rfl, HX.out, List.take_of_length_le (by rw [List.length_drop, size_list]; omega)]
  · have hd : decide (s.data.toList[0]? = some 45) = false := decide_eq_false c
    rw [hd] at HH ⊢
    clear c hd e0
    go_enter Tryz.func53, Tryz.ntmps53
    go_wp2_with fail
    refine Calls.mono HH.out ?_
    rintro e w' ⟨rfl, rfl⟩
    go_wp2_with fail
    go_ret2
    exact ⟨s, false, rfl, rfl, rfl, rfl⟩

theorem cutPrefix_minus (s : ByteArray) (w : World) (hs : s.size ≤ 65536) :
    Calls Tryz.prog 31 #[.string s, .string ⟨#[45]⟩] w fun e w' => ∃ (T : ByteArray) (b : Bool), e = .returned (.tuple #[.string T, .bool b]) ∧ b = decide (s.data.toList[0]? = some 45) ∧ T.data.toList = (if b then s.data.toList.drop 1 else s.data.toList) ∧ w = w' := by
  have HH := hid (cut_minus s w hs)
  go_enter Tryz.func31, Tryz.ntmps31
  go_wp2_with fail
  refine Calls.mono HH.out ?_
  rintro e w' ⟨T, b, rfl, h1, h2, rfl⟩
  have HR := hid (And.intro h1 h2)
  clear h1 h2
  go_wp2_with fail
  go_ret2
  exact ⟨T, b, rfl, HR.out.1, HR.out.2, rfl⟩
/-- What stands behind a minus. -/
def wdig (b : Bool) (l : List UInt8) : List UInt8 := if b then l.drop 1 else l
def wneg (s : ByteArray) : Bool := decide (s.data.toList[0]? = some 45)
def wnum (s : ByteArray) : Int := numTo (wdig (wneg s) s.data.toList) (wdig (wneg s) s.data.toList).length
open Classical in
/-- Parse's error, of a text. -/
noncomputable def wpErr (s : ByteArray) : Int := if 65536 < s.size then 3 else if IsNum (wdig (wneg s) s.data.toList) ∧ (wneg s = false ∨ 0 < wnum s) then 0 else 120
theorem pErr_ok (s : ByteArray) (hs : s.size ≤ 65536) (h : IsNum s.data.toList) : pErr s = 0 := by unfold pErr; rw [if_neg (by omega), if_pos h]
theorem pErr_not (s : ByteArray) (hs : s.size ≤ 65536) (h : ¬ IsNum s.data.toList) : pErr s = 110 := by unfold pErr; rw [if_neg (by omega), if_neg h]

set_option maxHeartbeats 3200000 in
set_option maxRecDepth 100000 in
theorem wparse_any (s : ByteArray) (w : World) (hs : s.size ≤ 65536) :
    Calls Tryz.prog 13 #[.string s] w (WTold w (wpErr s) (sg (wneg s) (wnum s))) := by
  have HB := hid (alloc_later w (.cells #[.bool false, .slice none 0 0] 25))
  have HXB := hid (Box.made w 25 #[.bool false, .slice none 0 0])
  have HCP := hid (cutPrefix_minus s (w.alloc (.cells #[.bool false, .slice none 0 0] 25)) hs)
  obtain ⟨bw, hbw⟩ : ∃ bw, decide (s.data.toList[0]? = some 45) = bw := ⟨_, rfl⟩
  have hw : wneg s = bw := hbw
  by_cases hN : IsNum (wdig bw s.data.toList)
  · have hn0 : 0 ≤ numTo (wdig bw s.data.toList) (wdig bw s.data.toList).length := (numTo_bounds hN.2.2 _).1
    have HN := hid hN
    have HN0 := hid hn0
    have hnum : wnum s = numTo (wdig bw s.data.toList) (wdig bw s.data.toList).length := by unfold wnum; rw [hw]
    cases bw with
    | false =>
      have HE : Hid (wpErr s = 0) := by show _ = _; unfold wpErr; rw [if_neg (by omega), if_pos ⟨by rw [hw]; exact hN, .inl hw⟩]
      rw [HE.out, hw, hnum]
      clear hN hn0 hw hnum HE
      go_enter Tryz.func13, Tryz.ntmps13
      go_wp2_with fail
      refine Calls.mono HCP.out ?_
      rintro e w' ⟨T, b, rfl, hbb, hTl, rfl⟩
      rw [hbw] at hbb
      subst hbb
      have hTs : T.size ≤ 65536 := by
        rw [← size_list, hTl]
        have := size_list s
        split
        · rw [List.length_drop]; omega
        · omega
      have HP := parse_any T (w.alloc (.cells #[.bool false, .slice none 0 0] 25)) (by unfold maxLen; omega)
      rw [pErr_ok T hTs (by rw [hTl]; exact HN.out)] at HP
      rw [show numTo T.data.toList T.size = numTo (wdig false s.data.toList) (wdig false s.data.toList).length by rw [← size_list, hTl]; rfl] at HP
      have HH := hid HP
      clear HP hTl hTs
      go_wp2_with fail
      refine Calls.mono HH.out ?_
      rintro e w2 ⟨v2, zs, code, rfl, o2, t2, hb2⟩
      obtain ⟨a2, c2, hv2⟩ := own_slice' o2
      subst hv2
      obtain ⟨m3, us, cc, e1, e2, wt⟩ := wtells_of (n := false) t2 HN0.out
      have HTD := hid (wtold_any false a2 zs.length c2 code w2 (tells_code t2))
      rw [e1 a2 c2] at HTD
      have HO2 := hid o2
      have HB1 := hid hb2
      have HWT := hid wt
      have HE2 := hid e2
      have HT2 := hid t2
      clear o2 hb2 e1 e2 wt t2 HH
      by_cases hcw : numTo (wdig false s.data.toList) (wdig false s.data.toList).length < wide
      · obtain rfl := (HT2.out.good rfl hcw).1
        clear hcw
        go_wp2_with fail
        refine Calls.mono HTD.out ?_
        rintro e w3 ⟨rfl, hb3⟩
        obtain ⟨r0, r1, f0, f1⟩ := res_box HXB.out (bt HB1.out hb3)
        have HO3 := hid (wtold_cut HWT.out HE2.out (owns_later HO2.out hb3))
        obtain ⟨a3, k3, c3, e3⟩ := cut_slice cc a2 zs.length c2
        rw [e3] at HO3 ⊢
        have HBC := hid (bt HB.out (bt HB1.out hb3))
        have HGE : Hid (∀ g, (Value.slice a3 k3 c3).ownBlock = some g → g ≠ w.heap.size) := fun g hg => by
          have h1 := (World.ownsRow.lt HO3.out g hg).1
          have h2 := HXB.out.lt
          omega
        clear hb3 e3
        go_wp2_with fail
        refine bodyPost_ret (v := .tuple #[.agg #[.bool m3, .slice a3 k3 c3], .int .i64 cc]) (by simp [results, Tryz.results13, go_sem, r0, r1]) rfl ?_
        exact ⟨m3, _, us, cc, rfl, owns_base (own_put2 HO3.out _ HGE.out _ _) (by have := HXB.out.lt; omega), HWT.out, below_put2 HBC.out _ (Nat.le_refl _) _ _⟩
      · obtain rfl := (HT2.out.long rfl (by omega)).1
        clear hcw
        go_wp2_with fail
        refine Calls.mono HTD.out ?_
        rintro e w3 ⟨rfl, hb3⟩
        obtain ⟨r0, r1, f0, f1⟩ := res_box HXB.out (bt HB1.out hb3)
        have HO3 := hid (wtold_cut HWT.out HE2.out (owns_later HO2.out hb3))
        obtain ⟨a3, k3, c3, e3⟩ := cut_slice cc a2 zs.length c2
        rw [e3] at HO3 ⊢
        have HBC := hid (bt HB.out (bt HB1.out hb3))
        have HGE : Hid (∀ g, (Value.slice a3 k3 c3).ownBlock = some g → g ≠ w.heap.size) := fun g hg => by
          have h1 := (World.ownsRow.lt HO3.out g hg).1
          have h2 := HXB.out.lt
          omega
        clear hb3 e3
        go_wp2_with fail
        refine bodyPost_ret (v := .tuple #[.agg #[.bool m3, .slice a3 k3 c3], .int .i64 cc]) (by simp [results, Tryz.results13, go_sem, r0, r1]) rfl ?_
        exact ⟨m3, _, us, cc, rfl, owns_base (own_put2 HO3.out _ HGE.out _ _) (by have := HXB.out.lt; omega), HWT.out, below_put2 HBC.out _ (Nat.le_refl _) _ _⟩
    | true =>
      by_cases hz : 0 < wnum s
      · have HE : Hid (wpErr s = 0) := by show _ = _; unfold wpErr; rw [if_neg (by omega), if_pos ⟨by rw [hw]; exact hN, .inr hz⟩]
        rw [HE.out, hw, hnum]
        rw [hnum] at hz
        have HZ := hid hz
        clear hN hn0 hw hnum HE hz
        go_enter Tryz.func13, Tryz.ntmps13
        go_wp2_with fail
        refine Calls.mono HCP.out ?_
        rintro e w' ⟨T, b, rfl, hbb, hTl, rfl⟩
        rw [hbw] at hbb
        subst hbb
        have hTs : T.size ≤ 65536 := by
          rw [← size_list, hTl]
          have := size_list s
          split
          · rw [List.length_drop]; omega
          · omega
        have HP := parse_any T (w.alloc (.cells #[.bool false, .slice none 0 0] 25)) (by unfold maxLen; omega)
        rw [pErr_ok T hTs (by rw [hTl]; exact HN.out)] at HP
        rw [show numTo T.data.toList T.size = numTo (wdig true s.data.toList) (wdig true s.data.toList).length by rw [← size_list, hTl]; rfl] at HP
        have HH := hid HP
        clear HP hTl hTs
        go_wp2_with fail
        refine Calls.mono HH.out ?_
        rintro e w2 ⟨v2, zs, code, rfl, o2, t2, hb2⟩
        obtain ⟨a2, c2, hv2⟩ := own_slice' o2
        subst hv2
        obtain ⟨m3, us, cc, e1, e2, wt⟩ := wtells_of (n := true) t2 HN0.out
        have HTD := hid (wtold_any true a2 zs.length c2 code w2 (tells_code t2))
        rw [e1 a2 c2] at HTD
        have HO2 := hid o2
        have HB1 := hid hb2
        have HWT := hid wt
        have HE2 := hid e2
        have HT2 := hid t2
        clear o2 hb2 e1 e2 wt t2 HH
        by_cases hcw : numTo (wdig true s.data.toList) (wdig true s.data.toList).length < wide
        · obtain ⟨rfl, hval⟩ := HT2.out.good rfl hcw
          have hzl : ((zs.length : Int) == 0) = false := by
            simp
            intro e
            rw [e, val_nil] at hval
            have := HZ.out
            omega
          clear hcw hval
          go_wp2_with fail
          refine Calls.mono HTD.out ?_
          rintro e w3 ⟨rfl, hb3⟩
          obtain ⟨r0, r1, f0, f1⟩ := res_box HXB.out (bt HB1.out hb3)
          have HO3 := hid (wtold_cut HWT.out HE2.out (owns_later HO2.out hb3))
          obtain ⟨a3, k3, c3, e3⟩ := cut_slice cc a2 zs.length c2
          rw [e3] at HO3 ⊢
          have HBC := hid (bt HB.out (bt HB1.out hb3))
          have HGE : Hid (∀ g, (Value.slice a3 k3 c3).ownBlock = some g → g ≠ w.heap.size) := fun g hg => by
            have h1 := (World.ownsRow.lt HO3.out g hg).1
            have h2 := HXB.out.lt
            omega
          clear hb3 e3
          go_wp2_with fail
          refine bodyPost_ret (v := .tuple #[.agg #[.bool m3, .slice a3 k3 c3], .int .i64 cc]) (by simp [results, Tryz.results13, go_sem, r0, r1]) rfl ?_
          exact ⟨m3, _, us, cc, rfl, owns_base (own_put2 HO3.out _ HGE.out _ _) (by have := HXB.out.lt; omega), HWT.out, below_put2 HBC.out _ (Nat.le_refl _) _ _⟩
        · obtain rfl := (HT2.out.long rfl (by omega)).1
          clear hcw
          go_wp2_with fail
          refine Calls.mono HTD.out ?_
          rintro e w3 ⟨rfl, hb3⟩
          obtain ⟨r0, r1, f0, f1⟩ := res_box HXB.out (bt HB1.out hb3)
          have HO3 := hid (wtold_cut HWT.out HE2.out (owns_later HO2.out hb3))
          obtain ⟨a3, k3, c3, e3⟩ := cut_slice cc a2 zs.length c2
          rw [e3] at HO3 ⊢
          have HBC := hid (bt HB.out (bt HB1.out hb3))
          have HGE : Hid (∀ g, (Value.slice a3 k3 c3).ownBlock = some g → g ≠ w.heap.size) := fun g hg => by
            have h1 := (World.ownsRow.lt HO3.out g hg).1
            have h2 := HXB.out.lt
            omega
          clear hb3 e3
          go_wp2_with fail
          refine bodyPost_ret (v := .tuple #[.agg #[.bool m3, .slice a3 k3 c3], .int .i64 cc]) (by simp [results, Tryz.results13, go_sem, r0, r1]) rfl ?_
          exact ⟨m3, _, us, cc, rfl, owns_base (own_put2 HO3.out _ HGE.out _ _) (by have := HXB.out.lt; omega), HWT.out, below_put2 HBC.out _ (Nat.le_refl _) _ _⟩
      · have HE : Hid (wpErr s = 120) := by
          show _ = _
          unfold wpErr
          rw [if_neg (by omega), if_neg (fun h => h.2.elim (fun e => by rw [hw] at e; cases e) hz)]
        have HWE : Hid (WTells 120 (sg (wneg s) (wnum s)) false [] 120) := WTells.err (by decide)
        rw [HE.out]
        rw [hnum] at hz
        have HZ : Hid (numTo (wdig true s.data.toList) (wdig true s.data.toList).length = 0) := by show _ = _; omega
        clear hN hn0 hw hnum HE hz
        go_enter Tryz.func13, Tryz.ntmps13
        go_wp2_with fail
        refine Calls.mono HCP.out ?_
        rintro e w' ⟨T, b, rfl, hbb, hTl, rfl⟩
        rw [hbw] at hbb
        subst hbb
        have hTs : T.size ≤ 65536 := by
          rw [← size_list, hTl]
          have := size_list s
          split
          · rw [List.length_drop]; omega
          · omega
        have HP := parse_any T (w.alloc (.cells #[.bool false, .slice none 0 0] 25)) (by unfold maxLen; omega)
        rw [pErr_ok T hTs (by rw [hTl]; exact HN.out)] at HP
        rw [show numTo T.data.toList T.size = 0 by rw [← size_list, hTl]; exact HZ.out] at HP
        have HH := hid HP
        clear HP hTl hTs
        go_wp2_with fail
        refine Calls.mono HH.out ?_
        rintro e w2 ⟨v2, zs, code, rfl, o2, t2, hb2⟩
        obtain ⟨rfl, hval⟩ := t2.good rfl (by have := pw_pos 8192; unfold wide; omega)
        have hzn : zs = [] := trimmed_eq t2.wd Wd.nil t2.trim Trimmed.nil (by rw [hval]; rfl)
        subst hzn
        obtain ⟨a2, c2, hv2⟩ := own_slice' o2
        subst hv2
        have HTD := hid (wtold_any true a2 0 c2 120 w2 (by omega))
        rw [show toldV true a2 0 c2 120 = .tuple #[.agg #[.bool false, .slice none 0 0], .int .i64 120] from rfl] at HTD
        have HB1 := hid hb2
        clear o2 hb2 t2 hval HH
        go_wp2_with fail
        refine Calls.mono HTD.out ?_
        rintro e w3 ⟨rfl, hb3⟩
        obtain ⟨r0, r1, f0, f1⟩ := res_box HXB.out (bt HB1.out hb3)
        have HBC := hid (bt HB.out (bt HB1.out hb3))
        clear hb3
        go_wp2_with fail
        refine bodyPost_ret (v := .tuple #[.agg #[.bool false, .slice none 0 0], .int .i64 120]) (by simp [results, Tryz.results13, go_sem, r0, r1]) rfl ?_
        exact ⟨false, _, [], 120, rfl, World.ownsRow_nil _ _ _ _, HWE.out, below_put2 HBC.out _ (Nat.le_refl _) _ _⟩
  · have HE : Hid (wpErr s = 120) := by show _ = _; unfold wpErr; rw [if_neg (by omega), if_neg (fun h => hN (by rw [← hw]; exact h.1))]
    have HWE : Hid (WTells 120 (sg (wneg s) (wnum s)) false [] 120) := WTells.err (by decide)
    rw [HE.out]
    have HN := hid hN
    clear hN hw HE
    go_enter Tryz.func13, Tryz.ntmps13
    go_wp2_with fail
    refine Calls.mono HCP.out ?_
    rintro e w' ⟨T, b, rfl, hbb, hTl, rfl⟩
    rw [hbw] at hbb
    subst hbb
    have hTs : T.size ≤ 65536 := by
      rw [← size_list, hTl]
      have := size_list s
      split
      · rw [List.length_drop]; omega
      · omega
    have HP := parse_any T (w.alloc (.cells #[.bool false, .slice none 0 0] 25)) (by unfold maxLen; omega)
    rw [pErr_not T hTs (by rw [hTl]; exact HN.out)] at HP
    have HH := hid HP
    clear HP hTl hTs
    go_wp2_with fail
    refine Calls.mono HH.out ?_
    rintro e w2 ⟨v2, zs, code, rfl, o2, t2, hb2⟩
    obtain ⟨rfl, rfl⟩ := t2.bad (by decide)
    obtain ⟨a2, c2, hv2⟩ := own_slice' o2
    subst hv2
    have HTD := hid (wtold_any b a2 0 c2 120 w2 (by omega))
    rw [show toldV b a2 0 c2 120 = .tuple #[.agg #[.bool false, .slice none 0 0], .int .i64 120] from rfl] at HTD
    have HB1 := hid hb2
    clear o2 hb2 t2 HH
    go_wp2_with fail
    refine Calls.mono HTD.out ?_
    rintro e w3 ⟨rfl, hb3⟩
    obtain ⟨r0, r1, f0, f1⟩ := res_box HXB.out (bt HB1.out hb3)
    have HBC := hid (bt HB.out (bt HB1.out hb3))
    clear hb3
    go_wp2_with fail
    refine bodyPost_ret (v := .tuple #[.agg #[.bool false, .slice none 0 0], .int .i64 120]) (by simp [results, Tryz.results13, go_sem, r0, r1]) rfl ?_
    exact ⟨false, _, [], 120, rfl, World.ownsRow_nil _ _ _ _, HWE.out, below_put2 HBC.out _ (Nat.le_refl _) _ _⟩

set_option maxHeartbeats 800000 in
set_option maxRecDepth 100000 in
theorem wprint_err (n : Bool) (v : Value) (xs : List Int) (w : World) (h : Sl w v xs) (hl : xs.length ≤ 281474976710656) (hx : wchk n xs ≠ 0) :
    Calls Tryz.prog 12 #[.agg #[.bool n, v]] w fun e w' => e = .returned (.tuple #[.string ⟨#[]⟩, .int .i64 (wchk n xs)]) ∧ Below w.heap.size w w' := by
  have HB := hid (alloc_later w (.cells #[.bool n, v] 25))
  have HC := hid (wcheck_any n v xs _ (h.later HB.out) (by omega))
  have hne : (wchk n xs != 0) = true := by simp [hx]
  obtain ⟨c, hc⟩ : ∃ c, wchk n xs = c := ⟨_, rfl⟩
  rw [hc] at HC hne ⊢
  obtain ⟨a, cap, rfl, hr⟩ := h
  clear hr hc hx
  go_enter Tryz.func12, Tryz.ntmps12
  go_wp2_with fail
  refine Calls.mono HC.out ?_
  rintro e w1 ⟨rfl, hb1⟩
  have hbF := bt HB.out hb1
  clear hb1
  go_wp2_with fail
  go_ret2
  exact ⟨rfl, hbF⟩

theorem digit_first {l : List UInt8} (h : IsNum l) : ¬ l[0]? = some 45 := fun e => by
  have h1 := h.2.2 45 (List.mem_of_getElem? e)
  have h2 : ((45 : UInt8).toNat : Int) = 45 := rfl
  omega
/-- A whole number's text is read as it. -/
theorem text_parse {n : Bool} {xs : List Int} (wx : Wd xs) (hx : wchk n xs = 0) (T : ByteArray) (hT : T.data.toList = wtext n xs) : T.size ≤ 65536 ∧ wpErr T = 0 ∧ sg (wneg T) (wnum T) = wval n xs := by
  obtain ⟨lx, tx, sx⟩ := wchk_ok hx
  obtain ⟨d1, d2, _⟩ := isNum_dec (val xs).toNat
  have d3 := dec_short wx lx
  have v0 := val_nonneg wx
  have hneg : wneg T = n := by
    unfold wneg
    rw [hT]
    unfold wtext
    cases n with
    | false => exact decide_eq_false (digit_first d1)
    | true => rfl
  have hdig : wdig n T.data.toList = decDigits (val xs).toNat := by
    rw [hT]; unfold wdig wtext
    cases n <;> rfl
  have hnum : wnum T = val xs := by
    unfold wnum
    rw [hneg, hdig, d2]
    omega
  have hsz : T.size ≤ 65536 := by
    rw [← size_list, hT]
    unfold wtext
    rw [List.length_append]
    have : (if n = true then [(45 : UInt8)] else []).length ≤ 1 := by cases n <;> simp
    omega
  refine ⟨hsz, ?_, ?_⟩
  · unfold wpErr
    have hcond : IsNum (wdig (wneg T) T.data.toList) ∧ (wneg T = false ∨ 0 < wnum T) := ⟨by rw [hneg, hdig]; exact d1, by
      rcases sx with e | e
      · left; rw [hneg]; exact e
      · right; rw [hnum]; have := val_pos' wx tx e; omega⟩
    rw [if_neg (by omega), if_pos hcond]
  · rw [hneg, hnum]; rfl
/-- Unlike numbers have unlike texts. -/
theorem text_inj {n m : Bool} {xs ys : List Int} (wx : Wd xs) (wy : Wd ys) (hx : wchk n xs = 0) (hy : wchk m ys = 0) (T U : ByteArray) (hT : T.data.toList = wtext n xs) (hU : U.data.toList = wtext m ys) : T = U ↔ (n = m ∧ xs = ys) := by
  constructor
  · intro e
    have a1 := (text_parse wx hx T hT).2.2
    have a2 := (text_parse wy hy U hU).2.2
    rw [e, a2] at a1
    obtain ⟨_, tx, sx⟩ := wchk_ok hx
    obtain ⟨_, ty, sy⟩ := wchk_ok hy
    exact wsame' wx wy tx ty sx sy a1.symm
  · rintro ⟨rfl, rfl⟩
    have e : T.data.toList = U.data.toList := hT.trans hU.symm
    exact ByteArray.ext (Array.toList_inj.1 e)
/-- What a text is read as has that text. -/
theorem parse_text (s : ByteArray) (he : wpErr s = 0) {n : Bool} {zs : List Int} (wz : Wd zs) (hz : wchk n zs = 0) (hv : wval n zs = sg (wneg s) (wnum s)) : wtext n zs = s.data.toList := by
  unfold wpErr at he
  by_cases h1 : 65536 < s.size
  · rw [if_pos h1] at he; omega
  · rw [if_neg h1] at he
    by_cases h2 : IsNum (wdig (wneg s) s.data.toList) ∧ (wneg s = false ∨ 0 < wnum s)
    · obtain ⟨hN, hs⟩ := h2
      have h0 : 0 ≤ wnum s := (numTo_bounds hN.2.2 _).1
      obtain ⟨_, tz, sz'⟩ := wchk_ok hz
      have v0 := val_nonneg wz
      have hp := val_pos' wz tz
      obtain ⟨hn, hval⟩ : n = wneg s ∧ val zs = wnum s := by
        generalize wneg s = b at *
        cases n <;> cases b <;> simp [wval, sg] at hv hs sz' ⊢
        · exact hv
        · omega
        · have := hp (by omega); omega
        · exact hv
      have hd : decDigits (wnum s).toNat = wdig (wneg s) s.data.toList := by
        obtain ⟨k, hk⟩ : ∃ k, (wdig (wneg s) s.data.toList).length = k + 1 := ⟨_, (Nat.succ_pred_eq_of_pos hN.1).symm⟩
        exact dec_num k _ hk hN
      unfold wtext
      rw [hval, hd, hn]
      unfold wdig
      cases hw : wneg s with
      | false => rfl
      | true =>
        have hc : s.data.toList[0]? = some 45 := of_decide_eq_true hw
        cases hl : s.data.toList with
        | nil => rw [hl] at hc; cases hc
        | cons c l => rw [hl] at hc; simp at hc; simp [hc]
    · rw [if_neg h2] at he; omega
theorem num_small (s : ByteArray) (hs : s.size ≤ 400) (he : wpErr s = 0) : -wlim < sg (wneg s) (wnum s) ∧ sg (wneg s) (wnum s) < wlim := by
  unfold wpErr at he
  rw [if_neg (by omega)] at he
  by_cases h2 : IsNum (wdig (wneg s) s.data.toList) ∧ (wneg s = false ∨ 0 < wnum s)
  · have hb := numTo_bounds h2.1.2.2 (wdig (wneg s) s.data.toList).length
    have hl : (wdig (wneg s) s.data.toList).length ≤ 400 := by
      have := size_list s
      unfold wdig
      split
      · rw [List.length_drop]; omega
      · omega
    have e1 : (10 : Int) ^ (wdig (wneg s) s.data.toList).length ≤ 4294967296 ^ (wdig (wneg s) s.data.toList).length := ten_le _
    have e2 : (4294967296 : Int) ^ (wdig (wneg s) s.data.toList).length ≤ wlim := by unfold wlim; exact pw_le (by omega)
    have e3 : wnum s < wlim := Int.lt_of_lt_of_le hb.2 (Int.le_trans e1 e2)
    have e4 : 0 ≤ wnum s := hb.1
    have e5 := wlim_pos
    cases wneg s <;> simp [sg] <;> omega
  · rw [if_neg h2] at he; omega
end Go.Proofs.YtomdkingdniohaaGreatDoor

/- The document's own digits of a number: slackwaterref01.Digits: of every number. -/
namespace Go.Proofs.YtomdkingdniohaaGreatDoor
open Go.RowKit Lib
set_option linter.unusedVariables false

theorem Tryz.infoB : (Tryz.prog.info? 5).map (fun i => (i.zero, i.size, i.bytes)) = some (some (.int .u8 0), 1, 1) := by kernel_rfl
/-- Bytes as numbers. -/
def bI (l : List UInt8) : List Value := l.map fun b => Value.int .u8 (b.toNat : Int)
/-- What is left of a number, and the digits that were told of it, the lowest first. -/
def Left (X V : Nat) (bs : List UInt8) : Prop := (0 < V → decDigits X = decDigits V ++ bs.reverse) ∧ (V = 0 → decDigits X = bs.reverse)
theorem Left.step {X V : Nat} {bs : List UInt8} (h : Left X V bs) (hV : 0 < V) : Left X (V / 10) (bs ++ [UInt8.ofNat (48 + V % 10)]) := by
  have e := h.1 hV
  by_cases c : V < 10
  · have h0 : V / 10 = 0 := by omega
    refine ⟨fun h1 => by omega, fun _ => ?_⟩
    rw [e, decDigits, dif_pos c, List.reverse_append, show V % 10 = V by omega]
    rfl
  · refine ⟨fun _ => ?_, fun h1 => by omega⟩
    rw [e, decDigits, dif_neg c, List.reverse_append]
    simp
theorem Left.len {X V : Nat} {bs : List UInt8} (h : Left X V bs) : bs.length ≤ (decDigits X).length := by
  by_cases c : V = 0
  · rw [h.2 c, List.length_reverse]; exact Nat.le_refl _
  · rw [h.1 (by omega), List.length_append, List.length_reverse]; omega
theorem foldl_push : ∀ (l : List UInt8) (s : ByteArray), (l.map fun b => (b.toNat : Int)).foldl (fun r n => r.push (UInt8.ofNat n.toNat)) s = ⟨s.data ++ l.toArray⟩
  | [], s => by simp
  | b :: l, s => by
    rw [List.map_cons, List.foldl_cons, foldl_push l]
    simp [ByteArray.push]
theorem text_of_bytes (l : List UInt8) : (l.map fun b => (b.toNat : Int)).foldl (fun r n => r.push (UInt8.ofNat n.toNat)) ByteArray.empty = ⟨l.toArray⟩ := by
  rw [foldl_push]; simp [ByteArray.empty, ByteArray.emptyWithCapacity]; rfl

theorem Sl.reads {w : World} {a : Option Addr} {c : Nat} {xs : List Int} (h : Sl w (.slice a xs.length c) xs) : Reads w w.heap.size a xs.length c xs := by
  obtain ⟨a', c', hv, hr⟩ := h
  simp only [Value.slice.injEq, true_and] at hv
  obtain ⟨rfl, rfl⟩ := hv
  exact hr
/-- A row of bytes of the call's own. -/
def OwnB (w : World) (base g n : Nat) (l : List UInt8) : Prop := w.ownsRow base 5 1 (.slice (some ⟨g, 0, none⟩) n n) n (bI l)
theorem OwnB.len {w : World} {base g n : Nat} {l : List UInt8} (h : OwnB w base g n l) : l.length = n := by have := h.1; simpa [bI] using this
theorem ownB_cell {w : World} {base g n cap : Nat} {l : List UInt8} (h : w.ownsRow base 5 1 (.slice (some ⟨g, 0, none⟩) n cap) n (bI l)) (k : Nat) (hk : k < n) : w.cell? ⟨g, k, none⟩ = some (.int .u8 ((l[k]?.getD 0).toNat : Int)) := by
  have hl : l.length = n := by have := h.1; simpa [bI] using this
  have := h.cellAt k (by omega)
  rw [this]
  unfold bI
  rw [List.getElem?_map, List.getElem?_eq_getElem (by omega)]
  rfl
theorem OwnB.set {w : World} {base g n : Nat} {l : List UInt8} (h : OwnB w base g n l) (k : Nat) (b : UInt8) : OwnB (w.setCell ⟨g, k, none⟩ (.int .u8 (b.toNat : Int))) base g n (l.set k b) := by
  have e := (World.ownsRow.stored h k (.int .u8 (b.toNat : Int))).1
  unfold OwnB
  have e2 : bI (l.set k b) = (bI l).set k (.int .u8 (b.toNat : Int)) := by unfold bI; rw [List.map_set]
  rw [e2]
  exact e
theorem made_bytes (n : Nat) : (madeCells #[Value.int .u8 0] n).toList = bI (List.replicate n 0) := by
  rw [toList_madeCells_one]; simp [bI]
/-- Rows of unlike elements lie apart. -/
theorem owns_unlike {w : World} {b1 b2 e1 e2 n1 n2 : Nat} {v1 v2 : Value} {x1 x2 : List Value} (h : w.ownsRow b1 e1 1 v1 n1 x1) (g : w.ownsRow b2 e2 1 v2 n2 x2) (hne : e1 ≠ e2) : v1.ownBlock = none ∨ v1.ownBlock ≠ v2.ownBlock := by
  rcases h.2 with ⟨rfl, _⟩ | ⟨g1, c1, u1, rfl, _, hg1, _⟩
  · exact .inl rfl
  · right
    rcases g.2 with ⟨rfl, _⟩ | ⟨g2, c2, u2, rfl, _, hg2, _⟩
    · simp [Value.ownBlock]
    · intro e
      simp [Value.ownBlock] at e
      subst e
      rw [hg1] at hg2
      simp at hg2
      exact hne hg2.2
theorem own_shape1 {w : World} {base e n : Nat} {v : Value} {xs : List Value} (h : w.ownsRow base e 1 v n xs) (hn : 0 < n) : ∃ g cap, v = .slice (some ⟨g, 0, none⟩) n cap ∧ base ≤ g ∧ g < w.heap.size ∧ n ≤ cap ∧ cap ≤ maxLen := by
  obtain ⟨g, cap, rfl, h1, h2⟩ := own_shape' h hn
  have := World.ownsRow.lt h g rfl
  exact ⟨g, cap, rfl, this.1, this.2, h1, h2⟩
theorem dec_len (n : Nat) : (decDigits n).length = nDigits n := by
  induction n using decDigits.induct with
  | case1 u h => rw [decDigits, dif_pos h, nDigits_small h]; rfl
  | case2 u h ih => rw [decDigits, dif_neg h, nDigits_big h, List.length_append, ih]; rfl
theorem dec_pos (n : Nat) : 0 < (decDigits n).length := by
  rw [decDigits]
  split
  · simp
  · simp
theorem low_step (Z r k : Nat) : (Z * 10 ^ (k + 1) + r) / 10 = Z * 10 ^ k + r / 10 ∧ (Z * 10 ^ (k + 1) + r) % 10 = r % 10 := by
  have e : Z * 10 ^ (k + 1) + r = r + Z * 10 ^ k * 10 := by rw [Nat.pow_succ, Nat.mul_assoc]; omega
  rw [e, Nat.add_mul_div_right _ _ (by decide), Nat.add_mul_mod_self_right]
  exact ⟨by omega, rfl⟩
theorem ret_str {a b : ByteArray} (h : a = b) : Ending.returned (.string a) = .returned (.string b) := by rw [h]
theorem byte_val (d : Nat) (h : d ≤ 57) : ((UInt8.ofNat d).toNat : Int) = (d : Int) := by
  have : (UInt8.ofNat d).toNat = d := by rw [UInt8.toNat_ofNat']; omega
  rw [this]

end Go.Proofs.YtomdkingdniohaaGreatDoor

/- The document's own reading of digits: slackwaterref01.Read: of every text. -/
namespace Go.Proofs.YtomdkingdniohaaGreatDoor
open Go.RowKit
set_option linter.unusedVariables false

theorem ten_step (us vs : List Int) (k : Nat) (cc z c' D : Int) (hk : k < vs.length) (hu : vs[k]?.getD 0 = us[k]?.getD 0) (ht : z + c' * 4294967296 = us[k]?.getD 0 * 10 + cc) (h : valTo vs k + cc * 4294967296 ^ k = valTo us k * 10 + D) :
    valTo (vs.set k z) (k + 1) + c' * 4294967296 ^ (k + 1) = valTo us (k + 1) * 10 + D := by
  rw [valTo_set vs k z hk, valTo_succ, pw_succ]
  generalize (4294967296 : Int) ^ k = P at *
  generalize us[k]?.getD 0 = u at *
  grind
theorem valTo_high (us : List Int) (m : Nat) (h : ∀ j, m ≤ j → us[j]?.getD 0 = 0) : valTo us m = val us := by
  have e : ∀ d, valTo us (m + d) = valTo us m := fun d => by
    induction d with
    | zero => rfl
    | succ d ih => rw [← Nat.add_assoc, valTo_succ, h (m + d) (by omega), ih]; omega
  rw [← e us.length, valTo_stable us _ (by omega)]
theorem ten_lt (i : Nat) : (10 : Int) ^ (i + 1) ≤ 4294967296 ^ (i / 9 + 1) := by
  have h1 : 10 ^ (i + 1) ≤ 10 ^ (9 * (i / 9 + 1)) := Nat.pow_le_pow_right (by decide) (by omega)
  have h2 : 10 ^ (9 * (i / 9 + 1)) = (10 ^ 9) ^ (i / 9 + 1) := Nat.pow_mul ..
  have h3 : (10 ^ 9) ^ (i / 9 + 1) ≤ 4294967296 ^ (i / 9 + 1) := Nat.pow_le_pow_left (by decide) _
  have h4 := Int.ofNat_le.2 (Nat.le_trans (h2 ▸ h1) h3)
  rw [Int.natCast_pow, Int.natCast_pow] at h4
  exact h4
theorem ten_end {vs : List Int} (hw : Wd vs) (n : Nat) (c V : Int) (h0 : 0 ≤ c) (h1 : V < 4294967296 ^ n) (h : valTo vs n + c * 4294967296 ^ n = V) : valTo vs n = V := by
  have b := valTo_bounds hw n
  have hp := pw_pos n
  have hc : c = 0 := by
    by_cases z : c = 0
    · exact z
    · have e1 : 1 * 4294967296 ^ n ≤ c * 4294967296 ^ n := Int.mul_le_mul_of_nonneg_right (by omega) (by omega)
      omega
  rw [hc] at h
  omega

end Go.Proofs.YtomdkingdniohaaGreatDoor

/- Texts of whole numbers, the program's and the document's, in whole: Print, Parse: of every number and text. -/
namespace Go.Proofs.YtomdkingdniohaaGreatDoor
open Go.RowKit
set_option linter.unusedVariables false

/-- What Print tells. -/
def wsaid (n : Bool) (xs : List Int) : List UInt8 := if wchk n xs = 0 then wtext n xs else []
theorem wprint_all (n : Bool) (v : Value) (xs : List Int) (w : World) (h : Sl w v xs) (hl : xs.length ≤ 281474976710656) (htab : Tab w) :
    Calls Tryz.prog 12 #[.agg #[.bool n, v]] w fun e w' => ∃ T : ByteArray, e = .returned (.tuple #[.string T, .int .i64 (wchk n xs)]) ∧ T.data.toList = wsaid n xs ∧ Below w.heap.size w w' := by
  by_cases hk : wchk n xs = 0
  · have e := wprint_any n v xs w h hk htab
    have e2 : wsaid n xs = wtext n xs := by unfold wsaid; rw [if_pos hk]
    rw [hk, e2]
    exact e
  · refine Calls.mono (wprint_err n v xs w h hl hk) ?_
    rintro e w' ⟨rfl, hb⟩
    exact ⟨_, rfl, by unfold wsaid; rw [if_neg hk], hb⟩

end Go.Proofs.YtomdkingdniohaaGreatDoor

/- Texts read as whole numbers, by the program and by the document: of every text. -/
namespace Go.Proofs.YtomdkingdniohaaGreatDoor
open Go.RowKit
set_option linter.unusedVariables false

set_option maxHeartbeats 1600000 in
set_option maxRecDepth 100000 in
theorem wparse_full (s : ByteArray) (w : World) (hs : s.size ≤ maxLen) :
    Calls Tryz.prog 13 #[.string s] w (WTold w (wpErr s) (sg (wneg s) (wnum s))) := by
  by_cases h1 : s.size ≤ 65536
  · exact wparse_any s w h1
  · have HE : Hid (wpErr s = 3) := by show _ = _; unfold wpErr; rw [if_pos (by omega)]
    rw [HE.out]
    have HW := hid (WTells.err (e := 3) (t := sg (wneg s) (wnum s)) (by decide))
    have HB := hid (alloc_later w (.cells #[.bool false, .slice none 0 0] 25))
    have h1' : (65536 : Int) < (s.size : Int) := by omega
    have hsm : (s.size : Int) ≤ 9223372036854775807 := by unfold maxLen at hs; omega
    clear HE h1 hs
    go_enter Tryz.func13, Tryz.ntmps13
    go_wp2_with fail
    refine bodyPost_ret (v := .tuple #[.agg #[.bool false, .slice none 0 0], .int .i64 3]) (by simp [results, Tryz.results13, go_sem]) rfl ?_
    exact ⟨false, _, [], 3, rfl, World.ownsRow_nil _ _ _ _, HW.out, HB.out⟩
theorem num_len {l : List UInt8} {z : List Int} {k K : Nat} (hd : Dg l) (wz : Wd z) (tz : Trimmed z) (vz : val z = numTo l k) (hk : k ≤ K) : z.length ≤ K := by
  refine len_of_lt wz tz ?_
  rw [vz]
  have h6 := (numTo_bounds hd k).2
  have e1 : 10 ^ k ≤ 4294967296 ^ k := Nat.pow_le_pow_left (by decide) _
  have e2 : 4294967296 ^ k ≤ 4294967296 ^ K := Nat.pow_le_pow_right (by decide) hk
  have e3 := Int.ofNat_le.2 (Nat.le_trans e1 e2)
  rw [Int.natCast_pow, Int.natCast_pow] at e3
  exact Int.lt_of_lt_of_le h6 e3
theorem wdig_sub (s : ByteArray) (hp : 0 < s.size) : (s.extract 1 s.size).data.toList = s.data.toList.drop 1 := by
  rw [extract_list, List.take_of_length_le (by rw [List.length_drop, size_list]; omega)]

end Go.Proofs.YtomdkingdniohaaGreatDoor

/- Bundles for a long walk: boxes that hold whole numbers, rows that are read. -/
namespace Go.Proofs.YtomdkingdniohaaGreatDoor
open Go.RowKit
set_option linter.unusedVariables false

/-- Boxes that hold whole numbers. -/
def Bxs (W : World) (l : List (Nat × Array Value)) : Prop := ∀ p ∈ l, Box W p.1 25 p.2
theorem Bxs.nil (W : World) : Bxs W [] := fun p hp => by cases hp
theorem Bxs.later {W W' : World} {l : List (Nat × Array Value)} (h : Bxs W l) (hb : Below W.heap.size W W') : Bxs W' l := fun p hp => (h p hp).later hb (h p hp).lt
theorem Bxs.put {W : World} {l : List (Nat × Array Value)} (h : Bxs W l) (n : Bool) (v : Value) : Bxs (W.alloc (.cells #[.bool n, v] 25)) ((W.heap.size, #[.bool n, v]) :: l) := fun p hp => by
  cases hp with
  | head => exact Box.made W _ _
  | tail _ hp => exact (h p hp).later (alloc_later _ _) (h p hp).lt
theorem Bxs.get {W : World} {l : List (Nat × Array Value)} (h : Bxs W l) {g : Nat} {n : Bool} {v : Value} (hm : (g, #[.bool n, v]) ∈ l) : W.cell? ⟨g, 0, none⟩ = some (.bool n) ∧ W.cell? ⟨g, 1, none⟩ = some v := by
  obtain ⟨h0, h1, _, _⟩ := (h _ hm).c2
  exact ⟨h0, h1⟩
/-- Rows that are read. -/
def Sls (W : World) (l : List (Value × List Int)) : Prop := ∀ p ∈ l, Sl W p.1 p.2
theorem Sls.nil (W : World) : Sls W [] := fun p hp => by cases hp
theorem Sls.later {W W' : World} {l : List (Value × List Int)} (h : Sls W l) (hb : Below W.heap.size W W') : Sls W' l := fun p hp => (h p hp).later hb
theorem Sls.put {W : World} {l : List (Value × List Int)} (h : Sls W l) {v : Value} {zs : List Int} (s : Sl W v zs) : Sls W ((v, zs) :: l) := fun p hp => by
  cases hp with
  | head => exact s
  | tail _ hp => exact h p hp
theorem Sls.get {W : World} {l : List (Value × List Int)} (h : Sls W l) {v : Value} {zs : List Int} (hm : (v, zs) ∈ l) : Sl W v zs := h _ hm
theorem wd1 {x : Int} (h0 : 0 ≤ x) (h1 : x ≤ 4294967295) : Wd [x] := Wd.one (by omega)
end Go.Proofs.YtomdkingdniohaaGreatDoor

/- What WholeNames wants: rows that a statement makes in any order, known answers. -/
namespace Go.Proofs.YtomdkingdniohaaGreatDoor
open Go.RowKit Go.Lib
set_option linter.unusedVariables false

theorem wn_cell_alloc {V : World} {b j : Nat} {v : Value} (h : V.cell? ⟨b, j, none⟩ = some v) (o : Obj) : (V.alloc o).cell? ⟨b, j, none⟩ = some v := by
  have hlt : b < V.heap.size := by
    rcases Nat.lt_or_ge b V.heap.size with g | g
    · exact g
    · exfalso
      have e : V.heap[b]? = none := Array.getElem?_eq_none g
      simp [World.cell?, e] at h
  exact ((alloc_later V o).cell (p := ⟨b, j, none⟩) hlt).trans h
theorem wchk_lit1 (n : Bool) (z : Int) (h : 0 < z ∧ z ≤ 4294967295) : wchk n [z] = 0 := by
  refine wchk_good (by simp) ?_ (.inr (by simp))
  unfold Trimmed
  show szTo [z] 1 = 1
  have : z ≠ 0 := by omega
  simp [szTo, this]
/-- Words that were made since. -/
def WnRow (B : Nat) (w' : World) (a : Option Addr) (k c : Nat) (zs : List Int) : Prop := w'.ownsRow B 42 1 (.slice a k c) zs.length (zs.map (Value.int .u32))
/-- A known number. -/
structure WnK (x : Int) (n : Bool) (zs : List Int) (k : Nat) : Prop where
  lo : -9223372036854775808 ≤ x
  hi : x ≤ 9223372036854775807
  len : zs.length = k
  wd : Wd zs
  chk : wchk n zs = 0
  num : wval n zs = x
theorem wn_of_reg (X : World) {x : Int} {n : Bool} {zs : List Int} {k : Nat} (K : WnK x n zs k) (V : World) (hv : Below X.heap.size X V) : Calls Tryz.prog 5 #[.int .i64 x] V fun e w' => ∃ a c, e = .returned (.agg #[.bool n, .slice a k c]) ∧ Below X.heap.size X w' ∧ Below V.heap.size V w' ∧ Hid (WnRow X.heap.size w' a k c zs) := by
  obtain ⟨_, tz, sz⟩ := wchk_ok K.chk
  refine Calls.mono (lawOf_any x V K.lo K.hi) ?_
  rintro e w' ⟨m, v, ys, rfl, o, wy, ty, ly, sy, vy, hb⟩
  obtain ⟨rfl, rfl⟩ := wsame' K.wd wy tz ty sz sy (K.num.trans vy.symm)
  obtain ⟨a, c, hs⟩ := own_slice' o
  subst hs
  obtain rfl := K.len
  exact ⟨a, c, rfl, bt hv hb, hb, owns_base o hv.size⟩
theorem wn_div_reg (X : World) {x : Int} {n : Bool} {zs : List Int} {k : Nat} (K : WnK x n zs k) {y : Int} {m : Bool} {us : List Int} {l : Nat} (L : WnK y m us l) (hl : 0 < l) {q : Int} {nq : Bool} {qs : List Int} {kq : Nat} (Q : WnK q nq qs kq) {rs : List Int} {kr : Nat} (hr : rs.length = kr) (wr : Wd rs) (tr : Trimmed rs) (he : x = q * y + val rs) (hlt : val rs < (y.natAbs : Int))
    (V : World) (a : Option Addr) (c : Nat) (b : Option Addr) (d : Nat) (hv : Below X.heap.size X V) (h1 : WnRow X.heap.size V a k c zs) (h2 : WnRow X.heap.size V b l d us) :
    Calls Tryz.prog 4 #[.agg #[.bool n, .slice a k c], .agg #[.bool m, .slice b l d]] V fun e w' => ∃ a1 c1 b1 d1, e = .returned (.tuple #[.agg #[.bool nq, .slice a1 kq c1], .agg #[.bool false, .slice b1 kr d1], .int .i64 0]) ∧ Below X.heap.size X w' ∧ Below V.heap.size V w' ∧ Hid (WnRow X.heap.size w' a1 kq c1 qs ∧ WnRow X.heap.size w' b1 kr d1 rs) := by
  obtain ⟨_, tz, sz⟩ := wchk_ok Q.chk
  have l1 := L.len
  have H := wdivMod_any n (.slice a k c) zs m (.slice b l d) us V (Sl.own h1 K.wd) (Sl.own h2 L.wd) K.chk L.chk (by omega)
  rw [K.num, L.num] at H
  refine Calls.mono H ?_
  rintro e w' ⟨m', vq, zq, vr, zr, rfl, oq, orr, wq, wr', tq, tr', lq, lr, sq, hX, hY, hb⟩
  rw [he] at hX
  obtain ⟨e1, e2⟩ := kquot hX (val_nonneg wr) (val_nonneg wr') hlt hY
  obtain ⟨rfl, rfl⟩ := wsame' Q.wd wq tz tq sz sq (Q.num.trans e1)
  obtain rfl := trimmed_eq wr wr' tr tr' e2
  obtain ⟨a1, c1, hs⟩ := own_slice' oq
  obtain ⟨b1, d1, hs2⟩ := own_slice' orr
  subst hs hs2
  obtain rfl := Q.len
  subst hr
  exact ⟨a1, c1, b1, d1, rfl, bt hv hb, hb, owns_base oq hv.size, owns_base orr hv.size⟩
/-- What stands behind the statement that divides. -/
structure WnCut (X : World) (nq : Bool) (qs : List Int) (kq : Nat) (rs : List Int) (kr : Nat) (s6 s7 s8 : Value) (wx : World) : Prop where
  ex : ∃ (p6 p7 : Nat) (a1 : Option Addr) (c1 : Nat) (b1 : Option Addr) (d1 : Nat), s6 = .pointer (some ⟨p6, 0, none⟩) ∧ s7 = .pointer (some ⟨p7, 0, none⟩) ∧ s8 = .int .i64 0 ∧ Box wx p6 25 #[.bool nq, .slice a1 kq c1] ∧ Box wx p7 25 #[.bool false, .slice b1 kr d1] ∧ WnRow X.heap.size wx a1 kq c1 qs ∧ WnRow X.heap.size wx b1 kr d1 rs
  bel : Below X.heap.size X wx
theorem wn_put2_box {W : World} {b t : Nat} {u0 u1 : Value} (h : Box W b t #[u0, u1]) (v0 v1 : Value) : Box ((W.setCell ⟨b, 0, none⟩ v0).setCell ⟨b, 1, none⟩ v1) b t #[v0, v1] := (h.set 0 v0).set 1 v1
theorem wn_put2_far {W : World} {b p t : Nat} {vs : Array Value} (h : Box W b t vs) (hne : b ≠ p) (v0 v1 : Value) : Box ((W.setCell ⟨p, 0, none⟩ v0).setCell ⟨p, 1, none⟩ v1) b t vs := (h.other ⟨p, 0, none⟩ v0 hne).other ⟨p, 1, none⟩ v1 hne
theorem wn_row_put {W : World} {base k c b t : Nat} {a : Option Addr} {zs : List Int} {vs : Array Value} (h : WnRow base W a k c zs) (hb : Box W b t vs) (ht : 42 ≠ t) (v0 v1 : Value) : WnRow base ((W.setCell ⟨b, 0, none⟩ v0).setCell ⟨b, 1, none⟩ v1) a k c zs := own_put2 h b (own_ne_box h hb ht) v0 v1
theorem WnRow.later {B : Nat} {w' v : World} {a : Option Addr} {k c : Nat} {zs : List Int} (h : WnRow B w' a k c zs) (hb : Below w'.heap.size w' v) : WnRow B v a k c zs := owns_later h hb
theorem wn2_alloc {V : World} {p q j : Nat} {v u : Value} (h : V.cell? ⟨p, j, none⟩ = some v ∧ V.cell? ⟨q, j, none⟩ = some u) (o : Obj) : (V.alloc o).cell? ⟨p, j, none⟩ = some v ∧ (V.alloc o).cell? ⟨q, j, none⟩ = some u := ⟨wn_cell_alloc h.1 o, wn_cell_alloc h.2 o⟩
theorem wn_far {ww w' : World} (h : Below ww.heap.size ww w') : (∀ H, H < ww.heap.size → H < w'.heap.size) ∧ (∀ H j, H < ww.heap.size → w'.cell? ⟨H, j, none⟩ = ww.cell? ⟨H, j, none⟩) ∧ (∀ H j, H < ww.heap.size → w'.frozen? ⟨H, j, none⟩ = ww.frozen? ⟨H, j, none⟩) := ⟨fun H hl => Nat.lt_of_lt_of_le hl h.size, fun H j hl => h.cell (p := ⟨H, j, none⟩) hl, fun H j hl => h.frozen (p := ⟨H, j, none⟩) hl⟩
theorem wn_balloc1 {a w : World} (h : Below a.heap.size a w) (o : Obj) : Below a.heap.size a (w.alloc o) := bt h (alloc_later _ _)
theorem wn_boxes3 (w : World) (t : Nat) (u v z : Array Value) : Box (((w.alloc (.cells u t)).alloc (.cells v t)).alloc (.cells z t)) w.heap.size t u ∧ Box (((w.alloc (.cells u t)).alloc (.cells v t)).alloc (.cells z t)) (w.heap.size + 1) t v ∧ Box (((w.alloc (.cells u t)).alloc (.cells v t)).alloc (.cells z t)) (w.heap.size + 1 + 1) t z ∧ Below w.heap.size w (((w.alloc (.cells u t)).alloc (.cells v t)).alloc (.cells z t)) := by
  have e1 := Box.made w t u
  have e2 := Box.made (w.alloc (.cells u t)) t v
  have e3 := Box.made ((w.alloc (.cells u t)).alloc (.cells v t)) t z
  have l1 := alloc_later w (.cells u t)
  have l2 := alloc_later (w.alloc (.cells u t)) (.cells v t)
  have l3 := alloc_later ((w.alloc (.cells u t)).alloc (.cells v t)) (.cells z t)
  refine ⟨(e1.later l2 e1.lt).later l3 (e1.later l2 e1.lt).lt, ?_, ?_, bt l1 (bt l2 l3)⟩
  · have := e2.later l3 e2.lt
    simpa using this
  · simpa using e3
theorem wn_t1 : Trimmed [1] := by
  unfold Trimmed
  show szTo [1] 1 = 1
  simp [szTo]
-- the known numbers
theorem wn_wd1 (x : Int) (h : 0 ≤ x ∧ x ≤ 4294967295) : Wd [x] := Wd.one h
theorem wn_k1 (n : Bool) (z x : Int) (h : 0 < z ∧ z ≤ 4294967295) (e : (if n then -z else z) = x) : WnK x n [z] 1 := by
  refine ⟨?_, ?_, rfl, Wd.one ⟨by omega, by omega⟩, wchk_lit1 n z h, ?_⟩
  · cases n <;> simp at e <;> omega
  · cases n <;> simp at e <;> omega
  · rw [← e]; cases n <;> simp [wval, val, valTo]
theorem wn_k0 : WnK 0 false [] 0 := ⟨by decide, by decide, rfl, Wd.nil, by decide, by decide⟩
theorem wn_km : WnK (-9223372036854775808) true [0, 2147483648] 2 := ⟨by decide, by decide, rfl, fun z hz => by
    simp at hz
    rcases hz with rfl | rfl <;> omega, by decide +kernel, by decide +kernel⟩
-- calls with known numbers
theorem wn_of {x : Int} {n : Bool} {zs : List Int} {k : Nat} (K : WnK x n zs k) (V : World) : Calls Tryz.prog 5 #[.int .i64 x] V (Kn V n zs k) := of_kn x K.lo K.hi n zs k K.len K.wd K.chk K.num V
theorem wn_told {f : Nat} {args : Array Value} {w : World} {t : Int} (H : Calls Tryz.prog f args w (WTold w 0 t)) {y : Int} {m : Bool} {us : List Int} {l : Nat} (L : WnK y m us l) (he : t = y) : Calls Tryz.prog f args w (Kt w m us l 0) := told_kn H m us l L.len L.wd L.chk (L.num.trans he.symm)
theorem wn_sub {x : Int} {n : Bool} {zs : List Int} {k : Nat} (K : WnK x n zs k) {y : Int} {m : Bool} {us : List Int} {l : Nat} (L : WnK y m us l) {r : Int} {nr : Bool} {rs : List Int} {kr : Nat} (R : WnK r nr rs kr) (he : x - y = r) (a : Option Addr) (c : Nat) (b : Option Addr) (d : Nat) (V : World) (s : Sl V (.slice a k c) zs) (t : Sl V (.slice b l d) us) : Calls Tryz.prog 7 #[.agg #[.bool n, .slice a k c], .agg #[.bool m, .slice b l d]] V (Kt V nr rs kr 0) :=
  wn_told (wsub_any n _ zs m _ us V s t K.chk L.chk) R (by rw [K.num, L.num]; exact he)
theorem wn_gcd {x : Int} {n : Bool} {zs : List Int} {k : Nat} (K : WnK x n zs k) {y : Int} {m : Bool} {us : List Int} {l : Nat} (L : WnK y m us l) {r : Int} {nr : Bool} {rs : List Int} {kr : Nat} (R : WnK r nr rs kr) (he : gcdI (val zs) (val us) = r) (a : Option Addr) (c : Nat) (b : Option Addr) (d : Nat) (V : World) (s : Sl V (.slice a k c) zs) (t : Sl V (.slice b l d) us) : Calls Tryz.prog 9 #[.agg #[.bool n, .slice a k c], .agg #[.bool m, .slice b l d]] V (Kt V nr rs kr 0) :=
  wn_told (wgcd_any n _ zs m _ us V s t K.chk L.chk) R he
theorem wn_neg {x : Int} {n : Bool} {zs : List Int} {k : Nat} (K : WnK x n zs k) {r : Int} {nr : Bool} {rs : List Int} {kr : Nat} (R : WnK r nr rs kr) (he : -x = r) (a : Option Addr) (c : Nat) (V : World) (s : Sl V (.slice a k c) zs) : Calls Tryz.prog 8 #[.agg #[.bool n, .slice a k c]] V (Kt V nr rs kr 0) :=
  wn_told (wneg_any n _ zs V s K.chk) R (by rw [K.num]; exact he)
theorem wn_pow {x : Int} {n : Bool} {zs : List Int} {k : Nat} (K : WnK x n zs k) (N : Int) (h0 : 0 ≤ N) (h1 : N ≤ 4096) {r : Int} {nr : Bool} {rs : List Int} {kr : Nat} (R : WnK r nr rs kr) (he : x ^ N.toNat = r) (a : Option Addr) (c : Nat) (V : World) (s : Sl V (.slice a k c) zs) : Calls Tryz.prog 10 #[.agg #[.bool n, .slice a k c], .int .i64 N] V (Kt V nr rs kr 0) := by
  have H := wPow_any n (.slice a k c) zs N V s (Nat.le_trans (wchk_ok K.chk).1 (by omega)) (by omega) (by omega)
  have e : pwErr n zs N = 0 := by unfold pwErr; rw [if_pos K.chk, if_neg (by omega)]
  rw [e] at H
  exact wn_told H R (by rw [K.num]; exact he)
theorem wn_pow_err {x : Int} {n : Bool} {zs : List Int} {k : Nat} (K : WnK x n zs k) (a : Option Addr) (c : Nat) (V : World) (s : Sl V (.slice a k c) zs) : Calls Tryz.prog 10 #[.agg #[.bool n, .slice a k c], .int .i64 (-1)] V (Kt V false [] 0 2) := by
  have H := wPow_any n (.slice a k c) zs (-1) V s (Nat.le_trans (wchk_ok K.chk).1 (by omega)) (by omega) (by omega)
  have e : pwErr n zs (-1) = 2 := by unfold pwErr; rw [if_pos K.chk, if_pos (by omega)]
  rw [e] at H
  exact told_er H (by decide)
theorem wn_nil (w : World) : Sl w (.slice none 0 0) [] := ⟨none, 0, rfl, rfl, Wd.nil, .inl rfl, Nat.le_refl _, Nat.zero_le _, fun _ => rfl⟩
theorem wn_same0 (a : Option Addr) (c : Nat) (V : World) (s : Sl V (.slice a 0 c) []) : Calls Tryz.prog 11 #[.agg #[.bool false, .slice a 0 c], .agg #[.bool false, .slice none 0 0]] V fun e w' => e = .returned (.bool true) ∧ Below V.heap.size V w' := by
  have H := sameWhole_any false (.slice a 0 c) [] false (.slice none 0 0) [] V s (wn_nil V) (by decide) (by decide)
  rw [decide_eq_true ⟨rfl, rfl⟩] at H
  exact H
theorem wn_is {x : Int} {n : Bool} {zs : List Int} {k : Nat} (K : WnK x n zs k) (a : Option Addr) (c : Nat) (V : World) (s : Sl V (.slice a k c) zs) : Calls Tryz.prog 6 #[.agg #[.bool n, .slice a k c], .int .i64 x] V fun e w' => e = .returned (.bool true) ∧ Hid (Below V.heap.size V w') := is_kn x n zs k a c V s K.chk K.num K.lo K.hi
theorem wn_print (a : Option Addr) (c : Nat) (V : World) (s : Sl V (.slice a 2 c) [0, 2147483648]) (ht : Tab V) : Calls Tryz.prog 12 #[.agg #[.bool true, .slice a 2 c]] V fun e w' => e = .returned (.tuple #[.string ⟨#[45, 57, 50, 50, 51, 51, 55, 50, 48, 51, 54, 56, 53, 52, 55, 55, 53, 56, 48, 56]⟩, .int .i64 0]) ∧ Below V.heap.size V w' := by
  refine Calls.mono (wprint_any true (.slice a 2 c) [0, 2147483648] V s wn_km.chk ht) ?_
  rintro e w' ⟨T, rfl, hT, hb⟩
  have e1 : wtext true [0, 2147483648] = [45, 57, 50, 50, 51, 51, 55, 50, 48, 51, 54, 56, 53, 52, 55, 55, 53, 56, 48, 56] := by decide +kernel
  obtain rfl : T = ⟨#[45, 57, 50, 50, 51, 51, 55, 50, 48, 51, 54, 56, 53, 52, 55, 55, 53, 56, 48, 56]⟩ := ByteArray.ext (Array.toList_inj.1 (hT.trans e1))
  exact ⟨rfl, hb⟩
theorem wn_parse_bad (t : ByteArray) (V : World) (hs : t.size ≤ 65536) (h : ¬ (IsNum (wdig (wneg t) t.data.toList) ∧ (wneg t = false ∨ 0 < wnum t))) : Calls Tryz.prog 13 #[.string t] V (Kt V false [] 0 120) := by
  have H := wparse_any t V hs
  have e : wpErr t = 120 := by unfold wpErr; rw [if_neg (by omega), if_neg h]
  rw [e] at H
  exact told_er H (by decide)
theorem wn_parse_long (t : ByteArray) (V : World) (hs : t.size = 65537) : Calls Tryz.prog 13 #[.string t] V (Kt V false [] 0 3) := by
  have H := wparse_full t V (by rw [hs]; decide)
  have e : wpErr t = 3 := by unfold wpErr; rw [if_pos (by omega)]
  rw [e] at H
  exact told_er H (by decide)
theorem wn_repeat (V : World) : Calls Tryz.prog 14 #[.string ⟨#[49]⟩, .int .i64 65537] V fun e w' => ∃ t : ByteArray, e = .returned (.string t) ∧ Hid (t.size = 65537) ∧ Below V.heap.size V w' := by
  refine Calls.mono (Tryz.strings_Repeat_main ⟨#[49]⟩ 65537 V (by decide) (by decide) (by decide) (by decide)) ?_
  rintro e w' ⟨rfl, hb⟩
  refine ⟨_, rfl, ?_, hb⟩
  have h := repeatL_length (⟨#[49]⟩ : ByteArray).data.toList 65537
  show (repeatL (⟨#[49]⟩ : ByteArray).data.toList 65537).toArray.size = 65537
  rw [List.size_toArray, h]
  rfl
theorem wn_bad0 : ¬ (IsNum (wdig (wneg ⟨#[]⟩) (⟨#[]⟩ : ByteArray).data.toList) ∧ (wneg ⟨#[]⟩ = false ∨ 0 < wnum ⟨#[]⟩)) := by unfold IsNum Dg; decide +kernel
theorem wn_bad1 : ¬ (IsNum (wdig (wneg ⟨#[45]⟩) (⟨#[45]⟩ : ByteArray).data.toList) ∧ (wneg ⟨#[45]⟩ = false ∨ 0 < wnum ⟨#[45]⟩)) := by unfold IsNum Dg; decide +kernel
theorem wn_bad2 : ¬ (IsNum (wdig (wneg ⟨#[45, 48]⟩) (⟨#[45, 48]⟩ : ByteArray).data.toList) ∧ (wneg ⟨#[45, 48]⟩ = false ∨ 0 < wnum ⟨#[45, 48]⟩)) := by unfold IsNum Dg; decide +kernel
theorem wn_bad3 : ¬ (IsNum (wdig (wneg ⟨#[48, 55]⟩) (⟨#[48, 55]⟩ : ByteArray).data.toList) ∧ (wneg ⟨#[48, 55]⟩ = false ∨ 0 < wnum ⟨#[48, 55]⟩)) := by unfold IsNum Dg; decide +kernel
theorem wn_bad4 : ¬ (IsNum (wdig (wneg ⟨#[43, 49]⟩) (⟨#[43, 49]⟩ : ByteArray).data.toList) ∧ (wneg ⟨#[43, 49]⟩ = false ∨ 0 < wnum ⟨#[43, 49]⟩)) := by unfold IsNum Dg; decide +kernel
theorem wn_bad5 : ¬ (IsNum (wdig (wneg ⟨#[49, 32]⟩) (⟨#[49, 32]⟩ : ByteArray).data.toList) ∧ (wneg ⟨#[49, 32]⟩ = false ∨ 0 < wnum ⟨#[49, 32]⟩)) := by unfold IsNum Dg; decide +kernel
-- long rows
def wnRow (n : Nat) : Obj := .cells (madeCells #[.int .u32 0] n) 42
theorem wn_make (n : Int) (hn : 0 ≤ n ∧ n ≤ 4096) (w : World) : (Instr.makeSlice 23 (.int .i64 n) (.int .i64 n)).run Tryz.prog w = .ok (.slice (some ⟨w.heap.size, 0, none⟩) n.toNat n.toNat) (w.alloc (wnRow n.toNat)) := by
  obtain ⟨i0, hi, hz0, hz1, hz2⟩ := info_parts Tryz.infoW
  have := run_make (P := Tryz.prog) w 23 42 i0 (.int .u32 0) Tryz.underlying23 hi hz0 .i64 .i64 n n (by omega) (by omega) (by rw [hz2]; omega) (by omega)
  rw [hz1, show (Value.int .u32 0).cells = #[Value.int .u32 0] from rfl, Nat.mul_one] at this
  exact this
theorem wn_make49 (w : World) : (Instr.makeSlice 23 (.int .i64 2049) (.int .i64 2049)).run Tryz.prog w = .ok (.slice (some ⟨w.heap.size, 0, none⟩) 2049 2049) (w.alloc (wnRow 2049)) := wn_make 2049 (by decide) w
theorem wn_make48 (w : World) : (Instr.makeSlice 23 (.int .i64 2048) (.int .i64 2048)).run Tryz.prog w = .ok (.slice (some ⟨w.heap.size, 0, none⟩) 2048 2048) (w.alloc (wnRow 2048)) := wn_make 2048 (by decide) w
theorem wn_own_zero (w : World) (n : Nat) (hm : n ≤ maxLen) : OwnC (w.alloc (wnRow n)) w.heap.size w.heap.size n n (List.replicate n 0) := by
  have h := Box.made w 42 (madeCells #[.int .u32 0] n)
  have e : madeCells #[.int .u32 0] n = ((List.replicate n (0 : Int)).map (Value.int .u32)).toArray := by rw [← made_words]
  have h2 : (w.alloc (wnRow n)).heap[w.heap.size]? = some (.cells (((List.replicate n (0 : Int)).map (Value.int .u32)).toArray) 42 (0, 0)) := by rw [← e]; exact h
  exact whole_row h2 (by simp) (Nat.le_refl _) hm
def wnB (N : Nat) : List Int := List.replicate N 0 ++ [2147483648]
theorem wnB_set (N : Nat) : (List.replicate (N + 1) (0 : Int)).set N 2147483648 = wnB N := by
  unfold wnB
  rw [List.replicate_succ', List.set_append_right _ _ (by simp)]
  simp
theorem wnB_len (N : Nat) : (wnB N).length = N + 1 := by simp [wnB]
theorem wnB_wd (N : Nat) : Wd (wnB N) := by
  intro z hz
  unfold wnB at hz
  rcases List.mem_append.1 hz with h | h
  · rw [List.eq_of_mem_replicate h]; omega
  · rw [List.mem_singleton.1 h]; omega
theorem wn_val0 (N : Nat) : val (List.replicate N (0 : Int)) = 0 := by
  have key : ∀ k, valTo (List.replicate N (0 : Int)) k = 0 := by
    intro k
    induction k with
    | zero => rfl
    | succ k ih =>
      rw [valTo_succ, ih]
      have e : (List.replicate N (0 : Int))[k]?.getD 0 = 0 := by
        rw [List.getElem?_replicate]
        split <;> rfl
      rw [e]; simp
  exact key _
theorem wnB_val (N : Nat) : val (wnB N) = 2147483648 * 4294967296 ^ N := by
  unfold wnB
  rw [val_snoc, wn_val0, List.length_replicate]; simp
theorem wnB_trim (N : Nat) : Trimmed (wnB N) := by
  refine (sz_eq_iff _).2 (.inr ?_)
  rw [wnB_len]
  unfold wnB
  rw [Nat.add_sub_cancel, List.getElem?_append_right (by simp)]
  simp
def wnBig : List Int := wnB 2047
theorem wnBig_set : (List.replicate 2048 (0 : Int)).set 2047 2147483648 = wnBig := wnB_set 2047
theorem wnBig_wd : Wd wnBig := wnB_wd 2047
theorem wnBig_len : wnBig.length = 2048 := wnB_len 2047
theorem wnBig_chk : wchk false wnBig = 0 := wchk_good (by rw [wnBig_len]; decide) (wnB_trim 2047) (.inl rfl)
theorem wnB_lim (N : Nat) : (4294967296 : Int) ^ (N + 1) ≤ wval false (wnB N) * 2 := by
  have e : wval false (wnB N) = val (wnB N) := rfl
  rw [e, wnB_val, Int.pow_succ]
  omega
theorem wnBig_lim : wlim ≤ wval false wnBig * 2 := wnB_lim 2047
theorem wn_zero_wd (n : Nat) : Wd (List.replicate n (0 : Int)) := by
  intro z hz
  rw [List.eq_of_mem_replicate hz]; omega
theorem wn_long (n : Bool) {xs : List Int} (h : 2048 < xs.length) : wchk n xs = 3 := by unfold wchk; rw [if_pos h]
theorem wn_check {n : Bool} {v : Value} {xs : List Int} {r : Int} (V : World) (s : Sl V v xs) (hn : xs.length ≤ 281474976710656) (e : wchk n xs = r) : Calls Tryz.prog 15 #[.agg #[.bool n, v]] V fun x w' => x = .returned (.int .i64 r) ∧ Below V.heap.size V w' := by
  have H := wcheck_any n v xs V s hn
  rw [e] at H
  exact H
theorem wn_two : WnK 2 false [2] 1 := wn_k1 false 2 2 (by decide) (by decide)
theorem wn_one : WnK 1 false [1] 1 := wn_k1 false 1 1 (by decide) (by decide)
theorem wn_mul2 (g : Nat) (b : Option Addr) (d : Nat) (V : World) (s : Sl V (.slice (some ⟨g, 0, none⟩) 2048 2048) wnBig) (t : Sl V (.slice b 1 d) [2]) : Calls Tryz.prog 16 #[.agg #[.bool false, .slice (some ⟨g, 0, none⟩) 2048 2048], .agg #[.bool false, .slice b 1 d]] V (Kt V false [] 0 3) := by
  have H := wmul_any false _ wnBig false _ [2] V s t (by rw [wnBig_len]; decide) (by decide)
  have e : wboth false wnBig false [2] = 0 := by unfold wboth; rw [wnBig_chk, wn_two.chk]; rfl
  rw [e, wn_two.num] at H
  exact told_lg H wnBig_lim
theorem wn_mul1 (g : Nat) (b : Option Addr) (d : Nat) (V : World) (s : Sl V (.slice (some ⟨g, 0, none⟩) 2048 2048) wnBig) (t : Sl V (.slice b 1 d) [1]) : Calls Tryz.prog 16 #[.agg #[.bool false, .slice (some ⟨g, 0, none⟩) 2048 2048], .agg #[.bool false, .slice b 1 d]] V (Kt V false wnBig 2048 0) := by
  have H := wmul_any false _ wnBig false _ [1] V s t (by rw [wnBig_len]; decide) (by decide)
  have e : wboth false wnBig false [1] = 0 := by unfold wboth; rw [wnBig_chk, wn_one.chk]; rfl
  rw [e, wn_one.num, Int.mul_one] at H
  exact told_kn H false wnBig 2048 wnBig_len wnBig_wd wnBig_chk rfl
theorem wn_same (v u : Value) (V : World) (s : Sl V v wnBig) (t : Sl V u wnBig) : Calls Tryz.prog 18 #[v, u] V fun e w' => e = .returned (.bool true) ∧ Below V.heap.size V w' := by
  have H := same_sl v u wnBig wnBig V s t (by rw [wnBig_len]; decide) (by rw [wnBig_len]; decide)
  rw [decide_eq_true rfl] at H
  exact H
theorem wn_box_same {w : World} {b t : Nat} {vs : Array Value} (h : Box w b t vs) {j : Nat} {v : Value} (hv : vs[j]? = some v) : w.setCell ⟨b, j, none⟩ v = w := by
  have e : (w.setCell ⟨b, j, none⟩ v).heap = w.heap := by
    have h' : w.heap[b]? = some (.cells vs t (0, 0)) := h
    have hs : vs.setIfInBounds j v = vs := by
      apply Array.ext_getElem?
      intro k
      rw [Array.getElem?_setIfInBounds]
      by_cases c : j = k
      · subst c
        obtain ⟨hk, _⟩ := Array.getElem?_eq_some_iff.1 hv
        rw [if_pos rfl, if_pos hk, hv]
      · rw [if_neg c]
    unfold World.setCell
    apply Array.ext_getElem?
    intro k
    simp only [Array.getElem?_modify]
    by_cases c : b = k
    · subst c
      rw [if_pos rfl, h']
      simp [hs]
    · rw [if_neg c]
  cases w
  simp only [World.setCell] at e ⊢
  rw [e]
theorem wn_zz (w Y : World) (hY : (w.alloc (.cells #[.bool false, .slice none 0 0] 25)).alloc (.cells #[.bool false, .slice none 0 0] 25) = Y) : ((Y.cell? ⟨w.heap.size, 0, none⟩ = some (.bool false) ∧ Y.cell? ⟨w.heap.size, 1, none⟩ = some (.slice none 0 0) ∧ Y.cell? ⟨w.heap.size + 1, 0, none⟩ = some (.bool false) ∧ Y.cell? ⟨w.heap.size + 1, 1, none⟩ = some (.slice none 0 0)) ∧ (Y.frozen? ⟨w.heap.size, 0, none⟩ = false ∧ Y.frozen? ⟨w.heap.size, 1, none⟩ = false ∧ Y.frozen? ⟨w.heap.size + 1, 0, none⟩ = false ∧ Y.frozen? ⟨w.heap.size + 1, 1, none⟩ = false) ∧ Y.setCell ⟨w.heap.size, 0, none⟩ (.bool false) = Y ∧ Y.setCell ⟨w.heap.size, 1, none⟩ (.slice none 0 0) = Y ∧ Y.setCell ⟨w.heap.size + 1, 0, none⟩ (.bool false) = Y ∧ Y.setCell ⟨w.heap.size + 1, 1, none⟩ (.slice none 0 0) = Y) ∧ Below w.heap.size w Y := by
  have e1 := Box.made w 25 #[.bool false, .slice none 0 0]
  have l1 := alloc_later w (.cells #[.bool false, .slice none 0 0] 25)
  have e2 := Box.made (w.alloc (.cells #[.bool false, .slice none 0 0] 25)) 25 #[.bool false, .slice none 0 0]
  have l2 := alloc_later (w.alloc (.cells #[.bool false, .slice none 0 0] 25)) (.cells #[.bool false, .slice none 0 0] 25)
  have e3 := e1.later l2 e1.lt
  rw [hY] at e2 e3 l2
  have es : (w.alloc (.cells #[.bool false, .slice none 0 0] 25)).heap.size = w.heap.size + 1 := by simp
  have l3 := bt l1 l2
  rw [es] at e2
  exact ⟨⟨⟨e3.cell 0, e3.cell 1, e2.cell 0, e2.cell 1⟩, ⟨e3.free 0, e3.free 1, e2.free 0, e2.free 1⟩, wn_box_same e3 rfl, wn_box_same e3 rfl, wn_box_same e2 rfl, wn_box_same e2 rfl⟩, l3⟩
/-- The table of the first examples. -/
theorem wn_tab (k : Nat) (hk : k < 4) : ∃ (x y q : Int) (n : Bool) (zs : List Int) (m : Bool) (us : List Int) (nq : Bool) (qs : List Int), (#[.int .i64 7, .int .i64 (-7), .int .i64 7, .int .i64 (-7)] : Array Value)[k]? = some (.int .i64 x) ∧ (#[.int .i64 2, .int .i64 2, .int .i64 (-2), .int .i64 (-2)] : Array Value)[k]? = some (.int .i64 y) ∧ (#[.int .i64 3, .int .i64 (-4), .int .i64 (-3), .int .i64 4] : Array Value)[k]? = some (.int .i64 q) ∧ WnK x n zs 1 ∧ WnK y m us 1 ∧ WnK q nq qs 1 ∧ x = q * y + val [1] ∧ val [1] < (y.natAbs : Int) := by
  have v1 : val [1] = 1 := by simp [val, valTo]
  rw [v1]
  rcases k with _ | _ | _ | _ | k
  · exact ⟨7, 2, 3, false, [7], false, [2], false, [3], rfl, rfl, rfl, wn_k1 _ _ _ (by decide) (by decide), wn_k1 _ _ _ (by decide) (by decide), wn_k1 _ _ _ (by decide) (by decide), by decide, by decide⟩
  · exact ⟨-7, 2, -4, true, [7], false, [2], true, [4], rfl, rfl, rfl, wn_k1 _ _ _ (by decide) (by decide), wn_k1 _ _ _ (by decide) (by decide), wn_k1 _ _ _ (by decide) (by decide), by decide, by decide⟩
  · exact ⟨7, -2, -3, false, [7], true, [2], true, [3], rfl, rfl, rfl, wn_k1 _ _ _ (by decide) (by decide), wn_k1 _ _ _ (by decide) (by decide), wn_k1 _ _ _ (by decide) (by decide), by decide, by decide⟩
  · exact ⟨-7, -2, 4, true, [7], true, [2], false, [4], rfl, rfl, rfl, wn_k1 _ _ _ (by decide) (by decide), wn_k1 _ _ _ (by decide) (by decide), wn_k1 _ _ _ (by decide) (by decide), by decide, by decide⟩
  · omega
/-- The ways in which two boxes come to hold quotient and rest. -/
theorem wn_s1 {X z3 : World} {nq : Bool} {qs : List Int} {kq : Nat} {rs : List Int} {kr : Nat} {a1 : Option Addr} {c1 : Nat} {b1 : Option Addr} {d1 : Nat} (hb3 : Below X.heap.size X z3) (r : WnRow X.heap.size z3 a1 kq c1 qs ∧ WnRow X.heap.size z3 b1 kr d1 rs) :
    WnCut X nq qs kq rs kr (.pointer (some ⟨z3.heap.size, 0, none⟩)) (.pointer (some ⟨z3.heap.size + 1, 0, none⟩)) (.int .i64 0) ((z3.alloc (.cells #[.bool nq, .slice a1 kq c1] 25)).alloc (.cells #[.bool false, .slice b1 kr d1] 25)) := by
  have l1 := alloc_later z3 (.cells #[.bool nq, .slice a1 kq c1] 25)
  have l2 := alloc_later (z3.alloc (.cells #[.bool nq, .slice a1 kq c1] 25)) (.cells #[.bool false, .slice b1 kr d1] 25)
  have e1 := Box.made z3 25 #[.bool nq, .slice a1 kq c1]
  have e2 := Box.made (z3.alloc (.cells #[.bool nq, .slice a1 kq c1] 25)) 25 #[.bool false, .slice b1 kr d1]
  rw [show (z3.alloc (.cells #[.bool nq, .slice a1 kq c1] 25)).heap.size = z3.heap.size + 1 by simp] at e2
  exact ⟨⟨_, _, a1, c1, b1, d1, rfl, rfl, rfl, e1.later l2 e1.lt, e2, (r.1.later l1).later l2, (r.2.later l1).later l2⟩, bt hb3 (bt l1 l2)⟩
theorem wn_s1' {X z3 : World} {nq : Bool} {qs : List Int} {kq : Nat} {rs : List Int} {kr : Nat} {a1 : Option Addr} {c1 : Nat} {b1 : Option Addr} {d1 : Nat} (hb3 : Below X.heap.size X z3) (r : WnRow X.heap.size z3 a1 kq c1 qs ∧ WnRow X.heap.size z3 b1 kr d1 rs) :
    WnCut X nq qs kq rs kr (.pointer (some ⟨z3.heap.size + 1, 0, none⟩)) (.pointer (some ⟨z3.heap.size, 0, none⟩)) (.int .i64 0) ((z3.alloc (.cells #[.bool false, .slice b1 kr d1] 25)).alloc (.cells #[.bool nq, .slice a1 kq c1] 25)) := by
  have l1 := alloc_later z3 (.cells #[.bool false, .slice b1 kr d1] 25)
  have l2 := alloc_later (z3.alloc (.cells #[.bool false, .slice b1 kr d1] 25)) (.cells #[.bool nq, .slice a1 kq c1] 25)
  have e1 := Box.made z3 25 #[.bool false, .slice b1 kr d1]
  have e2 := Box.made (z3.alloc (.cells #[.bool false, .slice b1 kr d1] 25)) 25 #[.bool nq, .slice a1 kq c1]
  rw [show (z3.alloc (.cells #[.bool false, .slice b1 kr d1] 25)).heap.size = z3.heap.size + 1 by simp] at e2
  exact ⟨⟨_, _, a1, c1, b1, d1, rfl, rfl, rfl, e2, e1.later l2 e1.lt, (r.1.later l1).later l2, (r.2.later l1).later l2⟩, bt hb3 (bt l1 l2)⟩
theorem wn_ne32 : 42 ≠ 25 := by decide
theorem wn_s2 {X z3 : World} {nq : Bool} {qs : List Int} {kq : Nat} {rs : List Int} {kr : Nat} {a1 : Option Addr} {c1 : Nat} {b1 : Option Addr} {d1 : Nat} {p : Nat} {u0 u1 : Value} (hb3 : Below X.heap.size X z3) (r : WnRow X.heap.size z3 a1 kq c1 qs ∧ WnRow X.heap.size z3 b1 kr d1 rs) (hp : Box z3 p 25 #[u0, u1]) (hl : X.heap.size ≤ p) :
    WnCut X nq qs kq rs kr (.pointer (some ⟨p, 0, none⟩)) (.pointer (some ⟨z3.heap.size, 0, none⟩)) (.int .i64 0) (((z3.setCell ⟨p, 0, none⟩ (.bool nq)).setCell ⟨p, 1, none⟩ (.slice a1 kq c1)).alloc (.cells #[.bool false, .slice b1 kr d1] 25)) := by
  have h1 := wn_put2_box hp (.bool nq) (.slice a1 kq c1)
  have q1 := wn_row_put r.1 hp wn_ne32 (.bool nq) (.slice a1 kq c1)
  have q2 := wn_row_put r.2 hp wn_ne32 (.bool nq) (.slice a1 kq c1)
  have hb := below_put2 hb3 p hl (.bool nq) (.slice a1 kq c1)
  have hsz : ((z3.setCell ⟨p, 0, none⟩ (.bool nq)).setCell ⟨p, 1, none⟩ (.slice a1 kq c1)).heap.size = z3.heap.size := by simp [World.setCell]
  generalize (z3.setCell ⟨p, 0, none⟩ (.bool nq)).setCell ⟨p, 1, none⟩ (.slice a1 kq c1) = V at *
  have l1 := alloc_later V (.cells #[.bool false, .slice b1 kr d1] 25)
  have e1 := Box.made V 25 #[.bool false, .slice b1 kr d1]
  rw [hsz] at e1
  exact ⟨⟨_, _, a1, c1, b1, d1, rfl, rfl, rfl, h1.later l1 h1.lt, e1, q1.later l1, q2.later l1⟩, bt hb l1⟩
theorem wn_s3 {X z3 : World} {nq : Bool} {qs : List Int} {kq : Nat} {rs : List Int} {kr : Nat} {a1 : Option Addr} {c1 : Nat} {b1 : Option Addr} {d1 : Nat} {p : Nat} {u0 u1 : Value} (hb3 : Below X.heap.size X z3) (r : WnRow X.heap.size z3 a1 kq c1 qs ∧ WnRow X.heap.size z3 b1 kr d1 rs) (hp : Box z3 p 25 #[u0, u1]) (hl : X.heap.size ≤ p) :
    WnCut X nq qs kq rs kr (.pointer (some ⟨z3.heap.size, 0, none⟩)) (.pointer (some ⟨p, 0, none⟩)) (.int .i64 0) (((z3.setCell ⟨p, 0, none⟩ (.bool false)).setCell ⟨p, 1, none⟩ (.slice b1 kr d1)).alloc (.cells #[.bool nq, .slice a1 kq c1] 25)) := by
  have h1 := wn_put2_box hp (.bool false) (.slice b1 kr d1)
  have q1 := wn_row_put r.1 hp wn_ne32 (.bool false) (.slice b1 kr d1)
  have q2 := wn_row_put r.2 hp wn_ne32 (.bool false) (.slice b1 kr d1)
  have hb := below_put2 hb3 p hl (.bool false) (.slice b1 kr d1)
  have hsz : ((z3.setCell ⟨p, 0, none⟩ (.bool false)).setCell ⟨p, 1, none⟩ (.slice b1 kr d1)).heap.size = z3.heap.size := by simp [World.setCell]
  generalize (z3.setCell ⟨p, 0, none⟩ (.bool false)).setCell ⟨p, 1, none⟩ (.slice b1 kr d1) = V at *
  have l1 := alloc_later V (.cells #[.bool nq, .slice a1 kq c1] 25)
  have e1 := Box.made V 25 #[.bool nq, .slice a1 kq c1]
  rw [hsz] at e1
  exact ⟨⟨_, _, a1, c1, b1, d1, rfl, rfl, rfl, e1, h1.later l1 h1.lt, q1.later l1, q2.later l1⟩, bt hb l1⟩
theorem wn_s4 {X z3 : World} {nq : Bool} {qs : List Int} {kq : Nat} {rs : List Int} {kr : Nat} {a1 : Option Addr} {c1 : Nat} {b1 : Option Addr} {d1 : Nat} {p q : Nat} {u0 u1 t0 t1 : Value} (hb3 : Below X.heap.size X z3) (r : WnRow X.heap.size z3 a1 kq c1 qs ∧ WnRow X.heap.size z3 b1 kr d1 rs) (hp : Box z3 p 25 #[u0, u1]) (hq : Box z3 q 25 #[t0, t1]) (hl : X.heap.size ≤ p) (hm : X.heap.size ≤ q) (hne : p ≠ q) :
    WnCut X nq qs kq rs kr (.pointer (some ⟨p, 0, none⟩)) (.pointer (some ⟨q, 0, none⟩)) (.int .i64 0) ((((z3.setCell ⟨p, 0, none⟩ (.bool nq)).setCell ⟨p, 1, none⟩ (.slice a1 kq c1)).setCell ⟨q, 0, none⟩ (.bool false)).setCell ⟨q, 1, none⟩ (.slice b1 kr d1)) := by
  have h1 := wn_put2_box hp (.bool nq) (.slice a1 kq c1)
  have h2 := wn_put2_far hq (fun e => hne e.symm) (.bool nq) (.slice a1 kq c1)
  have q1 := wn_row_put r.1 hp wn_ne32 (.bool nq) (.slice a1 kq c1)
  have q2 := wn_row_put r.2 hp wn_ne32 (.bool nq) (.slice a1 kq c1)
  have hb := below_put2 hb3 p hl (.bool nq) (.slice a1 kq c1)
  exact ⟨⟨p, q, a1, c1, b1, d1, rfl, rfl, rfl, wn_put2_far h1 hne _ _, wn_put2_box h2 _ _, wn_row_put q1 h2 wn_ne32 _ _, wn_row_put q2 h2 wn_ne32 _ _⟩, below_put2 hb q hm _ _⟩
theorem wn_wd10 : Wd [1, 0] := fun z hz => by
  simp at hz
  rcases hz with rfl | rfl <;> omega
theorem wn_chk10 : wchk false [1, 0] = 11 := by decide
theorem wn_chkneg : wchk true [] = 11 := by decide
theorem wn_len49 : (List.replicate 2049 (0 : Int)).length ≤ 281474976710656 := by rw [List.length_replicate]; decide
theorem wn_chk49 : wchk false (List.replicate 2049 (0 : Int)) = 3 := wn_long false (by rw [List.length_replicate]; decide)
theorem wn_get47 : (some (Value.int .u32 ((List.replicate 2048 (0 : Int))[2047]?.getD 0)) : Option Value) = some (.int .u32 0) := by
  rw [List.getElem?_replicate]
  simp
theorem wn_own_of_box {w : World} {base g n : Nat} {ys : List Int} (h : Box w g 42 (ys.map (Value.int .u32)).toArray) (hb : base ≤ g) (hl : ys.length = n) (hm : n ≤ maxLen) : OwnC w base g n n ys := whole_row h (by simp [hl]) hb hm
theorem wn_box2 {V W : World} {o : Obj} {t : Nat} {vs : Array Value} (hv : Below ((V.alloc o).alloc (.cells vs t)).heap.size ((V.alloc o).alloc (.cells vs t)) W) : Box W (V.heap.size + 1) t vs := by
  have e2 := Box.made (V.alloc o) t vs
  rw [show (V.alloc o).heap.size = V.heap.size + 1 by simp] at e2
  exact e2.later hv e2.lt
theorem wn_md (V : World) (vs : Array Value) (t : Nat) : Box (V.alloc (.cells vs t)).drew V.heap.size t vs := Box.made V t vs
theorem wn_md1 (V : World) (vs : Array Value) (t : Nat) (o : Obj) : Box ((V.alloc (.cells vs t)).alloc o).drew V.heap.size t vs := by
  have h := (Box.made V t vs).later (alloc_later (V.alloc (.cells vs t)) o) (Box.made V t vs).lt
  exact h
theorem wn_md2 (V : World) (vs : Array Value) (t : Nat) (o : Obj) : Box ((V.alloc o).alloc (.cells vs t)).drew (V.heap.size + 1) t vs := by
  have e2 := Box.made (V.alloc o) t vs
  rw [show (V.alloc o).heap.size = V.heap.size + 1 by simp] at e2
  exact e2
end Go.Proofs.YtomdkingdniohaaGreatDoor

/- WholeNames: chapter 2's examples. -/
namespace Go.Proofs.YtomdkingdniohaaGreatDoor
open Go.RowKit Go.Lib
set_option linter.unusedVariables false

set_option maxHeartbeats 12800000 in
set_option maxRecDepth 100000 in
theorem wholeNames_any (w : World) (htab : Tab w) :
    Calls Tryz.prog 3 #[] w fun e w' => e = .returned (.bool true) ∧ Below w.heap.size w w' := by
  have HW0 := hid (Below.refl w.heap.size w)
  have HT : Hid (∀ V, Below w.heap.size w V → Tab V) := fun V hv => htab.later hv
  have HX := hid (wn_boxes3 w 2 #[.int .i64 7, .int .i64 (-7), .int .i64 7, .int .i64 (-7)] #[.int .i64 2, .int .i64 2, .int .i64 (-2), .int .i64 (-2)] #[.int .i64 3, .int .i64 (-4), .int .i64 (-3), .int .i64 4])
  obtain ⟨X, hX⟩ : ∃ X, ((w.alloc (.cells #[.int .i64 7, .int .i64 (-7), .int .i64 7, .int .i64 (-7)] 2)).alloc (.cells #[.int .i64 2, .int .i64 2, .int .i64 (-2), .int .i64 (-2)] 2)).alloc (.cells #[.int .i64 3, .int .i64 (-4), .int .i64 (-3), .int .i64 4] 2) = X := ⟨_, rfl⟩
  rw [hX] at HX
  have HBx0 := hid HX.out.1
  have HBy0 := hid HX.out.2.1
  have HBq0 := hid HX.out.2.2.1
  have HWX := hid (bt HW0.out HX.out.2.2.2)
  clear htab HX HW0
  go_enter Tryz.func3, Tryz.ntmps3
  go_wp2_with fail
  clear hX
  go_loopw [5] (fun t wr => ∃ k : Nat, k ≤ 4 ∧ t = .int .i64 k ∧ Hid (Below X.heap.size X wr)) (fun t _ => 4 - (RowKit.intOf t).toNat)
  case atStart => exact ⟨0, by decide, rfl, Below.refl _ _⟩
  case round =>
    obtain ⟨k, hk, rfl, HW⟩ := hrel
    by_cases hlt : k < 4
    · obtain ⟨x, y, q, n, zs, m, us, nq, qs, hvx, hvy, hvq, KX, KY, KQ, hdiv, hrem⟩ := wn_tab k hlt
      have HS3 : Hid (∀ V, Below wr.heap.size wr V → V.cell? ⟨w.heap.size, k, none⟩ = some (.int .i64 x) ∧ V.cell? ⟨w.heap.size + 1, k, none⟩ = some (.int .i64 y)) := fun V hv => by
        have hX := bt HW.out hv
        exact ⟨((HBx0.out.later hX HBx0.out.lt).cell k).trans hvx, ((HBy0.out.later hX HBy0.out.lt).cell k).trans hvy⟩
      have HQ3 : Hid (∀ V, Below wr.heap.size wr V → V.cell? ⟨w.heap.size + 1 + 1, k, none⟩ = some (.int .i64 q)) := fun V hv => ((HBq0.out.later (bt HW.out hv) HBq0.out.lt).cell k).trans hvq
      have HO1 := hid (wn_of_reg wr KX)
      have HO2 := hid (wn_of_reg wr KY)
      have HDV := hid (wn_div_reg wr KX KY (by decide) KQ (rs := [1]) (kr := 1) rfl (wn_wd1 1 (by decide)) wn_t1 hdiv hrem)
      have HKQ := hid KQ
      have HD0 := hid (Below.drew (Below.refl wr.heap.size wr))
      have hs0 := HS3.out _ HD0.out
      have hk4 : (k : Int) < 4 := by omega
      have hkk := hid (And.intro hk hlt)
      clear hvx hvy hvq KX KY KQ hdiv hrem hk
      go_upto_region 8 with fail
      go_cut [6, 7, 8] from 42 to 76 (fun s6 s7 s8 wx => Hid (WnCut wr nq qs 1 [1] 1 s6 s7 s8 wx))
      case first =>
        go_region_held3 (fun V : World => V.cell? ⟨w.heap.size, k, none⟩ = some (.int .i64 x) ∧ V.cell? ⟨w.heap.size + 1, k, none⟩ = some (.int .i64 y)) (first | with_reducible exact hs3 | with_reducible exact hs2 | with_reducible exact hs1 | with_reducible exact hs0 | (refine HS3.out _ ?_; repeat' first | exact hb3 | exact hb2 | exact hb1 | exact HD0.out | exact Below.refl _ _ | refine wn_balloc1 ?_ _ | refine Below.drew ?_ | refine below_put2 ?_ _ ?_ _ _ | exact Nat.le_refl _ | exact hb1.size | exact hb2.size | omega))
          (first
            | (go_at_call 5; (with_reducible refine Calls.mono (HO1.out _ (by repeat' first | exact HD0.out | refine wn_balloc1 ?_ _ | refine Below.drew ?_ | exact Below.refl _ _)) ?_); rintro e z1 ⟨a0, c0, rfl, hb1, hv1, HR1⟩; obtain ⟨fa1, fa2, fa3⟩ := wn_far hv1; have hs1 := HS3.out z1 hb1; have hl1 := hb1.size; have g1 := hv1.size; (try simp at g1); (try have na0 : wr.heap.size ≠ z1.heap.size := (by omega)); (try have na0s : z1.heap.size ≠ wr.heap.size := (by omega)); (try have na1 : wr.heap.size + 1 ≠ z1.heap.size := (by omega)); (try have na1s : z1.heap.size ≠ wr.heap.size + 1 := (by omega)); (try have B0 : Hid (Box z1 wr.heap.size 25 #[.bool false, .slice none 0 0]) := (by first | exact (wn_md wr _ _).later hv1 (wn_md wr _ _).lt | exact (wn_md1 wr _ _ _).later hv1 (wn_md1 wr _ _ _).lt)); (try have B0' : Hid (Box z1 (wr.heap.size + 1) 25 #[.bool false, .slice none 0 0]) := (wn_md2 wr _ _ _).later hv1 (wn_md2 wr _ _ _).lt))
            | (go_at_call 5; (with_reducible refine Calls.mono (HO2.out _ (by repeat' first | exact hb1 | refine wn_balloc1 ?_ _)) ?_); rintro e z2 ⟨a2, c2, rfl, hb2, hv2, HR2⟩; obtain ⟨fb1, fb2, fb3⟩ := wn_far hv2; have hs2 := HS3.out z2 hb2; have hl2 := hb2.size; have hz12 : Below z1.heap.size z1 z2 := (by first | exact hv2 | exact bt (alloc_later _ _) hv2 | exact bt (bt (alloc_later _ _) (alloc_later _ _)) hv2); have HR1b := hid (HR1.out.later hz12); obtain ⟨fd1, fd2, fd3⟩ := wn_far (bt hv1 hz12); have g2 := hv2.size; (try simp at g2); (try have nb0 : wr.heap.size ≠ z2.heap.size := (by omega)); (try have nb0s : z2.heap.size ≠ wr.heap.size := (by omega)); (try have nb1 : wr.heap.size + 1 ≠ z2.heap.size := (by omega)); (try have nb1s : z2.heap.size ≠ wr.heap.size + 1 := (by omega)); (try have nb2 : z1.heap.size ≠ z2.heap.size := (by omega)); (try have nb2s : z2.heap.size ≠ z1.heap.size := (by omega)); (try have nb3 : z1.heap.size + 1 ≠ z2.heap.size := (by omega)); (try have nb3s : z2.heap.size ≠ z1.heap.size + 1 := (by omega)); (try have B0 := hid (B0.out.later hz12 B0.out.lt)); (try have B0' := hid (B0'.out.later hz12 B0'.out.lt)); (try have B1 : Hid (Box z2 z1.heap.size 25 #[.bool false, .slice none 0 0]) := (by first | exact (Box.made z1 _ _).later hv2 (Box.made z1 _ _).lt | exact ((Box.made z1 _ _).later (alloc_later _ _) (Box.made z1 _ _).lt).later hv2 ((Box.made z1 _ _).later (alloc_later _ _) (Box.made z1 _ _).lt).lt)); (try have B1' : Hid (Box z2 (z1.heap.size + 1) 25 #[.bool false, .slice none 0 0]) := (wn_box2 (by exact hv2))); have hz12 := hid hz12)
            | (go_at_call 4; (with_reducible refine Calls.mono (HDV.out _ a0 c0 a2 c2 (by repeat' first | exact hb2 | refine wn_balloc1 ?_ _) (by first | exact HR1b.out | exact HR1b.out.later (alloc_later _ _) | exact (HR1b.out.later (alloc_later _ _)).later (alloc_later _ _)) (by first | exact HR2.out | exact HR2.out.later (alloc_later _ _) | exact (HR2.out.later (alloc_later _ _)).later (alloc_later _ _))) ?_); rintro e z3 ⟨a1, c1, b1, d1, rfl, hb3, hv3, HR3⟩; obtain ⟨fc1, fc2, fc3⟩ := wn_far hv3; have hs3 := HS3.out z3 hb3; have hl3 := hb3.size; have hz23 : Below z2.heap.size z2 z3 := (by first | exact hv3 | exact bt (alloc_later _ _) hv3 | exact bt (bt (alloc_later _ _) (alloc_later _ _)) hv3); obtain ⟨fe1, fe2, fe3⟩ := wn_far (bt hv2 hz23); obtain ⟨ff1, ff2, ff3⟩ := wn_far (bt hv1 (bt hz12.out hz23)); have g3 := hv3.size; (try simp at g3); (try have nc0 : wr.heap.size ≠ z3.heap.size := (by omega)); (try have nc0s : z3.heap.size ≠ wr.heap.size := (by omega)); (try have nc1 : wr.heap.size + 1 ≠ z3.heap.size := (by omega)); (try have nc1s : z3.heap.size ≠ wr.heap.size + 1 := (by omega)); (try have nc2 : z1.heap.size ≠ z3.heap.size := (by omega)); (try have nc2s : z3.heap.size ≠ z1.heap.size := (by omega)); (try have nc3 : z1.heap.size + 1 ≠ z3.heap.size := (by omega)); (try have nc3s : z3.heap.size ≠ z1.heap.size + 1 := (by omega)); (try have nc4 : z2.heap.size ≠ z3.heap.size := (by omega)); (try have nc4s : z3.heap.size ≠ z2.heap.size := (by omega)); (try have nc5 : z2.heap.size + 1 ≠ z3.heap.size := (by omega)); (try have nc5s : z3.heap.size ≠ z2.heap.size + 1 := (by omega)); (try have B0 := hid (B0.out.later hz23 B0.out.lt)); (try have B0' := hid (B0'.out.later hz23 B0'.out.lt)); (try have B1 := hid (B1.out.later hz23 B1.out.lt)); (try have B1' := hid (B1'.out.later hz23 B1'.out.lt)); (try have B2 : Hid (Box z3 z2.heap.size 25 #[.bool false, .slice none 0 0]) := (by first | exact (Box.made z2 _ _).later hv3 (Box.made z2 _ _).lt | exact ((Box.made z2 _ _).later (alloc_later _ _) (Box.made z2 _ _).lt).later hv3 ((Box.made z2 _ _).later (alloc_later _ _) (Box.made z2 _ _).lt).lt)); (try have B2' : Hid (Box z3 (z2.heap.size + 1) 25 #[.bool false, .slice none 0 0]) := (wn_box2 (by exact hv3))); have hz23 := hid hz23))
        all_goals
          clear HO1 HO2 HDV HS3 hs0 hs1 hs2 hs3 fa1 fa2 fa3 fb1 fb2 fb3 fc1 fc2 fc3 fd1 fd2 fd3 fe1 fe2 fe3 ff1 ff2 ff3 HR1 HR1b HR2
          go_wp2_with fail
          go_meet
        all_goals first | with_reducible exact hid (wn_s1 hb3 HR3.out) | with_reducible exact hid (wn_s1' hb3 HR3.out) | with_reducible exact hid (wn_s2 hb3 HR3.out B0.out (by omega)) | with_reducible exact hid (wn_s2 hb3 HR3.out B0'.out (by omega)) | with_reducible exact hid (wn_s2 hb3 HR3.out B1.out (by omega)) | with_reducible exact hid (wn_s2 hb3 HR3.out B1'.out (by omega)) | with_reducible exact hid (wn_s2 hb3 HR3.out B2.out (by omega)) | with_reducible exact hid (wn_s2 hb3 HR3.out B2'.out (by omega)) | with_reducible exact hid (wn_s3 hb3 HR3.out B0.out (by omega)) | with_reducible exact hid (wn_s3 hb3 HR3.out B0'.out (by omega)) | with_reducible exact hid (wn_s3 hb3 HR3.out B1.out (by omega)) | with_reducible exact hid (wn_s3 hb3 HR3.out B1'.out (by omega)) | with_reducible exact hid (wn_s3 hb3 HR3.out B2.out (by omega)) | with_reducible exact hid (wn_s3 hb3 HR3.out B2'.out (by omega)) | with_reducible exact hid (wn_s4 hb3 HR3.out B0.out B0'.out (by omega) (by omega) (by omega)) | with_reducible exact hid (wn_s4 hb3 HR3.out B0.out B1.out (by omega) (by omega) (by omega)) | with_reducible exact hid (wn_s4 hb3 HR3.out B0.out B1'.out (by omega) (by omega) (by omega)) | with_reducible exact hid (wn_s4 hb3 HR3.out B0.out B2.out (by omega) (by omega) (by omega)) | with_reducible exact hid (wn_s4 hb3 HR3.out B0.out B2'.out (by omega) (by omega) (by omega)) | with_reducible exact hid (wn_s4 hb3 HR3.out B0'.out B0.out (by omega) (by omega) (by omega)) | with_reducible exact hid (wn_s4 hb3 HR3.out B0'.out B1.out (by omega) (by omega) (by omega)) | with_reducible exact hid (wn_s4 hb3 HR3.out B0'.out B1'.out (by omega) (by omega) (by omega)) | with_reducible exact hid (wn_s4 hb3 HR3.out B0'.out B2.out (by omega) (by omega) (by omega)) | with_reducible exact hid (wn_s4 hb3 HR3.out B0'.out B2'.out (by omega) (by omega) (by omega)) | with_reducible exact hid (wn_s4 hb3 HR3.out B1.out B0.out (by omega) (by omega) (by omega)) | with_reducible exact hid (wn_s4 hb3 HR3.out B1.out B0'.out (by omega) (by omega) (by omega)) | with_reducible exact hid (wn_s4 hb3 HR3.out B1.out B1'.out (by omega) (by omega) (by omega)) | with_reducible exact hid (wn_s4 hb3 HR3.out B1.out B2.out (by omega) (by omega) (by omega)) | with_reducible exact hid (wn_s4 hb3 HR3.out B1.out B2'.out (by omega) (by omega) (by omega)) | with_reducible exact hid (wn_s4 hb3 HR3.out B1'.out B0.out (by omega) (by omega) (by omega)) | with_reducible exact hid (wn_s4 hb3 HR3.out B1'.out B0'.out (by omega) (by omega) (by omega)) | with_reducible exact hid (wn_s4 hb3 HR3.out B1'.out B1.out (by omega) (by omega) (by omega)) | with_reducible exact hid (wn_s4 hb3 HR3.out B1'.out B2.out (by omega) (by omega) (by omega)) | with_reducible exact hid (wn_s4 hb3 HR3.out B1'.out B2'.out (by omega) (by omega) (by omega)) | with_reducible exact hid (wn_s4 hb3 HR3.out B2.out B0.out (by omega) (by omega) (by omega)) | with_reducible exact hid (wn_s4 hb3 HR3.out B2.out B0'.out (by omega) (by omega) (by omega)) | with_reducible exact hid (wn_s4 hb3 HR3.out B2.out B1.out (by omega) (by omega) (by omega)) | with_reducible exact hid (wn_s4 hb3 HR3.out B2.out B1'.out (by omega) (by omega) (by omega)) | with_reducible exact hid (wn_s4 hb3 HR3.out B2.out B2'.out (by omega) (by omega) (by omega)) | with_reducible exact hid (wn_s4 hb3 HR3.out B2'.out B0.out (by omega) (by omega) (by omega)) | with_reducible exact hid (wn_s4 hb3 HR3.out B2'.out B0'.out (by omega) (by omega) (by omega)) | with_reducible exact hid (wn_s4 hb3 HR3.out B2'.out B1.out (by omega) (by omega) (by omega)) | with_reducible exact hid (wn_s4 hb3 HR3.out B2'.out B1'.out (by omega) (by omega) (by omega)) | with_reducible exact hid (wn_s4 hb3 HR3.out B2'.out B2.out (by omega) (by omega) (by omega))
      case rest =>
        obtain ⟨p6, p7, a1, c1, b1, d1, rfl, rfl, rfl, hp6, hp7, hr1, hr2⟩ := hcut.out.ex
        have hbel := hcut.out.bel
        have HP6 := hid hp6
        have HP7 := hid hp7
        have HSQ := hid (And.intro (Sl.own hr1 HKQ.out.wd) (Sl.own (xs := [1]) hr2 (wn_wd1 1 (by decide))))
        have HBC := hid hbel
        have HK : Hid (∀ V, Below wc.heap.size wc V → V.cell? ⟨p6, 0, none⟩ = some (.bool nq) ∧ V.cell? ⟨p6, 1, none⟩ = some (.slice a1 1 c1) ∧ V.cell? ⟨p7, 0, none⟩ = some (.bool false) ∧ V.cell? ⟨p7, 1, none⟩ = some (.slice b1 1 d1) ∧ V.cell? ⟨w.heap.size + 1 + 1, k, none⟩ = some (.int .i64 q)) := fun V hv => by
          have h := HP6.out.later hv HP6.out.lt
          have g := HP7.out.later hv HP7.out.lt
          exact ⟨h.cell 0, h.cell 1, g.cell 0, g.cell 1, HQ3.out V (bt HBC.out hv)⟩
        have HD := hid (Below.drew (Below.refl wc.heap.size wc))
        have hs0' := HK.out _ HD.out
        have HI1 : Hid (∀ V, Below wc.heap.size wc V → Calls Tryz.prog 6 #[.agg #[.bool nq, .slice a1 1 c1], .int .i64 q] V fun e w' => e = .returned (.bool true) ∧ (w'.cell? ⟨p6, 0, none⟩ = some (.bool nq) ∧ w'.cell? ⟨p6, 1, none⟩ = some (.slice a1 1 c1) ∧ w'.cell? ⟨p7, 0, none⟩ = some (.bool false) ∧ w'.cell? ⟨p7, 1, none⟩ = some (.slice b1 1 d1) ∧ w'.cell? ⟨w.heap.size + 1 + 1, k, none⟩ = some (.int .i64 q)) ∧ Hid (Below wc.heap.size wc w')) := fun V hv => by
          refine Calls.mono (wn_is HKQ.out a1 c1 V (HSQ.out.1.later hv)) ?_
          rintro e w' ⟨rfl, hb⟩
          exact ⟨rfl, HK.out w' (bt hv hb.out), bt hv hb.out⟩
        have HI2 : Hid (∀ V, Below wc.heap.size wc V → Calls Tryz.prog 6 #[.agg #[.bool false, .slice b1 1 d1], .int .i64 1] V fun e w' => e = .returned (.bool true) ∧ (w'.cell? ⟨p6, 0, none⟩ = some (.bool nq) ∧ w'.cell? ⟨p6, 1, none⟩ = some (.slice a1 1 c1) ∧ w'.cell? ⟨p7, 0, none⟩ = some (.bool false) ∧ w'.cell? ⟨p7, 1, none⟩ = some (.slice b1 1 d1) ∧ w'.cell? ⟨w.heap.size + 1 + 1, k, none⟩ = some (.int .i64 q)) ∧ Hid (Below wc.heap.size wc w')) := fun V hv => by
          refine Calls.mono (wn_is wn_one b1 d1 V (HSQ.out.2.later hv)) ?_
          rintro e w' ⟨rfl, hb⟩
          exact ⟨rfl, HK.out w' (bt hv hb.out), bt hv hb.out⟩
        clear hcut hp6 hp7 hr1 hr2 hbel HO1 HO2 HDV HS3 hs0 HD0
        go_upto_region 9 with fail
        go_cut [76] from 42 to 75 (fun s wx => s = .bool false ∧ Hid (Below wc.heap.size wc wx))
        case first =>
          go_region_held3 (fun V : World => V.cell? ⟨p6, 0, none⟩ = some (.bool nq) ∧ V.cell? ⟨p6, 1, none⟩ = some (.slice a1 1 c1) ∧ V.cell? ⟨p7, 0, none⟩ = some (.bool false) ∧ V.cell? ⟨p7, 1, none⟩ = some (.slice b1 1 d1) ∧ V.cell? ⟨w.heap.size + 1 + 1, k, none⟩ = some (.int .i64 q)) (first | with_reducible exact hsB | with_reducible exact hsA | with_reducible exact hs0')
            (first
              | (go_at_call 6; (with_reducible refine Calls.mono (HI1.out _ HD.out) ?_); rintro e y1 ⟨rfl, hsA, HBA⟩)
              | (go_at_call 6; (with_reducible refine Calls.mono (HI2.out _ HBA.out) ?_); rintro e y2 ⟨rfl, hsB, HBB⟩))
          all_goals
            go_wp2_with fail
            go_meet
          all_goals exact ⟨rfl, HBB⟩
        case rest =>
          obtain ⟨rfl, hbc⟩ := hcut
          have HF := hid (bt HW.out (bt HBC.out hbc.out))
          clear HK HD hs0' HI1 HI2 HP6 HP7 HSQ HBC hbc HQ3 HKQ
          go_wp2_with fail
          go_roundw
          case rel => exact ⟨k + 1, by have := hkk.out; omega, by go_num, HF.out⟩
          case measure => simp [RowKit.intOf]; have := hkk.out; omega
    · obtain rfl : k = 4 := by omega
      have HWR := hid (bt HWX.out HW.out)
      clear HW HBx0 HBy0 HBq0 HWX hk hlt
      go_wp2_with fail
      refine Calls.mono (wn_of (wn_k1 false 1 (1) (by decide) (by decide)) _) ?_
      rintro x v1 ⟨a1, c1, rfl, S1, hb⟩
      have HW1 := hid (bt HWR.out hb.out)
      clear HWR
      clear hb
      go_wp2_with fail
      refine Calls.mono (wn_of wn_k0 _) ?_
      rintro x v2 ⟨a2, c2, rfl, S2, hb⟩
      have HW2 := hid (bt HW1.out hb.out)
      have S12 := hid (S1.out.later hb.out)
      clear HW1 S1
      clear hb
      go_wp2_with fail
      refine Calls.mono (wdivMod_zero false _ [1] false _ _ S12.out S2.out wn_one.chk wn_k0.chk) ?_
      rintro x v3 ⟨rfl, hb⟩
      have HW3 := hid (bt HW2.out hb)
      have S13 := hid (S12.out.later hb)
      have S23 := hid (S2.out.later hb)
      clear HW2 S12 S2
      clear hb
      clear S13
      clear S23
      obtain ⟨Y, hY⟩ : ∃ Y, (v3.alloc (.cells #[.bool false, .slice none 0 0] 25)).alloc (.cells #[.bool false, .slice none 0 0] 25) = Y := ⟨_, rfl⟩
      obtain ⟨⟨⟨zk0, zk1, zk2, zk3⟩, ⟨zf0, zf1, zf2, zf3⟩, zs0, zs1, zs2, zs3⟩, hb⟩ := wn_zz v3 Y hY
      have HW4 := hid (bt HW3.out hb)
      clear HW3
      clear hb
      go_wp2_with fail
      clear hY zk0 zk1 zk2 zk3 zf0 zf1 zf2 zf3 zs0 zs1 zs2 zs3
      refine Calls.mono (wn_of (wn_k1 false 3 (3) (by decide) (by decide)) _) ?_
      rintro x v4 ⟨a3, c3, rfl, S3, hb⟩
      have HW5 := hid (bt HW4.out hb.out)
      clear HW4
      clear hb
      go_wp2_with fail
      refine Calls.mono (wn_of (wn_k1 false 3 (3) (by decide) (by decide)) _) ?_
      rintro x v5 ⟨a4, c4, rfl, S4, hb⟩
      have HW6 := hid (bt HW5.out hb.out)
      have S36 := hid (S3.out.later hb.out)
      clear HW5 S3
      clear hb
      go_wp2_with fail
      refine Calls.mono (wn_sub (wn_k1 false 3 (3) (by decide) (by decide)) (wn_k1 false 3 (3) (by decide) (by decide)) wn_k0 (by decide) a3 c3 a4 c4 _ S36.out S4.out) ?_
      rintro x v6 ⟨a12, c12, rfl, S12, hb⟩
      have HW7 := hid (bt HW6.out hb.out)
      have S37 := hid (S36.out.later hb.out)
      have S47 := hid (S4.out.later hb.out)
      clear HW6 S36 S4
      clear hb
      clear S37
      clear S47
      have Gb12 := hid (Box.made v6 25 #[.bool false, .slice a12 0 c12])
      have Lb12 := hid (alloc_later v6 (.cells #[.bool false, .slice a12 0 c12] 25))
      obtain ⟨Yb12, hYb12⟩ : ∃ Yb12, v6.alloc (.cells #[.bool false, .slice a12 0 c12] 25) = Yb12 := ⟨_, rfl⟩
      rw [hYb12] at Gb12 Lb12
      have HW8 := hid (bt HW7.out Lb12.out)
      have S128 := hid (S12.out.later Lb12.out)
      clear HW7 S12
      go_wp2_with fail
      refine Calls.mono (wn_of wn_k0 _) ?_
      rintro x v7 ⟨a5, c5, rfl, S5, hb⟩
      have HW9 := hid (bt HW8.out hb.out)
      have Hb129 := hid (Gb12.out.later hb.out Gb12.out.lt)
      have S129 := hid (S128.out.later hb.out)
      clear HW8 Gb12 S128
      clear hYb12
      clear hb
      go_wp2_with fail
      refine Calls.mono (wn_neg wn_k0 wn_k0 (by decide) a5 c5 _ S5.out) ?_
      rintro x v8 ⟨a14, c14, rfl, S14, hb⟩
      have HW10 := hid (bt HW9.out hb.out)
      have Hb1210 := hid (Hb129.out.later hb.out Hb129.out.lt)
      have S1210 := hid (S129.out.later hb.out)
      have S510 := hid (S5.out.later hb.out)
      clear HW9 Hb129 S129 S5
      clear hb
      clear S510
      have Gb14 := hid (Box.made v8 25 #[.bool false, .slice a14 0 c14])
      have Lb14 := hid (alloc_later v8 (.cells #[.bool false, .slice a14 0 c14] 25))
      obtain ⟨Yb14, hYb14⟩ : ∃ Yb14, v8.alloc (.cells #[.bool false, .slice a14 0 c14] 25) = Yb14 := ⟨_, rfl⟩
      rw [hYb14] at Gb14 Lb14
      have HW11 := hid (bt HW10.out Lb14.out)
      have Hb1211 := hid (Hb1210.out.later Lb14.out Hb1210.out.lt)
      have S1211 := hid (S1210.out.later Lb14.out)
      have S1411 := hid (S14.out.later Lb14.out)
      clear HW10 Hb1210 S1210 S14
      go_wp2_with fail
      refine Calls.mono (wn_of (wn_k1 true 12 (-12) (by decide) (by decide)) _) ?_
      rintro x v9 ⟨a6, c6, rfl, S6, hb⟩
      have HW12 := hid (bt HW11.out hb.out)
      have Hb1212 := hid (Hb1211.out.later hb.out Hb1211.out.lt)
      have Hb1412 := hid (Gb14.out.later hb.out Gb14.out.lt)
      have S1212 := hid (S1211.out.later hb.out)
      have S1412 := hid (S1411.out.later hb.out)
      clear HW11 Hb1211 Gb14 S1211 S1411
      clear hYb14
      clear hb
      go_wp2_with fail
      refine Calls.mono (wn_of (wn_k1 false 18 (18) (by decide) (by decide)) _) ?_
      rintro x v10 ⟨a7, c7, rfl, S7, hb⟩
      have HW13 := hid (bt HW12.out hb.out)
      have Hb1213 := hid (Hb1212.out.later hb.out Hb1212.out.lt)
      have Hb1413 := hid (Hb1412.out.later hb.out Hb1412.out.lt)
      have S1213 := hid (S1212.out.later hb.out)
      have S1413 := hid (S1412.out.later hb.out)
      have S613 := hid (S6.out.later hb.out)
      clear HW12 Hb1212 Hb1412 S1212 S1412 S6
      clear hb
      go_wp2_with fail
      refine Calls.mono (wn_gcd (wn_k1 true 12 (-12) (by decide) (by decide)) (wn_k1 false 18 (18) (by decide) (by decide)) (wn_k1 false 6 (6) (by decide) (by decide)) (by decide) a6 c6 a7 c7 _ S613.out S7.out) ?_
      rintro x v11 ⟨a16, c16, rfl, S16, hb⟩
      have HW14 := hid (bt HW13.out hb.out)
      have Hb1214 := hid (Hb1213.out.later hb.out Hb1213.out.lt)
      have Hb1414 := hid (Hb1413.out.later hb.out Hb1413.out.lt)
      have S1214 := hid (S1213.out.later hb.out)
      have S1414 := hid (S1413.out.later hb.out)
      have S614 := hid (S613.out.later hb.out)
      have S714 := hid (S7.out.later hb.out)
      clear HW13 Hb1213 Hb1413 S1213 S1413 S613 S7
      clear hb
      clear S614
      clear S714
      have Gb16 := hid (Box.made v11 25 #[.bool false, .slice a16 1 c16])
      have Lb16 := hid (alloc_later v11 (.cells #[.bool false, .slice a16 1 c16] 25))
      obtain ⟨Yb16, hYb16⟩ : ∃ Yb16, v11.alloc (.cells #[.bool false, .slice a16 1 c16] 25) = Yb16 := ⟨_, rfl⟩
      rw [hYb16] at Gb16 Lb16
      have HW15 := hid (bt HW14.out Lb16.out)
      have Hb1215 := hid (Hb1214.out.later Lb16.out Hb1214.out.lt)
      have Hb1415 := hid (Hb1414.out.later Lb16.out Hb1414.out.lt)
      have S1215 := hid (S1214.out.later Lb16.out)
      have S1415 := hid (S1414.out.later Lb16.out)
      have S1615 := hid (S16.out.later Lb16.out)
      clear HW14 Hb1214 Hb1414 S1214 S1414 S16
      go_wp2_with fail
      refine Calls.mono (wn_of (wn_k1 true 2 (-2) (by decide) (by decide)) _) ?_
      rintro x v12 ⟨a8, c8, rfl, S8, hb⟩
      have HW16 := hid (bt HW15.out hb.out)
      have Hb1216 := hid (Hb1215.out.later hb.out Hb1215.out.lt)
      have Hb1416 := hid (Hb1415.out.later hb.out Hb1415.out.lt)
      have Hb1616 := hid (Gb16.out.later hb.out Gb16.out.lt)
      have S1216 := hid (S1215.out.later hb.out)
      have S1416 := hid (S1415.out.later hb.out)
      have S1616 := hid (S1615.out.later hb.out)
      clear HW15 Hb1215 Hb1415 Gb16 S1215 S1415 S1615
      clear hYb16
      clear hb
      go_wp2_with fail
      refine Calls.mono (wn_pow (wn_k1 true 2 (-2) (by decide) (by decide)) 3 (by decide) (by decide) (wn_k1 true 8 (-8) (by decide) (by decide)) (by decide) a8 c8 _ S8.out) ?_
      rintro x v13 ⟨a18, c18, rfl, S18, hb⟩
      have HW17 := hid (bt HW16.out hb.out)
      have Hb1217 := hid (Hb1216.out.later hb.out Hb1216.out.lt)
      have Hb1417 := hid (Hb1416.out.later hb.out Hb1416.out.lt)
      have Hb1617 := hid (Hb1616.out.later hb.out Hb1616.out.lt)
      have S1217 := hid (S1216.out.later hb.out)
      have S1417 := hid (S1416.out.later hb.out)
      have S1617 := hid (S1616.out.later hb.out)
      have S817 := hid (S8.out.later hb.out)
      clear HW16 Hb1216 Hb1416 Hb1616 S1216 S1416 S1616 S8
      clear hb
      clear S817
      have Gb18 := hid (Box.made v13 25 #[.bool true, .slice a18 1 c18])
      have Lb18 := hid (alloc_later v13 (.cells #[.bool true, .slice a18 1 c18] 25))
      obtain ⟨Yb18, hYb18⟩ : ∃ Yb18, v13.alloc (.cells #[.bool true, .slice a18 1 c18] 25) = Yb18 := ⟨_, rfl⟩
      rw [hYb18] at Gb18 Lb18
      have HW18 := hid (bt HW17.out Lb18.out)
      have Hb1218 := hid (Hb1217.out.later Lb18.out Hb1217.out.lt)
      have Hb1418 := hid (Hb1417.out.later Lb18.out Hb1417.out.lt)
      have Hb1618 := hid (Hb1617.out.later Lb18.out Hb1617.out.lt)
      have S1218 := hid (S1217.out.later Lb18.out)
      have S1418 := hid (S1417.out.later Lb18.out)
      have S1618 := hid (S1617.out.later Lb18.out)
      have S1818 := hid (S18.out.later Lb18.out)
      clear HW17 Hb1217 Hb1417 Hb1617 S1217 S1417 S1617 S18
      go_wp2_with fail
      refine Calls.mono (wn_of wn_k0 _) ?_
      rintro x v14 ⟨a9, c9, rfl, S9, hb⟩
      have HW19 := hid (bt HW18.out hb.out)
      have Hb1219 := hid (Hb1218.out.later hb.out Hb1218.out.lt)
      have Hb1419 := hid (Hb1418.out.later hb.out Hb1418.out.lt)
      have Hb1619 := hid (Hb1618.out.later hb.out Hb1618.out.lt)
      have Hb1819 := hid (Gb18.out.later hb.out Gb18.out.lt)
      have S1219 := hid (S1218.out.later hb.out)
      have S1419 := hid (S1418.out.later hb.out)
      have S1619 := hid (S1618.out.later hb.out)
      have S1819 := hid (S1818.out.later hb.out)
      clear HW18 Hb1218 Hb1418 Hb1618 Gb18 S1218 S1418 S1618 S1818
      clear hYb18
      clear hb
      go_wp2_with fail
      refine Calls.mono (wn_pow wn_k0 0 (by decide) (by decide) wn_one (by decide) a9 c9 _ S9.out) ?_
      rintro x v15 ⟨a20, c20, rfl, S20, hb⟩
      have HW20 := hid (bt HW19.out hb.out)
      have Hb1220 := hid (Hb1219.out.later hb.out Hb1219.out.lt)
      have Hb1420 := hid (Hb1419.out.later hb.out Hb1419.out.lt)
      have Hb1620 := hid (Hb1619.out.later hb.out Hb1619.out.lt)
      have Hb1820 := hid (Hb1819.out.later hb.out Hb1819.out.lt)
      have S1220 := hid (S1219.out.later hb.out)
      have S1420 := hid (S1419.out.later hb.out)
      have S1620 := hid (S1619.out.later hb.out)
      have S1820 := hid (S1819.out.later hb.out)
      have S920 := hid (S9.out.later hb.out)
      clear HW19 Hb1219 Hb1419 Hb1619 Hb1819 S1219 S1419 S1619 S1819 S9
      clear hb
      clear S920
      have Gb20 := hid (Box.made v15 25 #[.bool false, .slice a20 1 c20])
      have Lb20 := hid (alloc_later v15 (.cells #[.bool false, .slice a20 1 c20] 25))
      obtain ⟨Yb20, hYb20⟩ : ∃ Yb20, v15.alloc (.cells #[.bool false, .slice a20 1 c20] 25) = Yb20 := ⟨_, rfl⟩
      rw [hYb20] at Gb20 Lb20
      have HW21 := hid (bt HW20.out Lb20.out)
      have Hb1221 := hid (Hb1220.out.later Lb20.out Hb1220.out.lt)
      have Hb1421 := hid (Hb1420.out.later Lb20.out Hb1420.out.lt)
      have Hb1621 := hid (Hb1620.out.later Lb20.out Hb1620.out.lt)
      have Hb1821 := hid (Hb1820.out.later Lb20.out Hb1820.out.lt)
      have S1221 := hid (S1220.out.later Lb20.out)
      have S1421 := hid (S1420.out.later Lb20.out)
      have S1621 := hid (S1620.out.later Lb20.out)
      have S1821 := hid (S1820.out.later Lb20.out)
      have S2021 := hid (S20.out.later Lb20.out)
      clear HW20 Hb1220 Hb1420 Hb1620 Hb1820 S1220 S1420 S1620 S1820 S20
      go_wp2_with fail
      refine Calls.mono (wn_of (wn_k1 false 1 (1) (by decide) (by decide)) _) ?_
      rintro x v16 ⟨a10, c10, rfl, S10, hb⟩
      have HW22 := hid (bt HW21.out hb.out)
      have Hb1222 := hid (Hb1221.out.later hb.out Hb1221.out.lt)
      have Hb1422 := hid (Hb1421.out.later hb.out Hb1421.out.lt)
      have Hb1622 := hid (Hb1621.out.later hb.out Hb1621.out.lt)
      have Hb1822 := hid (Hb1821.out.later hb.out Hb1821.out.lt)
      have Hb2022 := hid (Gb20.out.later hb.out Gb20.out.lt)
      have S1222 := hid (S1221.out.later hb.out)
      have S1422 := hid (S1421.out.later hb.out)
      have S1622 := hid (S1621.out.later hb.out)
      have S1822 := hid (S1821.out.later hb.out)
      have S2022 := hid (S2021.out.later hb.out)
      clear HW21 Hb1221 Hb1421 Hb1621 Hb1821 Gb20 S1221 S1421 S1621 S1821 S2021
      clear hYb20
      clear hb
      go_wp2_with fail
      refine Calls.mono (wn_pow_err wn_one a10 c10 _ S10.out) ?_
      rintro x v17 ⟨a22, c22, rfl, S22, hb⟩
      have HW23 := hid (bt HW22.out hb.out)
      have Hb1223 := hid (Hb1222.out.later hb.out Hb1222.out.lt)
      have Hb1423 := hid (Hb1422.out.later hb.out Hb1422.out.lt)
      have Hb1623 := hid (Hb1622.out.later hb.out Hb1622.out.lt)
      have Hb1823 := hid (Hb1822.out.later hb.out Hb1822.out.lt)
      have Hb2023 := hid (Hb2022.out.later hb.out Hb2022.out.lt)
      have S1223 := hid (S1222.out.later hb.out)
      have S1423 := hid (S1422.out.later hb.out)
      have S1623 := hid (S1622.out.later hb.out)
      have S1823 := hid (S1822.out.later hb.out)
      have S2023 := hid (S2022.out.later hb.out)
      have S1023 := hid (S10.out.later hb.out)
      clear HW22 Hb1222 Hb1422 Hb1622 Hb1822 Hb2022 S1222 S1422 S1622 S1822 S2022 S10
      clear hb
      clear S1023
      have Gb22 := hid (Box.made v17 25 #[.bool false, .slice a22 0 c22])
      have Lb22 := hid (alloc_later v17 (.cells #[.bool false, .slice a22 0 c22] 25))
      obtain ⟨Yb22, hYb22⟩ : ∃ Yb22, v17.alloc (.cells #[.bool false, .slice a22 0 c22] 25) = Yb22 := ⟨_, rfl⟩
      rw [hYb22] at Gb22 Lb22
      have HW24 := hid (bt HW23.out Lb22.out)
      have Hb1224 := hid (Hb1223.out.later Lb22.out Hb1223.out.lt)
      have Hb1424 := hid (Hb1423.out.later Lb22.out Hb1423.out.lt)
      have Hb1624 := hid (Hb1623.out.later Lb22.out Hb1623.out.lt)
      have Hb1824 := hid (Hb1823.out.later Lb22.out Hb1823.out.lt)
      have Hb2024 := hid (Hb2023.out.later Lb22.out Hb2023.out.lt)
      have S1224 := hid (S1223.out.later Lb22.out)
      have S1424 := hid (S1423.out.later Lb22.out)
      have S1624 := hid (S1623.out.later Lb22.out)
      have S1824 := hid (S1823.out.later Lb22.out)
      have S2024 := hid (S2023.out.later Lb22.out)
      have S2224 := hid (S22.out.later Lb22.out)
      clear HW23 Hb1223 Hb1423 Hb1623 Hb1823 Hb2023 S1223 S1423 S1623 S1823 S2023 S22
      have clb12_0 : Yb22.cell? ⟨v6.heap.size, 0, none⟩ = some (.bool false) := Hb1224.out.cell 0
      have clb12_1 : Yb22.cell? ⟨v6.heap.size, 1, none⟩ = some (.slice a12 0 c12) := Hb1224.out.cell 1
      go_wp2_with fail
      refine Calls.mono (wn_same0 a12 c12 _ S1224.out) ?_
      rintro x v18 ⟨rfl, hb⟩
      clear clb12_0 clb12_1
      have HW25 := hid (bt HW24.out hb)
      have Hb1225 := hid (Hb1224.out.later hb Hb1224.out.lt)
      have Hb1425 := hid (Hb1424.out.later hb Hb1424.out.lt)
      have Hb1625 := hid (Hb1624.out.later hb Hb1624.out.lt)
      have Hb1825 := hid (Hb1824.out.later hb Hb1824.out.lt)
      have Hb2025 := hid (Hb2024.out.later hb Hb2024.out.lt)
      have Hb2225 := hid (Gb22.out.later hb Gb22.out.lt)
      have S1225 := hid (S1224.out.later hb)
      have S1425 := hid (S1424.out.later hb)
      have S1625 := hid (S1624.out.later hb)
      have S1825 := hid (S1824.out.later hb)
      have S2025 := hid (S2024.out.later hb)
      have S2225 := hid (S2224.out.later hb)
      clear HW24 Hb1224 Hb1424 Hb1624 Hb1824 Hb2024 Gb22 S1224 S1424 S1624 S1824 S2024 S2224
      clear hYb22
      clear hb
      clear S1225
      clear Hb1225
      clear Hb2225
      clear S2225
      have clb14_0 : v18.cell? ⟨v8.heap.size, 0, none⟩ = some (.bool false) := Hb1425.out.cell 0
      have clb14_1 : v18.cell? ⟨v8.heap.size, 1, none⟩ = some (.slice a14 0 c14) := Hb1425.out.cell 1
      go_wp2_with fail
      refine Calls.mono (wn_same0 a14 c14 _ S1425.out) ?_
      rintro x v19 ⟨rfl, hb⟩
      clear clb14_0 clb14_1
      have HW26 := hid (bt HW25.out hb)
      have Hb1426 := hid (Hb1425.out.later hb Hb1425.out.lt)
      have Hb1626 := hid (Hb1625.out.later hb Hb1625.out.lt)
      have Hb1826 := hid (Hb1825.out.later hb Hb1825.out.lt)
      have Hb2026 := hid (Hb2025.out.later hb Hb2025.out.lt)
      have S1426 := hid (S1425.out.later hb)
      have S1626 := hid (S1625.out.later hb)
      have S1826 := hid (S1825.out.later hb)
      have S2026 := hid (S2025.out.later hb)
      clear HW25 Hb1425 Hb1625 Hb1825 Hb2025 S1425 S1625 S1825 S2025
      clear hb
      clear S1426
      clear Hb1426
      have clb16_0 : v19.cell? ⟨v11.heap.size, 0, none⟩ = some (.bool false) := Hb1626.out.cell 0
      have clb16_1 : v19.cell? ⟨v11.heap.size, 1, none⟩ = some (.slice a16 1 c16) := Hb1626.out.cell 1
      go_wp2_with fail
      refine Calls.mono (wn_is (wn_k1 false 6 (6) (by decide) (by decide)) a16 c16 _ S1626.out) ?_
      rintro x v20 ⟨rfl, hb⟩
      clear clb16_0 clb16_1
      have HW27 := hid (bt HW26.out hb.out)
      have Hb1627 := hid (Hb1626.out.later hb.out Hb1626.out.lt)
      have Hb1827 := hid (Hb1826.out.later hb.out Hb1826.out.lt)
      have Hb2027 := hid (Hb2026.out.later hb.out Hb2026.out.lt)
      have S1627 := hid (S1626.out.later hb.out)
      have S1827 := hid (S1826.out.later hb.out)
      have S2027 := hid (S2026.out.later hb.out)
      clear HW26 Hb1626 Hb1826 Hb2026 S1626 S1826 S2026
      clear hb
      clear S1627
      clear Hb1627
      have clb18_0 : v20.cell? ⟨v13.heap.size, 0, none⟩ = some (.bool true) := Hb1827.out.cell 0
      have clb18_1 : v20.cell? ⟨v13.heap.size, 1, none⟩ = some (.slice a18 1 c18) := Hb1827.out.cell 1
      go_wp2_with fail
      refine Calls.mono (wn_is (wn_k1 true 8 (-8) (by decide) (by decide)) a18 c18 _ S1827.out) ?_
      rintro x v21 ⟨rfl, hb⟩
      clear clb18_0 clb18_1
      have HW28 := hid (bt HW27.out hb.out)
      have Hb1828 := hid (Hb1827.out.later hb.out Hb1827.out.lt)
      have Hb2028 := hid (Hb2027.out.later hb.out Hb2027.out.lt)
      have S1828 := hid (S1827.out.later hb.out)
      have S2028 := hid (S2027.out.later hb.out)
      clear HW27 Hb1827 Hb2027 S1827 S2027
      clear hb
      clear S1828
      clear Hb1828
      have clb20_0 : v21.cell? ⟨v15.heap.size, 0, none⟩ = some (.bool false) := Hb2028.out.cell 0
      have clb20_1 : v21.cell? ⟨v15.heap.size, 1, none⟩ = some (.slice a20 1 c20) := Hb2028.out.cell 1
      go_wp2_with fail
      refine Calls.mono (wn_is wn_one a20 c20 _ S2028.out) ?_
      rintro x v22 ⟨rfl, hb⟩
      clear clb20_0 clb20_1
      have HW29 := hid (bt HW28.out hb.out)
      have Hb2029 := hid (Hb2028.out.later hb.out Hb2028.out.lt)
      have S2029 := hid (S2028.out.later hb.out)
      clear HW28 Hb2028 S2028
      clear hb
      clear S2029
      clear Hb2029
      go_wp2_with fail
      refine Calls.mono (wn_of wn_km _) ?_
      rintro x v23 ⟨a11, c11, rfl, S11, hb⟩
      have HW30 := hid (bt HW29.out hb.out)
      clear HW29
      clear hb
      go_wp2_with fail
      refine Calls.mono (wn_print a11 c11 _ S11.out (HT.out _ HW30.out)) ?_
      rintro x v24 ⟨rfl, hb⟩
      have HW31 := hid (bt HW30.out hb)
      have S1131 := hid (S11.out.later hb)
      clear HW30 S11
      clear hb
      clear S1131
      have Gtxt := hid (Box.made v24 9 #[.string ⟨#[]⟩, .string ⟨#[45]⟩, .string ⟨#[45, 48]⟩, .string ⟨#[48, 55]⟩, .string ⟨#[43, 49]⟩, .string ⟨#[49, 32]⟩])
      have Ltxt := hid (alloc_later v24 (.cells #[.string ⟨#[]⟩, .string ⟨#[45]⟩, .string ⟨#[45, 48]⟩, .string ⟨#[48, 55]⟩, .string ⟨#[43, 49]⟩, .string ⟨#[49, 32]⟩] 9))
      obtain ⟨Ytxt, hYtxt⟩ : ∃ Ytxt, v24.alloc (.cells #[.string ⟨#[]⟩, .string ⟨#[45]⟩, .string ⟨#[45, 48]⟩, .string ⟨#[48, 55]⟩, .string ⟨#[43, 49]⟩, .string ⟨#[49, 32]⟩] 9) = Ytxt := ⟨_, rfl⟩
      rw [hYtxt] at Gtxt Ltxt
      have HW32 := hid (bt HW31.out Ltxt.out)
      clear HW31
      go_wp2_with fail
      clear hYtxt
      refine wp_loop_rounds 7 ?_
      rw [rounds_succ]
      have cltxt_0 : Ytxt.cell? ⟨v24.heap.size, 0, none⟩ = some (.string ⟨#[]⟩) := Gtxt.out.cell 0
      go_wp2_with fail
      refine Calls.mono (wn_parse_bad ⟨#[]⟩ _ (by decide) wn_bad0) ?_
      rintro x u0 ⟨at0, ct0, rfl, S0, hb⟩
      clear cltxt_0
      have HW33 := hid (bt HW32.out hb.out)
      have Htxt33 := hid (Gtxt.out.later hb.out Gtxt.out.lt)
      clear HW32 Gtxt
      clear hb
      have Gbt0 := hid (Box.made u0 25 #[.bool false, .slice at0 0 ct0])
      have Lbt0 := hid (alloc_later u0 (.cells #[.bool false, .slice at0 0 ct0] 25))
      obtain ⟨Ybt0, hYbt0⟩ : ∃ Ybt0, u0.alloc (.cells #[.bool false, .slice at0 0 ct0] 25) = Ybt0 := ⟨_, rfl⟩
      rw [hYbt0] at Gbt0 Lbt0
      have HW34 := hid (bt HW33.out Lbt0.out)
      have Htxt34 := hid (Htxt33.out.later Lbt0.out Htxt33.out.lt)
      have St34 := hid (S0.out.later Lbt0.out)
      clear HW33 Htxt33 S0
      go_wp2_with fail
      clear hYbt0
      clear St34
      clear Gbt0
      rw [rounds_succ]
      have cltxt_1 : Ybt0.cell? ⟨v24.heap.size, 1, none⟩ = some (.string ⟨#[45]⟩) := Htxt34.out.cell 1
      go_wp2_with fail
      refine Calls.mono (wn_parse_bad ⟨#[45]⟩ _ (by decide) wn_bad1) ?_
      rintro x u1 ⟨at1, ct1, rfl, S0, hb⟩
      clear cltxt_1
      have HW35 := hid (bt HW34.out hb.out)
      have Htxt35 := hid (Htxt34.out.later hb.out Htxt34.out.lt)
      clear HW34 Htxt34
      clear hb
      have Gbt1 := hid (Box.made u1 25 #[.bool false, .slice at1 0 ct1])
      have Lbt1 := hid (alloc_later u1 (.cells #[.bool false, .slice at1 0 ct1] 25))
      obtain ⟨Ybt1, hYbt1⟩ : ∃ Ybt1, u1.alloc (.cells #[.bool false, .slice at1 0 ct1] 25) = Ybt1 := ⟨_, rfl⟩
      rw [hYbt1] at Gbt1 Lbt1
      have HW36 := hid (bt HW35.out Lbt1.out)
      have Htxt36 := hid (Htxt35.out.later Lbt1.out Htxt35.out.lt)
      have St36 := hid (S0.out.later Lbt1.out)
      clear HW35 Htxt35 S0
      go_wp2_with fail
      clear hYbt1
      clear St36
      clear Gbt1
      rw [rounds_succ]
      have cltxt_2 : Ybt1.cell? ⟨v24.heap.size, 2, none⟩ = some (.string ⟨#[45, 48]⟩) := Htxt36.out.cell 2
      go_wp2_with fail
      refine Calls.mono (wn_parse_bad ⟨#[45, 48]⟩ _ (by decide) wn_bad2) ?_
      rintro x u2 ⟨at2, ct2, rfl, S0, hb⟩
      clear cltxt_2
      have HW37 := hid (bt HW36.out hb.out)
      have Htxt37 := hid (Htxt36.out.later hb.out Htxt36.out.lt)
      clear HW36 Htxt36
      clear hb
      have Gbt2 := hid (Box.made u2 25 #[.bool false, .slice at2 0 ct2])
      have Lbt2 := hid (alloc_later u2 (.cells #[.bool false, .slice at2 0 ct2] 25))
      obtain ⟨Ybt2, hYbt2⟩ : ∃ Ybt2, u2.alloc (.cells #[.bool false, .slice at2 0 ct2] 25) = Ybt2 := ⟨_, rfl⟩
      rw [hYbt2] at Gbt2 Lbt2
      have HW38 := hid (bt HW37.out Lbt2.out)
      have Htxt38 := hid (Htxt37.out.later Lbt2.out Htxt37.out.lt)
      have St38 := hid (S0.out.later Lbt2.out)
      clear HW37 Htxt37 S0
      go_wp2_with fail
      clear hYbt2
      clear St38
      clear Gbt2
      rw [rounds_succ]
      have cltxt_3 : Ybt2.cell? ⟨v24.heap.size, 3, none⟩ = some (.string ⟨#[48, 55]⟩) := Htxt38.out.cell 3
      go_wp2_with fail
      refine Calls.mono (wn_parse_bad ⟨#[48, 55]⟩ _ (by decide) wn_bad3) ?_
      rintro x u3 ⟨at3, ct3, rfl, S0, hb⟩
      clear cltxt_3
      have HW39 := hid (bt HW38.out hb.out)
      have Htxt39 := hid (Htxt38.out.later hb.out Htxt38.out.lt)
      clear HW38 Htxt38
      clear hb
      have Gbt3 := hid (Box.made u3 25 #[.bool false, .slice at3 0 ct3])
      have Lbt3 := hid (alloc_later u3 (.cells #[.bool false, .slice at3 0 ct3] 25))
      obtain ⟨Ybt3, hYbt3⟩ : ∃ Ybt3, u3.alloc (.cells #[.bool false, .slice at3 0 ct3] 25) = Ybt3 := ⟨_, rfl⟩
      rw [hYbt3] at Gbt3 Lbt3
      have HW40 := hid (bt HW39.out Lbt3.out)
      have Htxt40 := hid (Htxt39.out.later Lbt3.out Htxt39.out.lt)
      have St40 := hid (S0.out.later Lbt3.out)
      clear HW39 Htxt39 S0
      go_wp2_with fail
      clear hYbt3
      clear St40
      clear Gbt3
      rw [rounds_succ]
      have cltxt_4 : Ybt3.cell? ⟨v24.heap.size, 4, none⟩ = some (.string ⟨#[43, 49]⟩) := Htxt40.out.cell 4
      go_wp2_with fail
      refine Calls.mono (wn_parse_bad ⟨#[43, 49]⟩ _ (by decide) wn_bad4) ?_
      rintro x u4 ⟨at4, ct4, rfl, S0, hb⟩
      clear cltxt_4
      have HW41 := hid (bt HW40.out hb.out)
      have Htxt41 := hid (Htxt40.out.later hb.out Htxt40.out.lt)
      clear HW40 Htxt40
      clear hb
      have Gbt4 := hid (Box.made u4 25 #[.bool false, .slice at4 0 ct4])
      have Lbt4 := hid (alloc_later u4 (.cells #[.bool false, .slice at4 0 ct4] 25))
      obtain ⟨Ybt4, hYbt4⟩ : ∃ Ybt4, u4.alloc (.cells #[.bool false, .slice at4 0 ct4] 25) = Ybt4 := ⟨_, rfl⟩
      rw [hYbt4] at Gbt4 Lbt4
      have HW42 := hid (bt HW41.out Lbt4.out)
      have Htxt42 := hid (Htxt41.out.later Lbt4.out Htxt41.out.lt)
      have St42 := hid (S0.out.later Lbt4.out)
      clear HW41 Htxt41 S0
      go_wp2_with fail
      clear hYbt4
      clear St42
      clear Gbt4
      rw [rounds_succ]
      have cltxt_5 : Ybt4.cell? ⟨v24.heap.size, 5, none⟩ = some (.string ⟨#[49, 32]⟩) := Htxt42.out.cell 5
      go_wp2_with fail
      refine Calls.mono (wn_parse_bad ⟨#[49, 32]⟩ _ (by decide) wn_bad5) ?_
      rintro x u5 ⟨at5, ct5, rfl, S0, hb⟩
      clear cltxt_5
      have HW43 := hid (bt HW42.out hb.out)
      have Htxt43 := hid (Htxt42.out.later hb.out Htxt42.out.lt)
      clear HW42 Htxt42
      clear hb
      have Gbt5 := hid (Box.made u5 25 #[.bool false, .slice at5 0 ct5])
      have Lbt5 := hid (alloc_later u5 (.cells #[.bool false, .slice at5 0 ct5] 25))
      obtain ⟨Ybt5, hYbt5⟩ : ∃ Ybt5, u5.alloc (.cells #[.bool false, .slice at5 0 ct5] 25) = Ybt5 := ⟨_, rfl⟩
      rw [hYbt5] at Gbt5 Lbt5
      have HW44 := hid (bt HW43.out Lbt5.out)
      have Htxt44 := hid (Htxt43.out.later Lbt5.out Htxt43.out.lt)
      have St44 := hid (S0.out.later Lbt5.out)
      clear HW43 Htxt43 S0
      go_wp2_with fail
      clear hYbt5
      clear St44
      clear Gbt5
      rw [rounds_succ]
      clear Htxt44
      go_wp2_with fail
      refine Calls.mono (wn_repeat _) ?_
      rintro x u7 ⟨t, rfl, HSZ, hb⟩
      have HW45 := hid (bt HW44.out hb)
      clear HW44
      clear hb
      go_wp2_with fail
      refine Calls.mono (wn_parse_long t _ HSZ.out) ?_
      rintro x u8 ⟨a31, c31, rfl, S31, hb⟩
      have HW46 := hid (bt HW45.out hb.out)
      clear HW45
      clear hb
      have Gb31 := hid (Box.made u8 25 #[.bool false, .slice a31 0 c31])
      have Lb31 := hid (alloc_later u8 (.cells #[.bool false, .slice a31 0 c31] 25))
      obtain ⟨Yb31, hYb31⟩ : ∃ Yb31, u8.alloc (.cells #[.bool false, .slice a31 0 c31] 25) = Yb31 := ⟨_, rfl⟩
      rw [hYb31] at Gb31 Lb31
      have HW47 := hid (bt HW46.out Lb31.out)
      have S3147 := hid (S31.out.later Lb31.out)
      clear HW46 S31
      go_wp2_with fail
      refine Calls.mono (wn_of wn_km _) ?_
      rintro x u9 ⟨a32, c32, rfl, S32, hb⟩
      have HW48 := hid (bt HW47.out hb.out)
      have Hb3148 := hid (Gb31.out.later hb.out Gb31.out.lt)
      have S3148 := hid (S3147.out.later hb.out)
      clear HW47 Gb31 S3147
      clear hYb31
      clear hb
      go_wp2_with fail
      refine Calls.mono (wn_is wn_km a32 c32 _ S32.out) ?_
      rintro x u10 ⟨rfl, hb⟩
      have HW49 := hid (bt HW48.out hb.out)
      have Hb3149 := hid (Hb3148.out.later hb.out Hb3148.out.lt)
      have S3149 := hid (S3148.out.later hb.out)
      have S3249 := hid (S32.out.later hb.out)
      clear HW48 Hb3148 S3148 S32
      clear hb
      clear S3249
      clear S3149
      clear Hb3149
      have mk49 := wn_make49
      have mk48 := wn_make48
      have Gr10 := hid (Box.made u10 42 #[.int .u32 1, .int .u32 0])
      have Lr10 := hid (alloc_later u10 (.cells #[.int .u32 1, .int .u32 0] 42))
      obtain ⟨Yr10, hYr10⟩ : ∃ Yr10, u10.alloc (.cells #[.int .u32 1, .int .u32 0] 42) = Yr10 := ⟨_, rfl⟩
      rw [hYr10] at Gr10 Lr10
      have HW50 := hid (bt HW49.out Lr10.out)
      clear HW49
      have SR : Hid (Sl Yr10 (.slice (some ⟨u10.heap.size, 0, none⟩) 2 2) [1, 0]) := (OwnC.sl (wn_own_of_box (ys := [1, 0]) Gr10.out (Nat.le_refl _) rfl (by decide)) wn_wd10)
      go_wp2_with fail
      refine Calls.mono (wn_check (r := 11) _ SR.out (by decide) wn_chk10) ?_
      rintro x u11 ⟨rfl, hb⟩
      have HW51 := hid (bt HW50.out hb)
      have Hr1051 := hid (Gr10.out.later hb Gr10.out.lt)
      have Sr51 := hid (SR.out.later hb)
      clear HW50 Gr10 SR
      clear hb hYr10
      clear Sr51
      clear Hr1051
      go_wp2_with fail
      refine Calls.mono (wn_check (r := 11) _ (wn_nil _) (by decide) wn_chkneg) ?_
      rintro x u12 ⟨rfl, hb⟩
      have HW52 := hid (bt HW51.out hb)
      clear HW51
      clear hb
      have HZ49 := hid (wn_own_zero u12 2049 (by decide))
      obtain ⟨Y49, hY49⟩ : ∃ Y, u12.alloc (wnRow 2049) = Y := ⟨_, rfl⟩
      have hb := alloc_later u12 (wnRow 2049)
      rw [hY49] at HZ49 hb
      have HW53 := hid (bt HW52.out hb)
      clear HW52
      clear hb
      go_wp2_with fail
      refine Calls.mono (wn_check (r := 3) _ (OwnC.sl HZ49.out (wn_zero_wd 2049)) wn_len49 wn_chk49) ?_
      rintro x u13 ⟨rfl, hb⟩
      have HW54 := hid (bt HW53.out hb)
      clear HW53
      clear hb hY49 HZ49
      have HZ48 := hid (wn_own_zero u13 2048 (by decide))
      obtain ⟨Y48, hY48⟩ : ∃ Y, u13.alloc (wnRow 2048) = Y := ⟨_, rfl⟩
      have hb := alloc_later u13 (wnRow 2048)
      rw [hY48] at HZ48 hb
      have hc47 : Y48.cell? ⟨u13.heap.size, 2047, none⟩ = some (.int .u32 0) := (HZ48.out.cell 2047 (by decide)).trans wn_get47
      have hf47 := HZ48.out.free 2047
      obtain ⟨U, hU⟩ : ∃ U, Y48.setCell ⟨u13.heap.size, 2047, none⟩ (.int .u32 2147483648) = U := ⟨_, rfl⟩
      have HBG : Hid (OwnC U u13.heap.size u13.heap.size 2048 2048 wnBig) := by
        have h := (HZ48.out.set 2047 2147483648).1
        rw [hU, wnBig_set] at h
        exact h
      have hbU : Below u13.heap.size u13 U := by rw [← hU]; exact hb.setCell (p := ⟨u13.heap.size, 2047, none⟩) (Nat.le_refl _) _
      clear hb
      have HW55 := hid (bt HW54.out hbU)
      clear HW54
      clear hbU HZ48
      have SB := hid (HBG.out.sl wnBig_wd)
      clear HBG
      go_wp2_with fail
      refine Calls.mono (wn_of (wn_k1 false 2 (2) (by decide) (by decide)) _) ?_
      rintro x u14 ⟨a35, c35, rfl, S35, hb⟩
      have HW56 := hid (bt HW55.out hb.out)
      have Sg56 := hid (SB.out.later hb.out)
      clear HW55 SB
      clear hb
      clear hY48 hU hc47 hf47
      go_wp2_with fail
      refine Calls.mono (wn_mul2 _ a35 c35 _ Sg56.out S35.out) ?_
      rintro x u15 ⟨a36, c36, rfl, S36, hb⟩
      have HW57 := hid (bt HW56.out hb.out)
      have Sg57 := hid (Sg56.out.later hb.out)
      have S3557 := hid (S35.out.later hb.out)
      clear HW56 Sg56 S35
      clear hb
      clear S3557
      have Gb36 := hid (Box.made u15 25 #[.bool false, .slice a36 0 c36])
      have Lb36 := hid (alloc_later u15 (.cells #[.bool false, .slice a36 0 c36] 25))
      obtain ⟨Yb36, hYb36⟩ : ∃ Yb36, u15.alloc (.cells #[.bool false, .slice a36 0 c36] 25) = Yb36 := ⟨_, rfl⟩
      rw [hYb36] at Gb36 Lb36
      have HW58 := hid (bt HW57.out Lb36.out)
      have Sg58 := hid (Sg57.out.later Lb36.out)
      have S3658 := hid (S36.out.later Lb36.out)
      clear HW57 Sg57 S36
      go_wp2_with fail
      refine Calls.mono (wn_of (wn_k1 false 1 (1) (by decide) (by decide)) _) ?_
      rintro x u16 ⟨a37, c37, rfl, S37, hb⟩
      have HW59 := hid (bt HW58.out hb.out)
      have Hb3659 := hid (Gb36.out.later hb.out Gb36.out.lt)
      have Sg59 := hid (Sg58.out.later hb.out)
      have S3659 := hid (S3658.out.later hb.out)
      clear HW58 Gb36 Sg58 S3658
      clear hYb36
      clear hb
      go_wp2_with fail
      refine Calls.mono (wn_mul1 _ a37 c37 _ Sg59.out S37.out) ?_
      rintro x u17 ⟨a38, c38, rfl, S38, hb⟩
      have HW60 := hid (bt HW59.out hb.out)
      have Hb3660 := hid (Hb3659.out.later hb.out Hb3659.out.lt)
      have Sg60 := hid (Sg59.out.later hb.out)
      have S3660 := hid (S3659.out.later hb.out)
      have S3760 := hid (S37.out.later hb.out)
      clear HW59 Hb3659 Sg59 S3659 S37
      clear hb
      clear S3760
      clear S3660
      clear Hb3660
      have Gb38 := hid (Box.made u17 25 #[.bool false, .slice a38 2048 c38])
      have Lb38 := hid (alloc_later u17 (.cells #[.bool false, .slice a38 2048 c38] 25))
      obtain ⟨Yb38, hYb38⟩ : ∃ Yb38, u17.alloc (.cells #[.bool false, .slice a38 2048 c38] 25) = Yb38 := ⟨_, rfl⟩
      rw [hYb38] at Gb38 Lb38
      have HW61 := hid (bt HW60.out Lb38.out)
      have Sg61 := hid (Sg60.out.later Lb38.out)
      have S3861 := hid (S38.out.later Lb38.out)
      clear HW60 Sg60 S38
      go_wp2_with fail
      refine Calls.mono (lives_any _) ?_
      rintro x u18 ⟨rfl, hb⟩
      have HW62 := hid (bt HW61.out hb)
      have Hb3862 := hid (Gb38.out.later hb Gb38.out.lt)
      have Sg62 := hid (Sg61.out.later hb)
      have S3862 := hid (S3861.out.later hb)
      clear HW61 Gb38 Sg61 S3861
      clear hYb38
      clear hb
      have clb38_0 : u18.cell? ⟨u17.heap.size, 0, none⟩ = some (.bool false) := Hb3862.out.cell 0
      have clb38_1 : u18.cell? ⟨u17.heap.size, 1, none⟩ = some (.slice a38 2048 c38) := Hb3862.out.cell 1
      go_wp2_with fail
      refine Calls.mono (wn_same _ _ _ S3862.out Sg62.out) ?_
      rintro x u19 ⟨rfl, hb⟩
      clear clb38_0 clb38_1
      have HW63 := hid (bt HW62.out hb)
      have Hb3863 := hid (Hb3862.out.later hb Hb3862.out.lt)
      have Sg63 := hid (Sg62.out.later hb)
      have S3863 := hid (S3862.out.later hb)
      clear HW62 Hb3862 Sg62 S3862
      clear hb
      go_wp2_with fail
      go_ret
      exact ⟨rfl, HW63.out⟩
end Go.Proofs.YtomdkingdniohaaGreatDoor

