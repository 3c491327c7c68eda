/- My texts on the way to WholeTexts, one behind the other: contracts of the program and of the document's answers. -/
import Derived.Test.YtgimgagnfkinmaaDoorJ2
import Derived.Laws.BytesString
import Derived.Laws.Cells
import Derived.Deep.RegionHeld3
/- The document's own digits of a number: slackwaterref01.Digits: of every number. -/
namespace Go.Proofs.YtgimgagnfkinmaaDoor
open Go.RowKit Lib
set_option linter.unusedVariables false

theorem Tryd.infoB : (Tryd.prog.info? 5).map (fun i => (i.zero, i.size, i.bytes)) = some (some (.int .u8 0), 1, 1) := by kernel_rfl
/-- Bytes as numbers. -/
def bI (l : List UInt8) : List Value := l.map fun b => Value.int .u8 (b.toNat : Int)
/-- What is left of a number, and the digits that were told of it, the lowest first. -/
def Left (X V : Nat) (bs : List UInt8) : Prop := (0 < V → decDigits X = decDigits V ++ bs.reverse) ∧ (V = 0 → decDigits X = bs.reverse)
theorem Left.step {X V : Nat} {bs : List UInt8} (h : Left X V bs) (hV : 0 < V) : Left X (V / 10) (bs ++ [UInt8.ofNat (48 + V % 10)]) := by
  have e := h.1 hV
  by_cases c : V < 10
  · have h0 : V / 10 = 0 := by omega
    refine ⟨fun h1 => by omega, fun _ => ?_⟩
    rw [e, decDigits, dif_pos c, List.reverse_append, show V % 10 = V by omega]
    rfl
  · refine ⟨fun _ => ?_, fun h1 => by omega⟩
    rw [e, decDigits, dif_neg c, List.reverse_append]
    simp
theorem Left.len {X V : Nat} {bs : List UInt8} (h : Left X V bs) : bs.length ≤ (decDigits X).length := by
  by_cases c : V = 0
  · rw [h.2 c, List.length_reverse]; exact Nat.le_refl _
  · rw [h.1 (by omega), List.length_append, List.length_reverse]; omega
theorem foldl_push : ∀ (l : List UInt8) (s : ByteArray), (l.map fun b => (b.toNat : Int)).foldl (fun r n => r.push (UInt8.ofNat n.toNat)) s = ⟨s.data ++ l.toArray⟩
  | [], s => by simp
  | b :: l, s => by
    rw [List.map_cons, List.foldl_cons, foldl_push l]
    simp [ByteArray.push]
theorem text_of_bytes (l : List UInt8) : (l.map fun b => (b.toNat : Int)).foldl (fun r n => r.push (UInt8.ofNat n.toNat)) ByteArray.empty = ⟨l.toArray⟩ := by
  rw [foldl_push]; simp [ByteArray.empty, ByteArray.emptyWithCapacity]; rfl

theorem Sl.reads {w : World} {a : Option Addr} {c : Nat} {xs : List Int} (h : Sl w (.slice a xs.length c) xs) : Reads w w.heap.size a xs.length c xs := by
  obtain ⟨a', c', hv, hr⟩ := h
  simp only [Value.slice.injEq, true_and] at hv
  obtain ⟨rfl, rfl⟩ := hv
  exact hr
/-- A row of bytes of the call's own. -/
def OwnB (w : World) (base g n : Nat) (l : List UInt8) : Prop := w.ownsRow base 5 1 (.slice (some ⟨g, 0, none⟩) n n) n (bI l)
theorem OwnB.len {w : World} {base g n : Nat} {l : List UInt8} (h : OwnB w base g n l) : l.length = n := by have := h.1; simpa [bI] using this
theorem ownB_cell {w : World} {base g n cap : Nat} {l : List UInt8} (h : w.ownsRow base 5 1 (.slice (some ⟨g, 0, none⟩) n cap) n (bI l)) (k : Nat) (hk : k < n) : w.cell? ⟨g, k, none⟩ = some (.int .u8 ((l[k]?.getD 0).toNat : Int)) := by
  have hl : l.length = n := by have := h.1; simpa [bI] using this
  have := h.cellAt k (by omega)
  rw [this]
  unfold bI
  rw [List.getElem?_map, List.getElem?_eq_getElem (by omega)]
  rfl
theorem OwnB.set {w : World} {base g n : Nat} {l : List UInt8} (h : OwnB w base g n l) (k : Nat) (b : UInt8) : OwnB (w.setCell ⟨g, k, none⟩ (.int .u8 (b.toNat : Int))) base g n (l.set k b) := by
  have e := (World.ownsRow.stored h k (.int .u8 (b.toNat : Int))).1
  unfold OwnB
  have e2 : bI (l.set k b) = (bI l).set k (.int .u8 (b.toNat : Int)) := by unfold bI; rw [List.map_set]
  rw [e2]
  exact e
theorem made_bytes (n : Nat) : (madeCells #[Value.int .u8 0] n).toList = bI (List.replicate n 0) := by
  rw [toList_madeCells_one]; simp [bI]
/-- Rows of unlike elements lie apart. -/
theorem owns_unlike {w : World} {b1 b2 e1 e2 n1 n2 : Nat} {v1 v2 : Value} {x1 x2 : List Value} (h : w.ownsRow b1 e1 1 v1 n1 x1) (g : w.ownsRow b2 e2 1 v2 n2 x2) (hne : e1 ≠ e2) : v1.ownBlock = none ∨ v1.ownBlock ≠ v2.ownBlock := by
  rcases h.2 with ⟨rfl, _⟩ | ⟨g1, c1, u1, rfl, _, hg1, _⟩
  · exact .inl rfl
  · right
    rcases g.2 with ⟨rfl, _⟩ | ⟨g2, c2, u2, rfl, _, hg2, _⟩
    · simp [Value.ownBlock]
    · intro e
      simp [Value.ownBlock] at e
      subst e
      rw [hg1] at hg2
      simp at hg2
      exact hne hg2.2
theorem own_shape1 {w : World} {base e n : Nat} {v : Value} {xs : List Value} (h : w.ownsRow base e 1 v n xs) (hn : 0 < n) : ∃ g cap, v = .slice (some ⟨g, 0, none⟩) n cap ∧ base ≤ g ∧ g < w.heap.size ∧ n ≤ cap ∧ cap ≤ maxLen := by
  obtain ⟨g, cap, rfl, h1, h2⟩ := own_shape' h hn
  have := World.ownsRow.lt h g rfl
  exact ⟨g, cap, rfl, this.1, this.2, h1, h2⟩
theorem dec_len (n : Nat) : (decDigits n).length = nDigits n := by
  induction n using decDigits.induct with
  | case1 u h => rw [decDigits, dif_pos h, nDigits_small h]; rfl
  | case2 u h ih => rw [decDigits, dif_neg h, nDigits_big h, List.length_append, ih]; rfl
theorem dec_pos (n : Nat) : 0 < (decDigits n).length := by
  rw [decDigits]
  split
  · simp
  · simp
theorem low_step (Z r k : Nat) : (Z * 10 ^ (k + 1) + r) / 10 = Z * 10 ^ k + r / 10 ∧ (Z * 10 ^ (k + 1) + r) % 10 = r % 10 := by
  have e : Z * 10 ^ (k + 1) + r = r + Z * 10 ^ k * 10 := by rw [Nat.pow_succ, Nat.mul_assoc]; omega
  rw [e, Nat.add_mul_div_right _ _ (by decide), Nat.add_mul_mod_self_right]
  exact ⟨by omega, rfl⟩
theorem ret_str {a b : ByteArray} (h : a = b) : Ending.returned (.string a) = .returned (.string b) := by rw [h]
theorem byte_val (d : Nat) (h : d ≤ 57) : ((UInt8.ofNat d).toNat : Int) = (d : Int) := by
  have : (UInt8.ofNat d).toNat = d := by rw [UInt8.toNat_ofNat']; omega
  rw [this]

set_option maxHeartbeats 6400000 in
set_option maxRecDepth 100000 in
theorem refDigits_any (v : Value) (xs : List Int) (w : World) (h : Sl w v xs) (hx : Trimmed xs) (hn : xs.length ≤ 8192) :
    Calls Tryd.prog 41 #[v] w fun e w' => e = .returned (.string ⟨(decDigits (val xs).toNat).toArray⟩) ∧ Below w.heap.size w w' := by
  obtain ⟨i0, hi, hz0, hz1, hz2⟩ := info_parts Tryd.infoB
  have wx := h.wd
  have HS := hid h
  obtain ⟨a, cap, rfl, hr⟩ := h
  clear hr
  by_cases h0 : xs.length = 0
  · have hx0 : xs = [] := List.eq_nil_of_length_eq_zero h0
    have HE : Hid ((⟨(decDigits (val xs).toNat).toArray⟩ : ByteArray) = ⟨#[48]⟩) := by
      show _ = _
      rw [hx0, val_nil]
      simp [decDigits]
    rw [h0]
    clear HS hx h0 hx0 hn wx
    go_enter Tryd.func41, Tryd.ntmps41
    go_wp2_with fail
    go_ret
    exact ⟨ret_str HE.out.symm, Below.refl _ _⟩
  · obtain ⟨X, hX⟩ : ∃ X, (val xs).toNat = X := ⟨_, rfl⟩
    have hlen : (decDigits X).length ≤ 100000 := by
      rw [dec_len, ← hX]
      have := digits_few (val_nonneg wx) (val_lt wx)
      omega
    have hpos := dec_pos X
    have hxz : ((xs.length : Int) == 0) = false := by simp; exact fun e => h0 (by rw [e]; rfl)
    rw [hX]
    have HL := hid (And.intro hlen hpos)
    have HST : Hid (Left X (val xs).toNat []) := ⟨fun _ => by rw [hX]; simp, fun e => by
      exfalso
      have h1 := val_ge wx hx (by omega)
      have h2 := pw_pos (xs.length - 1)
      omega⟩
    clear hlen hpos wx h0 hX
    go_enter Tryd.func41, Tryd.ntmps41
    go_wp2_with fail
    go_loopg [0, 3] (val xs).toNat (fun k s0 s3 wr => ∃ (a : Option Addr) (c : Nat) (us : List Int) (bs : List UInt8), s0 = .slice a us.length c ∧ us.length ≤ 8192 ∧ Hid (Sl wr (.slice a us.length c) us ∧ Trimmed us ∧ k = (val us).toNat ∧ Left X (val us).toNat bs) ∧ wr.ownsRow w.heap.size 5 1 s3 bs.length (bI bs) ∧ Below w.heap.size w wr)
    case atStart => exact ⟨a, cap, xs, [], rfl, hn, ⟨HS.out, hx, rfl, HST.out⟩, World.ownsRow_nil _ _ _ _, Below.refl _ _⟩
    case round =>
      clear HS HST hx hn hxz
      obtain ⟨a1, c1, us, bs, rfl, lu, HR, hob, hb⟩ := hrel
      by_cases h0 : us.length = 0
      · have hz : ¬ (0 : Int) < (us.length : Int) := by omega
        have HE : Hid (decDigits X = bs.reverse) := by
          have e1 : us = [] := List.eq_nil_of_length_eq_zero h0
          exact HR.out.2.2.2.2 (by rw [e1, val_nil]; rfl)
        have hbl : bs.length = (decDigits X).length := by rw [HE.out, List.length_reverse]
        have hb0 : 0 < bs.length := by have := HL.out; omega
        have hb1 : bs.length ≤ 100000 := by have := HL.out; omega
        obtain ⟨gb, cb, hv, _, gl, cl, cm⟩ := own_shape1 hob hb0
        subst hv
        obtain ⟨n, hnn⟩ : ∃ n, bs.length = n := ⟨_, rfl⟩
        rw [hnn] at hob hb0 hb1 cl
        rw [hnn]
        have HOB := hid hob
        have HB := hid hb
        have HNN := hid hnn
        clear hob hb HR hbl h0 hnn
        obtain ⟨u0, hu0⟩ : ∃ u0 : World, u0 = wr := ⟨_, rfl⟩
        subst hu0
        go_wp2_with (at_make; refine wpList_make_full _ rfl _ _ 54 rfl u0.heap.size 5 i0 (.int .u8 0) 1 Tryd.underlying54 hi hz0 hz1 _ _ _ _ n rfl rfl (by omega) (by omega) (by rw [hz2]; omega) (by unfold maxLen; omega) (Nat.le_refl _) ?_)
        intro w1 hown hgrow
        have hbel : Below u0.heap.size u0 w1 := (Below.refl _ _).grown hgrow (Nat.le_refl _) (fun k hk => by simp at hk)
        have HO : Hid (OwnB w1 u0.heap.size u0.heap.size n (List.replicate n 0)) := by
          have e := hown
          rw [made_bytes] at e
          exact e
        clear hown hgrow
        go_wp2_with fail
        go_loopw [8] (fun t w2 => ∃ (k : Nat) (l : List UInt8), k ≤ n ∧ t = .int .i64 k ∧ Hid (∀ j, j < k → l[j]?.getD 0 = bs[n - 1 - j]?.getD 0) ∧ OwnB w2 u0.heap.size u0.heap.size n l ∧ Below u0.heap.size u0 w2) (fun t _ => n - (Go.RowKit.intOf t).toNat)
        case atStart => exact ⟨0, _, by omega, rfl, fun j hj => by omega, HO.out, hbel⟩
        case round =>
          obtain ⟨k, l, hk, rfl, HJ, ho, hb2⟩ := hrel
          by_cases hlt : k < n
          · have x1 : u0.cell? ⟨gb, n - 1 - k, none⟩ = some (.int .u8 ((bs[n - 1 - k]?.getD 0).toNat : Int)) := ownB_cell HOB.out _ (by omega)
            have x2 : wr.cell? ⟨gb, n - 1 - k, none⟩ = some (.int .u8 ((bs[n - 1 - k]?.getD 0).toNat : Int)) := (hb2.cell (p := ⟨gb, n - 1 - k, none⟩) gl).trans x1
            have him : (n : Int) - 1 - (k : Int) = ((n - 1 - k : Nat) : Int) := by omega
            have hll := ho.len
            have y1 := ownB_cell ho k hlt
            have f1 : wr.frozen? ⟨u0.heap.size, k, none⟩ = false := World.ownsRow.frozenAt ho k
            have HJN : Hid (∀ j, j < k + 1 → (l.set k (bs[n - 1 - k]?.getD 0))[j]?.getD 0 = bs[n - 1 - j]?.getD 0) := fun j hj => by
              rw [List.getElem?_set]
              by_cases e : k = j
              · subst e; rw [if_pos rfl, if_pos (by omega)]; rfl
              · rw [if_neg e]; exact HJ.out j (by omega)
            have HON := hid (And.intro (ho.set k (bs[n - 1 - k]?.getD 0)) (hb2.setCell (p := ⟨u0.heap.size, k, none⟩) (Nat.le_refl _) (.int .u8 ((bs[n - 1 - k]?.getD 0).toNat : Int))))
            have bb : ((bs[n - 1 - k]?.getD 0).toNat : Int) ≤ 255 := by have := UInt8.toNat_lt (bs[n - 1 - k]?.getD 0); omega
            obtain ⟨B, hB⟩ : ∃ B, bs[n - 1 - k]?.getD 0 = B := ⟨_, rfl⟩
            rw [hB] at x2 HJN HON bb
            obtain ⟨m, hm⟩ : ∃ m, n - 1 - k = m := ⟨_, rfl⟩
            rw [hm] at x2 him
            have hmn : m < n := by omega
            have hmc : m < cb := by omega
            clear x1 hll ho hb2 HJ hB hm
            go_wp2_with fail
            go_roundw
            case rel => exact ⟨k + 1, l.set k B, by omega, by go_num, HJN, HON.out.1, HON.out.2⟩
            case measure => simp [Go.RowKit.intOf]; omega
          · obtain rfl : k = n := by omega
            have hll := ho.len
            have hlr : l = bs.reverse := by
              refine List.ext_getElem? fun j => ?_
              by_cases hj : j < k
              · have e1 := HJ.out j hj
                rw [List.getElem?_eq_getElem (by omega), List.getElem?_eq_getElem (by have := HNN.out; omega)] at e1
                rw [List.getElem?_eq_getElem (by omega), List.getElem?_reverse (by have := HNN.out; omega), HNN.out, List.getElem?_eq_getElem (by have := HNN.out; omega)]
                exact congrArg some e1
              · rw [List.getElem?_eq_none (by omega), List.getElem?_eq_none (by rw [List.length_reverse]; have := HNN.out; omega)]
            have hback : (convert 54 9 (.slice (some ⟨u0.heap.size, 0, none⟩) k k)).run Tryd.prog wr = .ok (.string ⟨(decDigits X).toArray⟩) wr := by
              rw [run_convert_bytes_string wr 54 9 5 _ _ _ Tryd.underlying54 Tryd.underlying5 Tryd.underlying9]
              rw [run_bytesToString wr ⟨u0.heap.size, 0, none⟩ k k (l.map fun b => (b.toNat : Int)) ?_, text_of_bytes, hlr, ← HE.out]
              have e2 := run_loadCells_list (P := Tryd.prog) wr ⟨u0.heap.size, 0, none⟩ (bI l) (fun j v hv => by
                have hj : j < k := by
                  by_cases c : j < k
                  · exact c
                  · rw [List.getElem?_eq_none (by unfold bI; rw [List.length_map]; omega)] at hv; simp at hv
                have := World.ownsRow.cellAt ho j (by omega)
                rw [hv] at this
                rw [Addr.add_lit, Nat.zero_add]
                exact this)
              have e3 : (bI l).length = k := by unfold bI; rw [List.length_map]; omega
              rw [e3] at e2
              have e4 : (l.map fun b => (b.toNat : Int)).map (Value.int .u8) = bI l := by unfold bI; rw [List.map_map]; rfl
              rw [e4]
              exact e2
            have HBF := hid (bt HB.out hb2)
            clear ho hb2 HJ hlr
            go_wp2_with fail
            go_ret
            exact ⟨rfl, HBF.out⟩
      · have hz : (0 : Int) < (us.length : Int) := by omega
        have HSM := hid (refSmall_any _ _ _ us 1000000000 wr HR.out.1.reads (by omega) (by omega))
        have HOB := hid hob
        have HB := hid hb
        have hu1 : 0 < us.length := by omega
        clear hob hb h0
        obtain ⟨u0, hu0⟩ : ∃ u0 : World, u0 = wr := ⟨_, rfl⟩
        subst hu0
        go_wp2_with fail
        refine Calls.mono HSM.out ?_
        rintro e w2 ⟨v2, zs, r, rfl, o2, wz, tz, hv, r0, r1, hb2⟩
        obtain ⟨aq, cq, hs⟩ := own_slice' o2
        subst hs
        have lz : zs.length ≤ 8192 := by
          have := len_of_lt wz tz (L := us.length) (by
            have h1 := val_lt HR.out.1.wd
            have h2 := val_nonneg wz
            omega)
          omega
        obtain ⟨R, hR⟩ := Int.eq_ofNat_of_zero_le r0
        subst hR
        have hZn := val_nonneg wz
        obtain ⟨Z, hZ⟩ := Int.eq_ofNat_of_zero_le hZn
        have hVZ : (val us).toNat = Z * 10 ^ 9 + R := by rw [hv, hZ]; omega
        have HMS : Hid (Z < (val us).toNat) := by
          show _ < _
          have h1 := val_ge HR.out.1.wd HR.out.2.1 hu1
          have h2 := pw_pos (us.length - 1)
          omega
        have HLF : Hid (Left X (Z * 10 ^ (9 - 0) + R) bs) := by have e := HR.out.2.2.2; rw [hVZ] at e; exact e
        have HK := hid HR.out.2.2.1
        have HZ := hid (And.intro hZ (And.intro wz tz))
        have HQ := hid o2
        have HO2 := hid (owns_later HOB.out hb2)
        have HB2 := hid (bt HB.out hb2)
        have hR9 : R < 10 ^ 9 := by omega
        have HR9 : Hid (R < 10 ^ (9 - 0)) := hR9
        have hsz := hb2.size
        have hsz0 := HB.out.size
        clear o2 hv hb2 HR HSM HOB hVZ r0 r1 hZ wz tz hZn hR9
        go_wp2_with fail
        go_loopw [3, 5, 6] (fun s3 s5 s6 w3 => ∃ (i r : Nat) (bs : List UInt8), i ≤ 9 ∧ s6 = .int .i64 i ∧ s5 = .int .u32 (r : Int) ∧ Hid (r < 10 ^ (9 - i)) ∧ Hid (Left X (Z * 10 ^ (9 - i) + r) bs) ∧ w3.ownsRow w.heap.size 5 1 s3 bs.length (bI bs) ∧ w3.ownsRow u0.heap.size 47 1 (.slice aq zs.length cq) zs.length (zs.map (Value.int .u32)) ∧ Below w.heap.size w w3) (fun _ _ s6 _ => 9 - (Go.RowKit.intOf s6).toNat)
        case atStart => exact ⟨0, R, bs, by omega, rfl, rfl, HR9, HLF, HO2.out, HQ.out, HB2.out⟩
        case round =>
          clear HR9 HLF HO2 HQ HB2
          obtain ⟨i, r, cs, hi9, rfl, rfl, HRI, HLI, hoc, hoq, hb⟩ := hrel
          have hr10 : r ≤ 1000000000 := by
            have h1 := HRI.out
            have h2 : 10 ^ (9 - i) ≤ 10 ^ 9 := Nat.pow_le_pow_right (by decide) (by omega)
            omega
          have hstop : (i = 9 ∨ (zs.length = 0 ∧ r = 0)) → Z * 10 ^ (9 - i) + r = Z := by
            rintro (e | ⟨e1, e2⟩)
            · subst e
              have := HRI.out
              simp at this ⊢
              omega
            · have e3 : zs = [] := List.eq_nil_of_length_eq_zero e1
              have e4 := HZ.out.1
              rw [e3, val_nil] at e4
              have : Z = 0 := by omega
              rw [this, e2]; simp
          have hgo : i < 9 → (0 < zs.length ∨ 0 < r) → 0 < Z * 10 ^ (9 - i) + r := by
            rintro _ (e | e)
            · have h1 := val_ge HZ.out.2.1 HZ.out.2.2 e
              have h2 := pw_pos (zs.length - 1)
              have h3 := HZ.out.1
              have : 0 < Z := by omega
              have : 0 < Z * 10 ^ (9 - i) := Nat.mul_pos this (Nat.pow_pos (by decide))
              omega
            · omega
          have HST := hid hstop
          have HGO := hid hgo
          clear hstop hgo
          have hcl : cs.length ≤ 100000 := by have := HLI.out.len; have := HL.out; omega
          have hbs := hb.size
          by_cases c9 : i < 9
          · by_cases cz : 0 < zs.length
            · have cz' : (0 : Int) < (zs.length : Int) := by omega
              have hV := HGO.out c9 (.inl cz)
              obtain ⟨j, hj⟩ : ∃ j, 9 - i = j + 1 := ⟨8 - i, by omega⟩
              have hls := low_step Z r j
              have hst := HLI.out.step hV
              rw [hj, hls.1, hls.2] at hst
              have HLN : Hid (Left X (Z * 10 ^ (9 - (i + 1)) + r / 10) (cs ++ [UInt8.ofNat (48 + r % 10)])) := by rw [show 9 - (i + 1) = j by omega]; exact hst
              have HRN : Hid (r / 10 < 10 ^ (9 - (i + 1))) := by
                show _ < _
                have h1 := HRI.out
                rw [hj, Nat.pow_succ] at h1
                rw [show 9 - (i + 1) = j by omega]
                omega
              have hdv : ((r : Int) / 10) = ((r / 10 : Nat) : Int) := by omega
              have hmd : ((r : Int) % 10) = ((r % 10 : Nat) : Int) := by omega
              have hm10 : r % 10 < 10 := by omega
              have HBV := hid (byte_val (48 + r % 10) (by omega))
              have HMM : Hid (bI (cs ++ [UInt8.ofNat (48 + r % 10)]) = bI cs ++ [.int .u8 (48 + (r % 10 : Nat) : Int)]) := by
                show _ = _
                unfold bI
                rw [List.map_append]
                congr 1
                show [Value.int .u8 _] = _
                rw [HBV.out]
                rfl
              obtain ⟨d, hd⟩ : ∃ d, r % 10 = d := ⟨_, rfl⟩
              rw [hd] at hmd hm10 HMM HLN
              obtain ⟨e', he'⟩ : ∃ e', r / 10 = e' := ⟨_, rfl⟩
              rw [he'] at hdv HRN HLN
              have hne := owns_unlike hoq hoc (by decide)
              obtain ⟨RR, hRR⟩ : ∃ RR, RR = bI cs := ⟨_, rfl⟩
              obtain ⟨nc, hnc⟩ : ∃ nc, cs.length = nc := ⟨_, rfl⟩
              rw [← hRR, hnc] at hoc
              rw [← hRR] at HMM
              have HNC := hid hnc
              have HQ := hid hoq
              have HNE := hid hne
              rw [hnc] at hcl
              clear hRR hls hst hj hV hd he' hnc hoq hne HLI HRI HST HGO HBV
              go_wp2_with (at_builtin; refine wpList_append_own _ rfl _ _ 54 rfl w.heap.size 5 i0 (.int .u8 0) 1 1 Tryd.underlying54 hi hz0 hz1 hz2 rfl (by decide) _ _ _ rfl (hoc.alloc _) ⟨wr.heap.size, 0, none⟩ 1 1 [.int .u8 (48 + (d : Int))] rfl rfl (cell_one_new _ _ _) (by simp [Value.oneCell']) (by unfold maxLen; omega) (by omega) (by simp; omega) ?_)
              intro v' w4 ho4 hg4 _
              have HO4 : Hid (w4.ownsRow w.heap.size 5 1 v' (cs ++ [UInt8.ofNat (48 + d)]).length (bI (cs ++ [UInt8.ofNat (48 + d)]))) := by
                show World.ownsRow _ _ _ _ _ _ _
                rw [HMM.out, List.length_append, HNC.out]
                exact ho4
              have HQ4 := hid (World.ownsRow.kept (HQ.out.alloc _) hg4 HNE.out)
              have HB4 : Hid (Below w.heap.size w w4) := (hb.alloc (by omega) _).grown hg4 (by simp; omega) (fun g hg => (hoc.lt g hg).1)
              clear ho4 hg4 hoc hb HQ HNE HMM
              go_wp2_with fail
              go_roundw
              case rel => exact ⟨i + 1, e', _, by omega, by go_num, by go_num, HRN, HLN, HO4.out, HQ4.out, HB4.out⟩
              case measure => simp [Go.RowKit.intOf]; omega
            · have cz' : ¬ (0 : Int) < (zs.length : Int) := by omega
              by_cases cr : 0 < r
              · have cr' : (0 : Int) < (r : Int) := by omega
                have hV := HGO.out c9 (.inr cr)
                obtain ⟨j, hj⟩ : ∃ j, 9 - i = j + 1 := ⟨8 - i, by omega⟩
                have hls := low_step Z r j
                have hst := HLI.out.step hV
                rw [hj, hls.1, hls.2] at hst
                have HLN : Hid (Left X (Z * 10 ^ (9 - (i + 1)) + r / 10) (cs ++ [UInt8.ofNat (48 + r % 10)])) := by rw [show 9 - (i + 1) = j by omega]; exact hst
                have HRN : Hid (r / 10 < 10 ^ (9 - (i + 1))) := by
                  show _ < _
                  have h1 := HRI.out
                  rw [hj, Nat.pow_succ] at h1
                  rw [show 9 - (i + 1) = j by omega]
                  omega
                have hdv : ((r : Int) / 10) = ((r / 10 : Nat) : Int) := by omega
                have hmd : ((r : Int) % 10) = ((r % 10 : Nat) : Int) := by omega
                have hm10 : r % 10 < 10 := by omega
                have HBV := hid (byte_val (48 + r % 10) (by omega))
                have HMM : Hid (bI (cs ++ [UInt8.ofNat (48 + r % 10)]) = bI cs ++ [.int .u8 (48 + (r % 10 : Nat) : Int)]) := by
                  show _ = _
                  unfold bI
                  rw [List.map_append]
                  congr 1
                  show [Value.int .u8 _] = _
                  rw [HBV.out]
                  rfl
                obtain ⟨d, hd⟩ : ∃ d, r % 10 = d := ⟨_, rfl⟩
                rw [hd] at hmd hm10 HMM HLN
                obtain ⟨e', he'⟩ : ∃ e', r / 10 = e' := ⟨_, rfl⟩
                rw [he'] at hdv HRN HLN
                have hne := owns_unlike hoq hoc (by decide)
                obtain ⟨RR, hRR⟩ : ∃ RR, RR = bI cs := ⟨_, rfl⟩
                obtain ⟨nc, hnc⟩ : ∃ nc, cs.length = nc := ⟨_, rfl⟩
                rw [← hRR, hnc] at hoc
                rw [← hRR] at HMM
                have HNC := hid hnc
                have HQ := hid hoq
                have HNE := hid hne
                rw [hnc] at hcl
                clear hRR hls hst hj hV hd he' hnc hoq hne HLI HRI HST HGO HBV
                go_wp2_with (at_builtin; refine wpList_append_own _ rfl _ _ 54 rfl w.heap.size 5 i0 (.int .u8 0) 1 1 Tryd.underlying54 hi hz0 hz1 hz2 rfl (by decide) _ _ _ rfl (hoc.alloc _) ⟨wr.heap.size, 0, none⟩ 1 1 [.int .u8 (48 + (d : Int))] rfl rfl (cell_one_new _ _ _) (by simp [Value.oneCell']) (by unfold maxLen; omega) (by omega) (by simp; omega) ?_)
                intro v' w4 ho4 hg4 _
                have HO4 : Hid (w4.ownsRow w.heap.size 5 1 v' (cs ++ [UInt8.ofNat (48 + d)]).length (bI (cs ++ [UInt8.ofNat (48 + d)]))) := by
                  show World.ownsRow _ _ _ _ _ _ _
                  rw [HMM.out, List.length_append, HNC.out]
                  exact ho4
                have HQ4 := hid (World.ownsRow.kept (HQ.out.alloc _) hg4 HNE.out)
                have HB4 : Hid (Below w.heap.size w w4) := (hb.alloc (by omega) _).grown hg4 (by simp; omega) (fun g hg => (hoc.lt g hg).1)
                clear ho4 hg4 hoc hb HQ HNE HMM
                go_wp2_with fail
                go_roundw
                case rel => exact ⟨i + 1, e', _, by omega, by go_num, by go_num, HRN, HLN, HO4.out, HQ4.out, HB4.out⟩
                case measure => simp [Go.RowKit.intOf]; omega
              · have cr' : ¬ (0 : Int) < (r : Int) := by omega
                have he := HST.out (.inr ⟨by omega, by omega⟩)
                rw [he] at HLI
                have HN : Hid (Sl wr (.slice aq zs.length cq) zs ∧ Trimmed zs ∧ Z = (val zs).toNat ∧ Left X (val zs).toNat cs) := by
                  have e1 := HZ.out.1
                  have e2 : (val zs).toNat = Z := by omega
                  exact ⟨Sl.own hoq HZ.out.2.1, HZ.out.2.2, e2.symm, by rw [e2]; exact HLI.out⟩
                have HOC := hid (And.intro hoc hb)
                clear hoc hoq hb HLI HRI HST HGO he
                go_wp2_with fail
                go_roundg Z
                case rel => exact ⟨aq, cq, zs, cs, rfl, lz, HN, HOC.out.1, HOC.out.2⟩
                case measure => have := HMS.out; have := HK.out; omega
          · have he := HST.out (.inl (by omega))
            rw [he] at HLI
            have HN : Hid (Sl wr (.slice aq zs.length cq) zs ∧ Trimmed zs ∧ Z = (val zs).toNat ∧ Left X (val zs).toNat cs) := by
              have e1 := HZ.out.1
              have e2 : (val zs).toNat = Z := by omega
              exact ⟨Sl.own hoq HZ.out.2.1, HZ.out.2.2, e2.symm, by rw [e2]; exact HLI.out⟩
            have HOC := hid (And.intro hoc hb)
            clear hoc hoq hb HLI HRI HST HGO he
            go_wp2_with fail
            go_roundg Z
            case rel => exact ⟨aq, cq, zs, cs, rfl, lz, HN, HOC.out.1, HOC.out.2⟩
            case measure => have := HMS.out; have := HK.out; omega
end Go.Proofs.YtgimgagnfkinmaaDoor

/- The document's own reading of digits: slackwaterref01.Read: of every text. -/
namespace Go.Proofs.YtgimgagnfkinmaaDoor
open Go.RowKit
set_option linter.unusedVariables false

theorem ten_step (us vs : List Int) (k : Nat) (cc z c' D : Int) (hk : k < vs.length) (hu : vs[k]?.getD 0 = us[k]?.getD 0) (ht : z + c' * 4294967296 = us[k]?.getD 0 * 10 + cc) (h : valTo vs k + cc * 4294967296 ^ k = valTo us k * 10 + D) :
    valTo (vs.set k z) (k + 1) + c' * 4294967296 ^ (k + 1) = valTo us (k + 1) * 10 + D := by
  rw [valTo_set vs k z hk, valTo_succ, pw_succ]
  generalize (4294967296 : Int) ^ k = P at *
  generalize us[k]?.getD 0 = u at *
  grind
theorem valTo_high (us : List Int) (m : Nat) (h : ∀ j, m ≤ j → us[j]?.getD 0 = 0) : valTo us m = val us := by
  have e : ∀ d, valTo us (m + d) = valTo us m := fun d => by
    induction d with
    | zero => rfl
    | succ d ih => rw [← Nat.add_assoc, valTo_succ, h (m + d) (by omega), ih]; omega
  rw [← e us.length, valTo_stable us _ (by omega)]
theorem ten_lt (i : Nat) : (10 : Int) ^ (i + 1) ≤ 4294967296 ^ (i / 9 + 1) := by
  have h1 : 10 ^ (i + 1) ≤ 10 ^ (9 * (i / 9 + 1)) := Nat.pow_le_pow_right (by decide) (by omega)
  have h2 : 10 ^ (9 * (i / 9 + 1)) = (10 ^ 9) ^ (i / 9 + 1) := Nat.pow_mul ..
  have h3 : (10 ^ 9) ^ (i / 9 + 1) ≤ 4294967296 ^ (i / 9 + 1) := Nat.pow_le_pow_left (by decide) _
  have h4 := Int.ofNat_le.2 (Nat.le_trans (h2 ▸ h1) h3)
  rw [Int.natCast_pow, Int.natCast_pow] at h4
  exact h4
theorem ten_end {vs : List Int} (hw : Wd vs) (n : Nat) (c V : Int) (h0 : 0 ≤ c) (h1 : V < 4294967296 ^ n) (h : valTo vs n + c * 4294967296 ^ n = V) : valTo vs n = V := by
  have b := valTo_bounds hw n
  have hp := pw_pos n
  have hc : c = 0 := by
    by_cases z : c = 0
    · exact z
    · have e1 : 1 * 4294967296 ^ n ≤ c * 4294967296 ^ n := Int.mul_le_mul_of_nonneg_right (by omega) (by omega)
      omega
  rw [hc] at h
  omega

set_option maxHeartbeats 6400000 in
set_option maxRecDepth 100000 in
theorem refRead_yes (s : ByteArray) (w : World) (hs : s.size ≤ 65536) (hn : IsNum s.data.toList) :
    Calls Tryd.prog 44 #[.string s] w fun e w' => ∃ v zs, e = .returned (.tuple #[v, .bool true]) ∧ w'.ownsRow w.heap.size 47 1 v zs.length (zs.map (Value.int .u32)) ∧ Wd zs ∧ Trimmed zs ∧ val zs = numTo s.data.toList s.size ∧ Below w.heap.size w w' := by
  obtain ⟨i0, hi, hz0, hz1, hz2⟩ := info_parts Tryd.infoW
  have hl := size_list s
  have hp : 0 < s.size := by have := hn.1; omega
  have HD : Hid (∀ k (h : k < s.size), 48 ≤ (s[k].toNat : Int) ∧ (s[k].toNat : Int) ≤ 57) := fun k h => hn.2.2 _ (List.mem_of_getElem? (byte_at s k h))
  have HDG := hid hn.2.2
  have b0 := byte_at s 0 hp
  have hpz : ((s.size : Int) == 0) = false := beq_eq_false_iff_ne.2 (by omega)
  have hc : (1 < s.size ∧ ((s[0].toNat : Int) == 48) = false) ∨ ¬ 1 < s.size := by
    by_cases c1 : 1 < s.size
    · left
      refine ⟨c1, ?_⟩
      simp
      intro e
      have e48 : s[0] = 48 := UInt8.toNat_inj.1 (by show s[0].toNat = 48; omega)
      have := hn.2.1 (by rw [b0, e48]; rfl)
      omega
    · exact .inr c1
  obtain ⟨Q, hQ1, hQ2⟩ : ∃ Q : Nat, 9 * Q ≤ s.size ∧ s.size < 9 * Q + 9 := ⟨s.size / 9, by omega, by omega⟩
  have hq : (s.size : Int) / 9 = (Q : Int) := by omega
  have HSZ := hid hl
  clear hn b0 hl
  have key : ∀ P : Prop, (1 < s.size ∧ ((s[0].toNat : Int) == 48) = false → P) → (¬ 1 < s.size → P) → P := fun P h1 h2 => hc.elim h1 h2
  clear hc
  refine key _ ?_ ?_
  all_goals
    clear key
    intro hc
    try obtain ⟨hc, c0b⟩ := hc
    go_enter Tryd.func44, Tryd.ntmps44
    go_wp2_with fail
    go_loop [4] (fun t => ∃ k : Nat, k ≤ s.size ∧ t = .int .i64 k) (fun t => s.size - (intOf t).toNat)
    case atStart => exact ⟨0, by omega, rfl⟩
    case round =>
      obtain ⟨k, hk, rfl⟩ := hrel
      by_cases hlt : k < s.size
      · have bk := HD.out k hlt
        have d1 : ¬ (s[k].toNat : Int) < 48 := by omega
        have d2 : ¬ 57 < (s[k].toNat : Int) := by omega
        go_wp2_with fail
        go_round
        case rel => exact ⟨k + 1, by omega, by go_num⟩
        case measure => simp [intOf]; omega
      · go_wp2_with (at_make; refine wpList_make_full _ rfl _ _ 22 rfl w.heap.size 47 i0 (.int .u32 0) 1 Tryd.underlying22 hi hz0 hz1 _ _ _ _ (Q + 1) rfl rfl (by omega) (by omega) (by rw [hz2]; omega) (by unfold maxLen; omega) (Nat.le_refl _) ?_)
        intro w1 hown hgrow
        have hbel : Below w.heap.size w w1 := (Below.refl _ _).grown hgrow (Nat.le_refl _) (fun k hk => by simp at hk)
        have HO := hid (OwnW.made hown)
        clear hown hgrow
        go_wp2_with fail
        clear hq
        go_loopw [6] (fun t wr => ∃ (i : Nat) (us : List Int), i ≤ s.size ∧ t = .int .i64 i ∧ Wd us ∧ Hid (val us = numTo s.data.toList i) ∧ Hid (∀ j, i / 9 + 1 ≤ j → us[j]?.getD 0 = 0) ∧ OwnW wr w.heap.size w.heap.size (Q + 1) us ∧ Below w.heap.size w wr) (fun t _ => s.size - (intOf t).toNat)
        case atStart =>
          refine ⟨0, _, by omega, rfl, Wd.replicate _, ?_, fun j _ => ?_, HO.out, hbel⟩
          · show _ = _
            rw [← valTo_high _ 0 (fun j _ => by rw [List.getElem?_replicate]; split <;> rfl)]; rfl
          · rw [List.getElem?_replicate]; split <;> rfl
        case round =>
          obtain ⟨i, us, hik, rfl, hwu, HV, HZ, ho, hb⟩ := hrel
          by_cases hlt2 : i < s.size
          · have bk := HD.out i hlt2
            obtain ⟨D, hD⟩ : ∃ D, (s[i].toNat : Int) - 48 = D := ⟨_, rfl⟩
            have D0 : 0 ≤ D ∧ D ≤ 9 := by omega
            obtain ⟨M, hM1, hM2⟩ : ∃ M : Nat, 9 * M ≤ i ∧ i < 9 * M + 9 := ⟨i / 9, by omega, by omega⟩
            have hm : (i : Int) / 9 = (M : Int) := by omega
            have HM : Hid (i / 9 = M) := by show _ = _; omega
            have HNX : Hid (numTo s.data.toList (i + 1) = numTo s.data.toList i * 10 + D) := by
              show _ = _
              rw [← hD]
              show numTo s.data.toList i * 10 + (((s.data.toList[i]?.getD 48).toNat : Int) - 48) = _
              rw [byte_at s i hlt2]; rfl
            have HO1 := hid ho
            have HB1 := hid hb
            clear ho hb
            go_wp2_with fail
            go_loopw [7, 8] (fun c t wr2 => ∃ (q : Nat) (cc : Int) (vs : List Int), q ≤ M + 1 ∧ t = .int .i64 q ∧ c = .int .u64 cc ∧ 0 ≤ cc ∧ cc ≤ 9 ∧ Wd vs ∧ Hid (valTo vs q + cc * 4294967296 ^ q = valTo us q * 10 + D) ∧ Hid (∀ j, q ≤ j → vs[j]?.getD 0 = us[j]?.getD 0) ∧ OwnW wr2 w.heap.size w.heap.size (Q + 1) vs ∧ Below w.heap.size w wr2) (fun _ t _ => M + 1 - (intOf t).toNat)
            case atStart => exact ⟨0, D, us, by omega, rfl, rfl, D0.1, D0.2, hwu, show _ = _ by simp [valTo], fun _ _ => rfl, HO1.out, HB1.out⟩
            case round =>
              obtain ⟨q, cc, vs, hq', rfl, rfl, c0, c1, hwv, HV2, HK2, ho, hb⟩ := hrel
              by_cases hlt3 : q ≤ M
              · have hle : (q : Int) ≤ (M : Int) := by omega
                have y1 := ho.cell q (by omega)
                have f1 := ho.free q
                have b3 := hwv.at q
                have hlu := ho.len
                have HST := hid (fun z c' => ten_step us vs q cc z c' D (by omega) (HK2.out q (Nat.le_refl _)))
                rw [← HK2.out q (Nat.le_refl _)] at HST
                obtain ⟨u, hu⟩ : ∃ u, vs[q]?.getD 0 = u := ⟨_, rfl⟩
                rw [hu] at y1 b3 HST
                obtain ⟨t, ht⟩ : ∃ t, u * 10 + cc = t := ⟨_, rfl⟩
                have t0 : 0 ≤ t ∧ t ≤ 42949672959 := by omega
                have HSV := hid (HST.out (t % 4294967296) (t / 4294967296) (by omega) HV2.out)
                have HKN : Hid (∀ j, q + 1 ≤ j → (vs.set q (t % 4294967296))[j]?.getD 0 = us[j]?.getD 0) := fun j hj => by
                  rw [List.getElem?_set, if_neg (by omega)]
                  exact HK2.out j (by omega)
                have HOB := hid (And.intro (ho.set q (t % 4294967296)) (hb.setCell (p := ⟨w.heap.size, q, none⟩) (Nat.le_refl _) (.int .u32 (t % 4294967296))))
                clear hlu ho hb HV2 HK2 HST hu
                go_wp2_with fail
                go_roundw
                case rel => exact ⟨q + 1, t / 4294967296, vs.set q (t % 4294967296), by omega, by go_num, by go_num, by omega, by omega, hwv.set _ (by omega), HSV, HKN, HOB.out.1, HOB.out.2⟩
                case measure => simp [intOf]; omega
              · obtain rfl : q = M + 1 := by omega
                have hle : ¬ ((M + 1 : Nat) : Int) ≤ (M : Int) := by omega
                have hzu : ∀ j, M + 1 ≤ j → us[j]?.getD 0 = 0 := fun j hj => HZ.out j (by rw [HM.out]; exact hj)
                have hzv : ∀ j, M + 1 ≤ j → vs[j]?.getD 0 = 0 := fun j hj => by rw [HK2.out j hj]; exact hzu j hj
                have HVN : Hid (val vs = numTo s.data.toList (i + 1)) := by
                  show _ = _
                  have e := HV2.out
                  rw [valTo_high us (M + 1) hzu, HV.out, ← HNX.out] at e
                  rw [← valTo_high vs (M + 1) hzv]
                  have h10 := (numTo_bounds HDG.out (i + 1)).2
                  have h11 := ten_lt i
                  rw [HM.out] at h11
                  exact ten_end hwv (M + 1) cc _ c0 (by omega) e
                have HZN : Hid (∀ j, (i + 1) / 9 + 1 ≤ j → vs[j]?.getD 0 = 0) := fun j hj => hzv j (by have := HM.out; omega)
                have HOB := hid (And.intro ho hb)
                clear ho hb HV2 HK2 hzu hzv HV HZ
                go_wp2_with fail
                go_roundw
                case rel => exact ⟨i + 1, vs, by omega, by go_num, hwv, HVN, HZN, HOB.out.1, HOB.out.2⟩
                case measure => simp [intOf]; omega
          · obtain rfl : i = s.size := by omega
            have hlu := ho.len
            have HF := hid HV.out
            have HR := hid (refTrim_sl (.slice (some ⟨w.heap.size, 0, none⟩) us.length us.length) us wr (Sl.own (owns_len (show wr.ownsRow w.heap.size 47 1 (.slice (some ⟨w.heap.size, 0, none⟩) us.length us.length) us.length (us.map (Value.int .u32)) by rw [hlu]; exact ho)) hwu) (by omega))
            rw [hlu] at HR
            clear ho HV HZ
            go_wp2_with fail
            refine Calls.mono HR.out ?_
            rintro e w3 ⟨v3, rfl, o3, hb3⟩
            have HO3 := hid (owns_base (owns_len o3) hb.size)
            have hbF := bt hb hb3
            clear o3 hb3
            go_wp2_with fail
            go_ret2
            exact ⟨v3, _, rfl, HO3.out, hwu.trimmed, Trimmed.trimmed _, by rw [val_trimmed]; exact HF.out, hbF⟩
end Go.Proofs.YtgimgagnfkinmaaDoor

/- The document's told: a number, if it is not too long. -/
namespace Go.Proofs.YtgimgagnfkinmaaDoor
open Go.RowKit
set_option linter.unusedVariables false

set_option maxHeartbeats 800000 in
set_option maxRecDepth 100000 in
theorem refTold_ok (a : Option Addr) (n c : Nat) (w : World) (h : n ≤ 8192) :
    Calls Tryd.prog 34 #[.slice a n c] w fun e w' => e = .returned (.tuple #[.slice a n c, .int .i64 0]) ∧ w = w' := by
  have h' : ¬ (8192 : Int) < (n : Int) := by omega
  go_enter Tryd.func34, Tryd.ntmps34
  go_wp2_with fail
  go_ret2
  exact ⟨rfl, rfl⟩
set_option maxHeartbeats 800000 in
set_option maxRecDepth 100000 in
theorem refTold_long (a : Option Addr) (n c : Nat) (w : World) (h : 8192 < n) :
    Calls Tryd.prog 34 #[.slice a n c] w fun e w' => e = .returned (.tuple #[.slice none 0 0, .int .i64 3]) ∧ w = w' := by
  have h' : (8192 : Int) < (n : Int) := by omega
  go_enter Tryd.func34, Tryd.ntmps34
  go_wp2_with fail
  go_ret2
  exact ⟨rfl, rfl⟩
theorem trimmed_wide {zs : List Int} {t : Int} (hw : Wd zs) (ht : Trimmed zs) (hv : val zs = t) : 8192 < zs.length ↔ wide ≤ t := by
  rw [← hv, ← wide_iff hw]
  have e : sz zs = zs.length := ht
  rw [e]
end Go.Proofs.YtgimgagnfkinmaaDoor

/- The document's own texts: slackwaterref01.Read of what is no number; Print, Parse: of every number and text. -/
namespace Go.Proofs.YtgimgagnfkinmaaDoor
open Go.RowKit
set_option linter.unusedVariables false

set_option maxHeartbeats 3200000 in
set_option maxRecDepth 100000 in
theorem refRead_no (s : ByteArray) (w : World) (hs : s.size ≤ 65536) (hn : ¬ IsNum s.data.toList) :
    Calls Tryd.prog 44 #[.string s] w fun e w' => e = .returned (.tuple #[.slice none 0 0, .bool false]) ∧ w = w' := by
  have hl := size_list s
  have HL := hid hl
  have HN := hid hn
  by_cases h0 : s.size = 0
  · have hse : s = ⟨#[]⟩ := by
      obtain ⟨d⟩ := s
      have : d = #[] := Array.eq_empty_of_size_eq_zero h0
      rw [this]
    subst hse
    clear h0 hl HL HN hn hs
    go_enter Tryd.func44, Tryd.ntmps44
    go_wp2_with fail
    go_ret2
    exact ⟨rfl, rfl⟩
  · have hp : 0 < s.size := by omega
    have hpz : ((s.size : Int) == 0) = false := beq_eq_false_iff_ne.2 (by omega)
    have b0 := byte_at s 0 hp
    by_cases c1 : 1 < s.size
    · by_cases c0 : (s[0].toNat : Int) = 48
      · have c0b : ((s[0].toNat : Int) == 48) = true := by simp [c0]
        clear h0 hl HL HN hn b0 c0
        go_enter Tryd.func44, Tryd.ntmps44
        go_wp2_with fail
        go_ret2
        exact ⟨rfl, rfl⟩
      · have c0b : ((s[0].toNat : Int) == 48) = false := beq_eq_false_iff_ne.2 c0
        have H1 : Hid (s.data.toList[0]?.getD 0 = 48 → s.data.toList.length ≤ 1) := fun e => by
          rw [b0] at e
          have e : s[0] = 48 := e
          exact absurd (by rw [e]; rfl) c0
        clear h0 hl hn b0 c0
        go_enter Tryd.func44, Tryd.ntmps44
        go_wp2_with fail
        go_loop [4] (fun t => ∃ k : Nat, k ≤ s.size ∧ t = .int .i64 k ∧ Hid (∀ j : Nat, j < k → 48 ≤ ((s.data.toList[j]?.getD 0).toNat : Int) ∧ ((s.data.toList[j]?.getD 0).toNat : Int) ≤ 57)) (fun t => s.size - (intOf t).toNat)
        case atStart => exact ⟨0, by omega, rfl, fun j hj => by omega⟩
        case round =>
          obtain ⟨k, hk, rfl, HJ⟩ := hrel
          by_cases hlt : k < s.size
          · have bk := byte_at s k hlt
            by_cases d1 : (s[k].toNat : Int) < 48
            · clear bk
              go_wp2_with fail
              go_ret2
              exact ⟨rfl, rfl⟩
            · by_cases d2 : 57 < (s[k].toNat : Int)
              · clear bk
                go_wp2_with fail
                go_ret2
                exact ⟨rfl, rfl⟩
              · have HJ' : Hid (∀ j : Nat, j < k + 1 → 48 ≤ ((s.data.toList[j]?.getD 0).toNat : Int) ∧ ((s.data.toList[j]?.getD 0).toNat : Int) ≤ 57) := fun j hj => by
                  by_cases e : j = k
                  · rw [e, bk]; show 48 ≤ (s[k].toNat : Int) ∧ (s[k].toNat : Int) ≤ 57; omega
                  · exact HJ.out j (by omega)
                clear bk
                go_wp2_with fail
                go_round
                case rel => exact ⟨k + 1, by omega, by go_num, HJ'⟩
                case measure => simp [intOf]; omega
          · exfalso
            refine HN.out ⟨by have := HL.out; omega, H1.out, fun c hc => ?_⟩
            obtain ⟨j, hj, e⟩ := mem_at hc
            have := HJ.out j (by have := HL.out; omega)
            rw [e] at this
            exact this
    · have H1 : Hid (s.data.toList[0]?.getD 0 = 48 → s.data.toList.length ≤ 1) := fun _ => by omega
      clear h0 hl hn b0
      go_enter Tryd.func44, Tryd.ntmps44
      go_wp2_with fail
      go_loop [4] (fun t => ∃ k : Nat, k ≤ s.size ∧ t = .int .i64 k ∧ Hid (∀ j : Nat, j < k → 48 ≤ ((s.data.toList[j]?.getD 0).toNat : Int) ∧ ((s.data.toList[j]?.getD 0).toNat : Int) ≤ 57)) (fun t => s.size - (intOf t).toNat)
      case atStart => exact ⟨0, by omega, rfl, fun j hj => by omega⟩
      case round =>
        obtain ⟨k, hk, rfl, HJ⟩ := hrel
        by_cases hlt : k < s.size
        · have bk := byte_at s k hlt
          by_cases d1 : (s[k].toNat : Int) < 48
          · clear bk
            go_wp2_with fail
            go_ret2
            exact ⟨rfl, rfl⟩
          · by_cases d2 : 57 < (s[k].toNat : Int)
            · clear bk
              go_wp2_with fail
              go_ret2
              exact ⟨rfl, rfl⟩
            · have HJ' : Hid (∀ j : Nat, j < k + 1 → 48 ≤ ((s.data.toList[j]?.getD 0).toNat : Int) ∧ ((s.data.toList[j]?.getD 0).toNat : Int) ≤ 57) := fun j hj => by
                by_cases e : j = k
                · rw [e, bk]; show 48 ≤ (s[k].toNat : Int) ∧ (s[k].toNat : Int) ≤ 57; omega
                · exact HJ.out j (by omega)
              clear bk
              go_wp2_with fail
              go_round
              case rel => exact ⟨k + 1, by omega, by go_num, HJ'⟩
              case measure => simp [intOf]; omega
        · exfalso
          refine HN.out ⟨by have := HL.out; omega, H1.out, fun c hc => ?_⟩
          obtain ⟨j, hj, e⟩ := mem_at hc
          have := HJ.out j (by have := HL.out; omega)
          rw [e] at this
          exact this

set_option maxHeartbeats 1600000 in
set_option maxRecDepth 100000 in
theorem refPrint_any (v : Value) (xs : List Int) (w : World) (h : Sl w v xs) (hn : xs.length ≤ 281474976710656) :
    Calls Tryd.prog 10 #[v] w fun e w' => e = .returned (.tuple #[.string (if chk xs = 0 then ⟨(Lib.decDigits (val xs).toNat).toArray⟩ else ⟨#[]⟩), .int .i64 (chk xs)]) ∧ Below w.heap.size w w' := by
  have HC := hid (refCheck_sl v xs w h hn)
  by_cases hc : chk xs = 0
  · obtain ⟨lx, tx⟩ := chk_ok hc
    have HD := hid (refDigits_any v xs w h tx lx)
    rw [hc] at HC ⊢
    rw [if_pos rfl]
    generalize (⟨(Lib.decDigits (val xs).toNat).toArray⟩ : ByteArray) = S at *
    clear h hc tx lx hn
    go_enter Tryd.func10, Tryd.ntmps10
    go_wp2_with fail
    refine Calls.mono HC.out ?_
    rintro e w1 ⟨rfl, rfl⟩
    go_wp2_with fail
    refine Calls.mono HD.out ?_
    rintro e w1 ⟨rfl, hb⟩
    go_wp2_with fail
    go_ret2
    exact ⟨rfl, hb⟩
  · have hc' : (chk xs == 0) = false := by simpa using hc
    rw [if_neg hc]
    clear h hc
    go_enter Tryd.func10, Tryd.ntmps10
    go_wp2_with fail
    refine Calls.mono HC.out ?_
    rintro e w1 ⟨rfl, rfl⟩
    go_wp2_with fail
    go_ret2
    exact ⟨rfl, Below.refl _ _⟩

set_option maxHeartbeats 1600000 in
set_option maxRecDepth 100000 in
theorem refParse_any (s : ByteArray) (w : World) (hs : s.size ≤ maxLen) :
    Calls Tryd.prog 12 #[.string s] w (Told w (pErr s) (numTo s.data.toList s.size)) := by
  unfold maxLen at hs
  by_cases h1 : 65536 < s.size
  · have HT := hid (Tells.err (t := numTo s.data.toList s.size) (e := 3) (by decide))
    have HE : Hid (pErr s = 3) := by show _ = _; unfold pErr; rw [if_pos h1]
    rw [HE.out]
    have h1' : (65536 : Int) < (s.size : Int) := by omega
    clear HE h1
    go_enter Tryd.func12, Tryd.ntmps12
    go_wp2_with fail
    go_ret2
    exact ⟨_, [], 3, rfl, World.ownsRow_nil _ _ _ _, HT.out, Below.refl _ _⟩
  · have h1' : ¬ (65536 : Int) < (s.size : Int) := by omega
    by_cases hn : IsNum s.data.toList
    · have HR := hid (refRead_yes s w (by omega) hn)
      have HE : Hid (pErr s = 0) := by show _ = _; unfold pErr; rw [if_neg h1, if_pos hn]
      rw [HE.out]
      clear HE hn h1
      go_enter Tryd.func12, Tryd.ntmps12
      go_wp2_with fail
      refine Calls.mono HR.out ?_
      rintro e w2 ⟨v2, zs, rfl, o2, wz, tz, vz, hb2⟩
      obtain ⟨a2, c2, hs2⟩ := own_slice' o2
      subst hs2
      have hwd := trimmed_wide wz tz vz
      have HR := hid (And.intro o2 (And.intro wz (And.intro tz (And.intro vz hb2))))
      by_cases hlen : 8192 < zs.length
      · have HT := hid (refTold_long a2 zs.length c2 w2 hlen)
        have HL := hid (hwd.1 hlen)
        clear o2 wz tz vz hwd hb2 hlen
        go_wp2_with fail
        refine Calls.mono HT.out ?_
        rintro e w3 ⟨rfl, rfl⟩
        go_wp2_with fail
        go_ret2
        exact ⟨_, [], 3, rfl, World.ownsRow_nil _ _ _ _, Tells.tooLong HL.out, HR.out.2.2.2.2⟩
      · have HT := hid (refTold_ok a2 zs.length c2 w2 (by omega))
        have HL := hid (Int.not_le.1 fun h => hlen (hwd.2 h))
        clear o2 wz tz vz hwd hb2 hlen
        go_wp2_with fail
        refine Calls.mono HT.out ?_
        rintro e w3 ⟨rfl, rfl⟩
        go_wp2_with fail
        go_ret2
        exact ⟨_, zs, 0, rfl, HR.out.1, Tells.ok HR.out.2.1 HR.out.2.2.1 HR.out.2.2.2.1 HL.out, HR.out.2.2.2.2⟩
    · have HR := hid (refRead_no s w (by omega) hn)
      have HE : Hid (pErr s = 110) := by show _ = _; unfold pErr; rw [if_neg h1, if_neg hn]
      have HT := hid (Tells.err (t := numTo s.data.toList s.size) (e := 110) (by decide))
      rw [HE.out]
      clear HE hn h1
      go_enter Tryd.func12, Tryd.ntmps12
      go_wp2_with fail
      refine Calls.mono HR.out ?_
      rintro e w2 ⟨rfl, rfl⟩
      go_wp2_with fail
      go_ret2
      exact ⟨_, [], 110, rfl, World.ownsRow_nil _ _ _ _, HT.out, Below.refl _ _⟩
end Go.Proofs.YtgimgagnfkinmaaDoor

/- Texts of whole numbers, the program's and the document's, in whole: Print, Parse: of every number and text. -/
namespace Go.Proofs.YtgimgagnfkinmaaDoor
open Go.RowKit
set_option linter.unusedVariables false

/-- What Print tells. -/
def wsaid (n : Bool) (xs : List Int) : List UInt8 := if wchk n xs = 0 then wtext n xs else []
theorem wprint_all (n : Bool) (v : Value) (xs : List Int) (w : World) (h : Sl w v xs) (hl : xs.length ≤ 281474976710656) (htab : Tab w) :
    Calls Tryd.prog 19 #[.agg #[.bool n, v]] w fun e w' => ∃ T : ByteArray, e = .returned (.tuple #[.string T, .int .i64 (wchk n xs)]) ∧ T.data.toList = wsaid n xs ∧ Below w.heap.size w w' := by
  by_cases hk : wchk n xs = 0
  · have e := wprint_any n v xs w h hk htab
    have e2 : wsaid n xs = wtext n xs := by unfold wsaid; rw [if_pos hk]
    rw [hk, e2]
    exact e
  · refine Calls.mono (wprint_err n v xs w h hl hk) ?_
    rintro e w' ⟨rfl, hb⟩
    exact ⟨_, rfl, by unfold wsaid; rw [if_neg hk], hb⟩

set_option maxHeartbeats 1600000 in
set_option maxRecDepth 100000 in
theorem refWPrint_any (n : Bool) (v : Value) (xs : List Int) (w : World) (h : Sl w v xs) (hl : xs.length ≤ 281474976710656) :
    Calls Tryd.prog 20 #[.agg #[.bool n, v]] w fun e w' => ∃ T : ByteArray, e = .returned (.tuple #[.string T, .int .i64 (wchk n xs)]) ∧ T.data.toList = wsaid n xs ∧ Below w.heap.size w w' := by
  have HB := hid (alloc_later w (.cells #[.bool n, v] 37))
  have HC := hid (refWCheck_any n v xs _ (h.later HB.out) hl)
  have HS := hid (h.later HB.out)
  have HX := hid (Box.made w 37 #[.bool n, v])
  obtain ⟨a, cap, rfl, hr⟩ := h
  clear hr
  by_cases hk : wchk n xs = 0
  · have HE : Hid (wsaid n xs = (if n then [45] else []) ++ Lib.decDigits (val xs).toNat) := by show _ = _; unfold wsaid; rw [if_pos hk]; rfl
    obtain ⟨lx, tx, _⟩ := wchk_ok hk
    rw [hk] at HC ⊢
    generalize hXX : w.alloc (.cells #[.bool n, .slice a xs.length cap] 37) = X at *
    have HXX := hid hXX
    clear hk hXX
    cases n with
    | false =>
      go_enter Tryd.func20, Tryd.ntmps20
      go_wp2_with fail
      rw [HXX.out]
      refine Calls.mono HC.out ?_
      rintro e w1 ⟨rfl, hb1⟩
      obtain ⟨x0, x1, _, _⟩ := (HX.out.later hb1 HX.out.lt).c2
      have HD := hid (refDigits_any _ xs w1 (HS.out.later hb1) tx (by omega))
      have HB1 := hid (bt HB.out hb1)
      have HX1 := hid (HX.out.later hb1 HX.out.lt)
      clear hb1
      go_wp2_with fail
      refine Calls.mono HD.out ?_
      rintro e w2 ⟨rfl, hb2⟩
      obtain ⟨y0, y1, _, _⟩ := (HX1.out.later hb2 HX1.out.lt).c2
      have HB2 := hid (bt HB1.out hb2)
      clear hb2 x0 x1
      go_wp2_with fail
      go_ret2
      exact ⟨_, rfl, by rw [HE.out]; simp, HB2.out⟩
    | true =>
      have hdl := dec_short' HS.out.wd 2048 lx
      have hdm : ¬ 9223372036854775807 < 1 + (Lib.decDigits (val xs).toNat).length := by omega
      clear hdl
      go_enter Tryd.func20, Tryd.ntmps20
      go_wp2_with fail
      rw [HXX.out]
      refine Calls.mono HC.out ?_
      rintro e w1 ⟨rfl, hb1⟩
      obtain ⟨x0, x1, _, _⟩ := (HX.out.later hb1 HX.out.lt).c2
      have HD := hid (refDigits_any _ xs w1 (HS.out.later hb1) tx (by omega))
      have HB1 := hid (bt HB.out hb1)
      have HX1 := hid (HX.out.later hb1 HX.out.lt)
      clear hb1
      go_wp2_with fail
      refine Calls.mono HD.out ?_
      rintro e w2 ⟨rfl, hb2⟩
      obtain ⟨y0, y1, _, _⟩ := (HX1.out.later hb2 HX1.out.lt).c2
      have HB2 := hid (bt HB1.out hb2)
      clear hb2 x0 x1
      go_wp2_with fail
      go_ret2
      exact ⟨_, rfl, by rw [HE.out]; simp [ByteArray.data_append], HB2.out⟩
  · have hk' : (wchk n xs == 0) = false := by simpa using hk
    have HE : Hid (wsaid n xs = []) := by show _ = _; unfold wsaid; rw [if_neg hk]
    clear hk
    go_enter Tryd.func20, Tryd.ntmps20
    go_wp2_with fail
    refine Calls.mono HC.out ?_
    rintro e w1 ⟨rfl, hb1⟩
    have HB1 := hid (bt HB.out hb1)
    clear hb1
    go_wp2_with fail
    go_ret2
    exact ⟨_, rfl, by rw [HE.out], HB1.out⟩

set_option maxHeartbeats 1600000 in
set_option maxRecDepth 100000 in
theorem refWTold_any (n : Bool) (a : Option Addr) (k c : Nat) (w : World) :
    Calls Tryd.prog 56 #[.agg #[.bool n, .slice a k c]] w fun e w' => e = .returned (if 2048 < k then .tuple #[.agg #[.bool false, .slice none 0 0], .int .i64 3] else .tuple #[.agg #[.bool n, .slice a k c], .int .i64 0]) ∧ Below w.heap.size w w' := by
  have HB : Hid (Below w.heap.size w ((w.alloc (.cells #[.bool n, .slice a k c] 37)).alloc (.cells #[.bool false, .slice none 0 0] 37))) := bt (alloc_later _ _) (alloc_later _ _)
  have HBN := fun x y => hid (below_put2 HB.out (w.heap.size + 1) (by omega) x y)
  by_cases h : 2048 < k
  · have h' : (2048 : Int) < (k : Int) := by omega
    rw [if_pos h]
    clear h
    go_enter Tryd.func56, Tryd.ntmps56
    go_wp2_with fail
    refine bodyPost_ret (v := .tuple #[.agg #[.bool false, .slice none 0 0], .int .i64 3]) (by simp [results, Tryd.results56, go_sem]) rfl ?_
    first
      | exact ⟨rfl, HB.out⟩
      | exact ⟨rfl, (HBN _ _).out⟩
      | exact ⟨rfl, bt (alloc_later _ _) (alloc_later _ _)⟩
  · have h' : ¬ (2048 : Int) < (k : Int) := by omega
    rw [if_neg h]
    clear h
    go_enter Tryd.func56, Tryd.ntmps56
    go_wp2_with fail
    refine bodyPost_ret (v := .tuple #[.agg #[.bool n, .slice a k c], .int .i64 0]) (by simp [results, Tryd.results56, go_sem]) rfl ?_
    first
      | exact ⟨rfl, HB.out⟩
      | exact ⟨rfl, (HBN _ _).out⟩
      | exact ⟨rfl, bt (alloc_later _ _) (alloc_later _ _)⟩
end Go.Proofs.YtgimgagnfkinmaaDoor

/- Whole numbers: whole.power, Power: powers of every number, or the error. -/
namespace Go.Proofs.YtgimgagnfkinmaaDoor
open Go.RowKit
set_option linter.unusedVariables false

theorem natAbs_ge {x y : Int} (h : wlim ≤ x ∨ x ≤ -wlim) (hy : y ≠ 0) : wlim ≤ x * y ∨ x * y ≤ -wlim := by
  have hp := wlim_pos
  have h1 : wlim ≤ (x.natAbs : Int) := by omega
  have h2 : 1 ≤ (y.natAbs : Int) := by omega
  have h3 : (x.natAbs : Int) * 1 ≤ (x.natAbs : Int) * (y.natAbs : Int) := Int.mul_le_mul_of_nonneg_left h2 (by omega)
  have h4 : ((x * y).natAbs : Int) = (x.natAbs : Int) * (y.natAbs : Int) := by rw [Int.natAbs_mul, Int.natCast_mul]
  omega
theorem pow_ne {x : Int} (h : x ≠ 0) (k : Nat) : x ^ k ≠ 0 := by
  induction k with
  | zero => simp
  | succ k ih => rw [Int.pow_succ]; exact Int.mul_ne_zero ih h
theorem pow_half (a : Int) (m : Nat) : a ^ m = (if m % 2 = 1 then a else 1) * (a * a) ^ (m / 2) := by
  have e : (a * a) ^ (m / 2) = a ^ (2 * (m / 2)) := by rw [Int.pow_mul, Int.pow_succ, Int.pow_succ, Int.pow_zero, Int.one_mul]
  rw [e]
  by_cases h : m % 2 = 1
  · rw [if_pos h, Int.mul_comm, ← Int.pow_succ]
    congr 1
    omega
  · rw [if_neg h, Int.one_mul]
    congr 1
    omega
theorem WTells.ok0 {t : Int} {n : Bool} {zs : List Int} {c : Int} (h : WTells 0 t n zs c) (hc : c = 0) : wval n zs = t ∧ wchk n zs = 0 := by
  have hk := wchk_good h.len h.trim h.sign
  by_cases h1 : wlim ≤ t ∨ t ≤ -wlim
  · have := (h.long rfl h1).2.2; omega
  · exact ⟨(h.good rfl (by omega) (by omega)).2, hk⟩
theorem WTells.bad0 {t : Int} {n : Bool} {zs : List Int} {c : Int} (h : WTells 0 t n zs c) (hc : c ≠ 0) : c = 3 ∧ (wlim ≤ t ∨ t ≤ -wlim) := by
  by_cases h1 : wlim ≤ t ∨ t ≤ -wlim
  · exact ⟨(h.long rfl h1).2.2, h1⟩
  · have := (h.good rfl (by omega) (by omega)).1; omega
theorem WTells.tooLong {t : Int} (h : wlim ≤ t ∨ t ≤ -wlim) : WTells 0 t false [] 3 := ⟨Wd.nil, Trimmed.nil, .inl rfl, by simp, fun h' => absurd rfl h', fun _ _ => ⟨rfl, rfl, rfl⟩, fun _ h1 h2 => by rcases h with h | h <;> omega⟩
theorem WTells.is {t : Int} {n : Bool} {zs : List Int} (hw : Wd zs) (hk : wchk n zs = 0) (hv : wval n zs = t) : WTells 0 t n zs 0 := by
  obtain ⟨l, tt, s⟩ := wchk_ok hk
  have hb := below2048 hw l
  have h0 := val_nonneg hw
  refine ⟨hw, tt, s, l, fun h' => absurd rfl h', fun _ h1 => ?_, fun _ _ _ => ⟨rfl, hv⟩⟩
  exfalso
  rw [← hv] at h1
  cases n <;> simp [wval] at h1 <;> omega

/-- The error of a power. -/
def pwErr (n : Bool) (xs : List Int) (N : Int) : Int := if wchk n xs = 0 then (if N < 0 ∨ 4096 < N then 2 else 0) else wchk n xs

end Go.Proofs.YtgimgagnfkinmaaDoor

/- Texts read as whole numbers, by the program and by the document: of every text. -/
namespace Go.Proofs.YtgimgagnfkinmaaDoor
open Go.RowKit
set_option linter.unusedVariables false

set_option maxHeartbeats 1600000 in
set_option maxRecDepth 100000 in
theorem wparse_full (s : ByteArray) (w : World) (hs : s.size ≤ maxLen) :
    Calls Tryd.prog 21 #[.string s] w (WTold w (wpErr s) (sg (wneg s) (wnum s))) := by
  by_cases h1 : s.size ≤ 65536
  · exact wparse_any s w h1
  · have HE : Hid (wpErr s = 3) := by show _ = _; unfold wpErr; rw [if_pos (by omega)]
    rw [HE.out]
    have HW := hid (WTells.err (e := 3) (t := sg (wneg s) (wnum s)) (by decide))
    have HB := hid (alloc_later w (.cells #[.bool false, .slice none 0 0] 37))
    have h1' : (65536 : Int) < (s.size : Int) := by omega
    have hsm : (s.size : Int) ≤ 9223372036854775807 := by unfold maxLen at hs; omega
    clear HE h1 hs
    go_enter Tryd.func21, Tryd.ntmps21
    go_wp2_with fail
    refine bodyPost_ret (v := .tuple #[.agg #[.bool false, .slice none 0 0], .int .i64 3]) (by simp [results, Tryd.results21, go_sem]) rfl ?_
    exact ⟨false, _, [], 3, rfl, World.ownsRow_nil _ _ _ _, HW.out, HB.out⟩
theorem num_len {l : List UInt8} {z : List Int} {k K : Nat} (hd : Dg l) (wz : Wd z) (tz : Trimmed z) (vz : val z = numTo l k) (hk : k ≤ K) : z.length ≤ K := by
  refine len_of_lt wz tz ?_
  rw [vz]
  have h6 := (numTo_bounds hd k).2
  have e1 : 10 ^ k ≤ 4294967296 ^ k := Nat.pow_le_pow_left (by decide) _
  have e2 : 4294967296 ^ k ≤ 4294967296 ^ K := Nat.pow_le_pow_right (by decide) hk
  have e3 := Int.ofNat_le.2 (Nat.le_trans e1 e2)
  rw [Int.natCast_pow, Int.natCast_pow] at e3
  exact Int.lt_of_lt_of_le h6 e3
theorem wdig_sub (s : ByteArray) (hp : 0 < s.size) : (s.extract 1 s.size).data.toList = s.data.toList.drop 1 := by
  rw [extract_list, List.take_of_length_le (by rw [List.length_drop, size_list]; omega)]

set_option maxHeartbeats 6400000 in
set_option maxRecDepth 100000 in
theorem refWParse_any (s : ByteArray) (w : World) (hs : s.size ≤ maxLen) :
    Calls Tryd.prog 22 #[.string s] w (WTold w (wpErr s) (sg (wneg s) (wnum s))) := by
  have hsm : (s.size : Int) ≤ 9223372036854775807 := by unfold maxLen at hs; omega
  have HB := hid (alloc_later w (.cells #[.bool false, .slice none 0 0] 37))
  have HX := hid (Box.made w 37 #[.bool false, .slice none 0 0])
  by_cases h1 : 65536 < s.size
  · have HE : Hid (wpErr s = 3) := by show _ = _; unfold wpErr; rw [if_pos h1]
    rw [HE.out]
    have HW := hid (WTells.err (e := 3) (t := sg (wneg s) (wnum s)) (by decide))
    have h1' : (65536 : Int) < (s.size : Int) := by omega
    clear HE h1 hs HX
    go_enter Tryd.func22, Tryd.ntmps22
    go_wp2_with fail
    refine bodyPost_ret (v := .tuple #[.agg #[.bool false, .slice none 0 0], .int .i64 3]) (by simp [results, Tryd.results22, go_sem]) rfl ?_
    exact ⟨false, _, [], 3, rfl, World.ownsRow_nil _ _ _ _, HW.out, HB.out⟩
  · have h1' : ¬ (65536 : Int) < (s.size : Int) := by omega
    have hl := size_list s
    have HNO : Hid (¬ IsNum (wdig (wneg s) s.data.toList) → WTells (wpErr s) (sg (wneg s) (wnum s)) false [] 120) := fun h => by
      have e : wpErr s = 120 := by unfold wpErr; rw [if_neg h1, if_neg (fun g => h g.1)]
      rw [e]; exact WTells.err (by decide)
    have HZE : Hid (IsNum (wdig (wneg s) s.data.toList) → wneg s = true → wnum s = 0 → WTells (wpErr s) (sg (wneg s) (wnum s)) false [] 120) := fun h h2 h3 => by
      have e : wpErr s = 120 := by
        unfold wpErr
        rw [if_neg h1, if_neg (fun g => g.2.elim (fun e => by rw [h2] at e; cases e) (fun e => by omega))]
      rw [e]; exact WTells.err (by decide)
    have HOK : Hid (IsNum (wdig (wneg s) s.data.toList) → (wneg s = false ∨ 0 < wnum s) → wpErr s = 0) := fun h h2 => by unfold wpErr; rw [if_neg h1, if_pos ⟨h, h2⟩]
    by_cases hn : wneg s = true
    · have h45 : s.data.toList[0]? = some 45 := by unfold wneg at hn; exact of_decide_eq_true hn
      have hp : 0 < s.size := by
        by_cases c : 0 < s.size
        · exact c
        · rw [List.getElem?_eq_none (by omega)] at h45; cases h45
      have b0 := byte_at s 0 hp
      have e45 : (s[0].toNat : Int) = 45 := by
        rw [b0] at h45
        have := Option.some.inj h45
        rw [this]; rfl
      have c0 : ((s[0].toNat : Int) == 45) = true := by rw [e45]; rfl
      have hp' : (0 : Int) < (s.size : Int) := by omega
      have hp1 : (1 : Int) ≤ (s.size : Int) := by omega
      have hT := wdig_sub s hp
      have hwd : wdig (wneg s) s.data.toList = (s.extract 1 s.size).data.toList := by rw [hT, hn]; rfl
      obtain ⟨T, hTT⟩ : ∃ T, s.extract 1 s.size = T := ⟨_, rfl⟩
      have hTs : T.size ≤ 65536 := by rw [← size_list, ← hTT, hT, List.length_drop]; omega
      have hnm : wnum s = numTo T.data.toList T.size := by unfold wnum; rw [hwd, hTT, size_list]
      rw [hTT] at hwd
      have HH := hid (And.intro hwd hnm)
      have HN := hid hn
      clear hwd hnm hT hl b0 h45 e45 h1 hs
      rw [hn]
      by_cases hN : IsNum T.data.toList
      · have HR := hid (refRead_yes T (w.alloc (.cells #[.bool false, .slice none 0 0] 37)) hTs hN)
        have HNN := hid hN
        clear hN
        go_enter Tryd.func22, Tryd.ntmps22
        go_wp2_with fail
        refine Calls.mono HR.out ?_
        rintro e w1 ⟨v1, z1, rfl, o1, wz, tz, vz, hb1⟩
        obtain ⟨a1, c1, hs1⟩ := own_slice' o1
        subst hs1
        have HX1 := hid (HX.out.later hb1 HX.out.lt)
        have HB1 := hid (bt HB.out hb1)
        have HV := hid (And.intro wz (And.intro tz vz))
        have HS1 := hid (Sl.own o1 wz)
        have lz : z1.length ≤ 100000 := num_len HNN.out.2.2 wz tz vz (by omega)
        clear o1 wz tz vz hb1 HR
        by_cases hz : z1.length = 0
        · have HW := hid (HZE.out (by rw [HH.out.1]; exact HNN.out) HN.out (by rw [HH.out.2, ← HV.out.2.2]; exact trimmed_zero' hz))
          rw [HN.out] at HW
          have hzb : ((z1.length : Int) == 0) = true := by rw [hz]; rfl
          obtain ⟨r0, r1, f0, f1⟩ := HX1.out.c2
          have HBN := hid (below_put2 HB1.out w.heap.size (Nat.le_refl _) (.bool false) (.slice none 0 0))
          clear hz HX HX1 HB HNN HV HS1
          go_wp2_with fail
          refine bodyPost_ret (v := .tuple #[.agg #[.bool false, .slice none 0 0], .int .i64 120]) (by simp [results, Tryd.results22, go_sem, r0, r1]) rfl ?_
          exact ⟨false, _, [], 120, rfl, World.ownsRow_nil _ _ _ _, HW.out, HBN.out⟩
        · have hzb : ((z1.length : Int) == 0) = false := beq_eq_false_iff_ne.2 (by omega)
          have hpos : 0 < wnum s := by
            rw [HH.out.2, ← HV.out.2.2]
            have := val_pos' HV.out.1 HV.out.2.1 (by omega)
            omega
          have HOK1 := hid (HOK.out (by rw [HH.out.1]; exact HNN.out) (.inr hpos))
          clear hz hpos
          have HMD := hid (made_num true _ z1 w1 HS1.out (by omega))
          clear HX HB
          go_wp2_with fail
          refine Calls.mono HMD.out ?_
          rintro e w2 ⟨k2, v2, z2, rfl, o2, wz2, tz2, s2, vz2, hb2⟩
          obtain ⟨a2, c2, hs2⟩ := own_slice' o2
          subst hs2
          have HX2 := hid (HX1.out.later hb2 HX1.out.lt)
          have HB2 := hid (bt HB1.out hb2)
          have HTD := hid (refWTold_any k2 a2 z2.length c2 w2)
          have HO2 := hid (And.intro (owns_base o2 HB1.out.size) (And.intro wz2 (And.intro tz2 s2)))
          have HVV : Hid (wval k2 z2 = sg true (wnum s)) := by show _ = _; rw [vz2, HH.out.2, ← HV.out.2.2]; rfl
          clear o2 wz2 tz2 s2 vz2 hb2 HMD HX1 HB1
          by_cases hlong : 2048 < z2.length
          · rw [if_pos hlong] at HTD
            have HW : Hid (WTells (wpErr s) (sg true (wnum s)) false [] 3) := by
              show WTells _ _ _ _ _
              rw [HOK1.out]
              refine WTells.tooLong ?_
              have h5 := (len2048 HO2.out.2.1 HO2.out.2.2.1).1 hlong
              rw [← HVV.out]
              cases k2
              · exact .inl h5
              · right; simp [wval]; omega
            clear hlong
            go_wp2_with fail
            refine Calls.mono HTD.out ?_
            rintro e w3 ⟨rfl, hb3⟩
            obtain ⟨r0, r1, f0, f1⟩ := (HX2.out.later hb3 HX2.out.lt).c2
            have HBN := hid (below_put2 (bt HB2.out hb3) w.heap.size (Nat.le_refl _) (.bool false) (.slice none 0 0))
            clear hb3
            go_wp2_with fail
            refine bodyPost_ret (v := .tuple #[.agg #[.bool false, .slice none 0 0], .int .i64 3]) (by simp [results, Tryd.results22, go_sem, r0, r1]) rfl ?_
            exact ⟨false, _, [], 3, rfl, World.ownsRow_nil _ _ _ _, HW.out, HBN.out⟩
          · rw [if_neg hlong] at HTD
            have HW : Hid (WTells (wpErr s) (sg true (wnum s)) k2 z2 0) := by
              show WTells _ _ _ _ _
              rw [HOK1.out]
              exact WTells.is HO2.out.2.1 (wchk_good (n := k2) (by omega) HO2.out.2.2.1 HO2.out.2.2.2) HVV.out
            clear hlong
            go_wp2_with fail
            refine Calls.mono HTD.out ?_
            rintro e w3 ⟨rfl, hb3⟩
            have HX3 := hid (HX2.out.later hb3 HX2.out.lt)
            obtain ⟨r0, r1, f0, f1⟩ := HX3.out.c2
            have HO3 := hid (own_put2 (owns_later HO2.out.1 hb3) w.heap.size (own_ne_box (owns_later HO2.out.1 hb3) HX3.out (by decide)) (.bool k2) (.slice a2 z2.length c2))
            have HBN := hid (below_put2 (bt HB2.out hb3) w.heap.size (Nat.le_refl _) (.bool k2) (.slice a2 z2.length c2))
            clear hb3
            go_wp2_with fail
            refine bodyPost_ret (v := .tuple #[.agg #[.bool k2, .slice a2 z2.length c2], .int .i64 0]) (by simp [results, Tryd.results22, go_sem, r0, r1]) rfl ?_
            exact ⟨k2, _, z2, 0, rfl, HO3.out, HW.out, HBN.out⟩
      · have HR := hid (refRead_no T (w.alloc (.cells #[.bool false, .slice none 0 0] 37)) hTs hN)
        have HW := hid (HNO.out (by rw [HH.out.1]; exact hN))
        rw [HN.out] at HW
        obtain ⟨r0, r1, f0, f1⟩ := HX.out.c2
        clear hN
        go_enter Tryd.func22, Tryd.ntmps22
        go_wp2_with fail
        refine Calls.mono HR.out ?_
        rintro e w1 ⟨rfl, rfl⟩
        go_wp2_with fail
        refine bodyPost_ret (v := .tuple #[.agg #[.bool false, .slice none 0 0], .int .i64 120]) (by simp [results, Tryd.results22, go_sem]) rfl ?_
        first
          | exact ⟨false, _, [], 120, rfl, World.ownsRow_nil _ _ _ _, HW.out, HB.out⟩
          | exact ⟨false, _, [], 120, rfl, World.ownsRow_nil _ _ _ _, HW.out, below_put2 HB.out _ (Nat.le_refl _) _ _⟩
    · have hn' : wneg s = false := by simpa using hn
      have hwd : wdig (wneg s) s.data.toList = s.data.toList := by rw [hn']; rfl
      have hnm : wnum s = numTo s.data.toList s.size := by unfold wnum; rw [hwd, size_list]
      have HH := hid (And.intro hwd hnm)
      have HN := hid hn'
      have hcase : s.size = 0 ∨ (0 < s.size ∧ ∀ h : 0 < s.size, ((s[0].toNat : Int) == 45) = false) := by
        by_cases c : s.size = 0
        · exact .inl c
        · refine .inr ⟨by omega, fun h => beq_eq_false_iff_ne.2 (fun e => hn ?_)⟩
          unfold wneg
          refine decide_eq_true ?_
          rw [byte_at s 0 h]
          have : s[0] = 45 := UInt8.toNat_inj.1 (by show s[0].toNat = 45; omega)
          rw [this]
      clear hwd hnm hn hs
      rw [hn']
      rcases hcase with c | ⟨c, c0⟩
      · have c' : ¬ (0 : Int) < (s.size : Int) := by omega
        have hNN : ¬ IsNum s.data.toList := fun h => by have := h.1; omega
        have HR := hid (refRead_no s (w.alloc (.cells #[.bool false, .slice none 0 0] 37)) (by omega) hNN)
        have HW := hid (HNO.out (by rw [HH.out.1]; exact hNN))
        rw [hn'] at HW
        obtain ⟨r0, r1, f0, f1⟩ := HX.out.c2
        clear hNN c hl h1 hn'
        go_enter Tryd.func22, Tryd.ntmps22
        go_wp2_with fail
        refine Calls.mono HR.out ?_
        rintro e w1 ⟨rfl, rfl⟩
        go_wp2_with fail
        refine bodyPost_ret (v := .tuple #[.agg #[.bool false, .slice none 0 0], .int .i64 120]) (by simp [results, Tryd.results22, go_sem]) rfl ?_
        first
          | exact ⟨false, _, [], 120, rfl, World.ownsRow_nil _ _ _ _, HW.out, HB.out⟩
          | exact ⟨false, _, [], 120, rfl, World.ownsRow_nil _ _ _ _, HW.out, below_put2 HB.out _ (Nat.le_refl _) _ _⟩
      · have c0' := c0 c
        have hp' : (0 : Int) < (s.size : Int) := by omega
        clear c0 hl h1 hn'
        by_cases hN : IsNum s.data.toList
        · have HR := hid (refRead_yes s (w.alloc (.cells #[.bool false, .slice none 0 0] 37)) (by omega) hN)
          have HNN := hid hN
          clear hN
          go_enter Tryd.func22, Tryd.ntmps22
          go_wp2_with fail
          refine Calls.mono HR.out ?_
          rintro e w1 ⟨v1, z1, rfl, o1, wz, tz, vz, hb1⟩
          obtain ⟨a1, c1, hs1⟩ := own_slice' o1
          subst hs1
          have HX1 := hid (HX.out.later hb1 HX.out.lt)
          have HB1 := hid (bt HB.out hb1)
          have HV := hid (And.intro wz (And.intro tz vz))
          have HS1 := hid (Sl.own o1 wz)
          have lz : z1.length ≤ 100000 := num_len HNN.out.2.2 wz tz vz (by omega)
          clear o1 wz tz vz hb1 HR
          have HOK1 := hid (HOK.out (by rw [HH.out.1]; exact HNN.out) (.inl HN.out))
          have HMD := hid (made_num false _ z1 w1 HS1.out (by omega))
          clear HX HB
          go_wp2_with fail
          refine Calls.mono HMD.out ?_
          rintro e w2 ⟨k2, v2, z2, rfl, o2, wz2, tz2, s2, vz2, hb2⟩
          obtain ⟨a2, c2, hs2⟩ := own_slice' o2
          subst hs2
          have HX2 := hid (HX1.out.later hb2 HX1.out.lt)
          have HB2 := hid (bt HB1.out hb2)
          have HTD := hid (refWTold_any k2 a2 z2.length c2 w2)
          have HO2 := hid (And.intro (owns_base o2 HB1.out.size) (And.intro wz2 (And.intro tz2 s2)))
          have HVV : Hid (wval k2 z2 = sg false (wnum s)) := by show _ = _; rw [vz2, HH.out.2, ← HV.out.2.2]; rfl
          clear o2 wz2 tz2 s2 vz2 hb2 HMD HX1 HB1
          by_cases hlong : 2048 < z2.length
          · rw [if_pos hlong] at HTD
            have HW : Hid (WTells (wpErr s) (sg false (wnum s)) false [] 3) := by
              show WTells _ _ _ _ _
              rw [HOK1.out]
              refine WTells.tooLong ?_
              have h5 := (len2048 HO2.out.2.1 HO2.out.2.2.1).1 hlong
              rw [← HVV.out]
              cases k2
              · exact .inl h5
              · right; simp [wval]; omega
            clear hlong
            go_wp2_with fail
            refine Calls.mono HTD.out ?_
            rintro e w3 ⟨rfl, hb3⟩
            obtain ⟨r0, r1, f0, f1⟩ := (HX2.out.later hb3 HX2.out.lt).c2
            have HBN := hid (below_put2 (bt HB2.out hb3) w.heap.size (Nat.le_refl _) (.bool false) (.slice none 0 0))
            clear hb3
            go_wp2_with fail
            refine bodyPost_ret (v := .tuple #[.agg #[.bool false, .slice none 0 0], .int .i64 3]) (by simp [results, Tryd.results22, go_sem, r0, r1]) rfl ?_
            exact ⟨false, _, [], 3, rfl, World.ownsRow_nil _ _ _ _, HW.out, HBN.out⟩
          · rw [if_neg hlong] at HTD
            have HW : Hid (WTells (wpErr s) (sg false (wnum s)) k2 z2 0) := by
              show WTells _ _ _ _ _
              rw [HOK1.out]
              exact WTells.is HO2.out.2.1 (wchk_good (n := k2) (by omega) HO2.out.2.2.1 HO2.out.2.2.2) HVV.out
            clear hlong
            go_wp2_with fail
            refine Calls.mono HTD.out ?_
            rintro e w3 ⟨rfl, hb3⟩
            have HX3 := hid (HX2.out.later hb3 HX2.out.lt)
            obtain ⟨r0, r1, f0, f1⟩ := HX3.out.c2
            have HO3 := hid (own_put2 (owns_later HO2.out.1 hb3) w.heap.size (own_ne_box (owns_later HO2.out.1 hb3) HX3.out (by decide)) (.bool k2) (.slice a2 z2.length c2))
            have HBN := hid (below_put2 (bt HB2.out hb3) w.heap.size (Nat.le_refl _) (.bool k2) (.slice a2 z2.length c2))
            clear hb3
            go_wp2_with fail
            refine bodyPost_ret (v := .tuple #[.agg #[.bool k2, .slice a2 z2.length c2], .int .i64 0]) (by simp [results, Tryd.results22, go_sem, r0, r1]) rfl ?_
            exact ⟨k2, _, z2, 0, rfl, HO3.out, HW.out, HBN.out⟩
        · have HR := hid (refRead_no s (w.alloc (.cells #[.bool false, .slice none 0 0] 37)) (by omega) hN)
          have HW := hid (HNO.out (by rw [HH.out.1]; exact hN))
          rw [HN.out] at HW
          obtain ⟨r0, r1, f0, f1⟩ := HX.out.c2
          clear hN
          go_enter Tryd.func22, Tryd.ntmps22
          go_wp2_with fail
          refine Calls.mono HR.out ?_
          rintro e w1 ⟨rfl, rfl⟩
          go_wp2_with fail
          refine bodyPost_ret (v := .tuple #[.agg #[.bool false, .slice none 0 0], .int .i64 120]) (by simp [results, Tryd.results22, go_sem]) rfl ?_
          first
            | exact ⟨false, _, [], 120, rfl, World.ownsRow_nil _ _ _ _, HW.out, HB.out⟩
            | exact ⟨false, _, [], 120, rfl, World.ownsRow_nil _ _ _ _, HW.out, below_put2 HB.out _ (Nat.le_refl _) _ _⟩
end Go.Proofs.YtgimgagnfkinmaaDoor

/- Whole numbers that are lent to a call: slackwaterkit.LentWhole, KeptWhole; the law's own comparison. -/
namespace Go.Proofs.YtgimgagnfkinmaaDoor
open Go.RowKit
set_option linter.unusedVariables false

theorem own_room {w : World} {base e n : Nat} {v : Value} {xs : List Value} (h : w.ownsRow base e 1 v n xs) (hn : 0 < n) : ∃ g cap, v = .slice (some ⟨g, 0, none⟩) n cap ∧ n ≤ cap ∧ cap ≤ 9223372036854775807 := by
  obtain ⟨g, cap, rfl, h1, h2⟩ := own_shape' h hn
  exact ⟨g, cap, rfl, h1, by unfold maxLen at h2; omega⟩

set_option maxHeartbeats 3200000 in
set_option maxRecDepth 100000 in
theorem lentWhole_any (n : Bool) (v : Value) (xs : List Int) (w : World) (h : Sl w v xs) (hl : xs.length ≤ 549755813888) :
    Calls Tryd.prog 18 #[.agg #[.bool n, v]] w fun e w' => ∃ g cap, e = .returned (.agg #[.bool n, .slice (some ⟨g, 0, none⟩) xs.length cap]) ∧ w'.ownsRow w.heap.size 47 1 (.slice (some ⟨g, 0, none⟩) (xs.length + 3) cap) (xs.length + 3) ((xs ++ marks 3).map (Value.int .u32)) ∧ Below w.heap.size w w' := by
  have HS := hid h
  obtain ⟨a, c, rfl, hr⟩ := h
  clear hr
  have HB : Hid (Below w.heap.size w ((w.alloc (.cells #[.bool n, .slice a xs.length c] 37)).alloc (.cells #[.bool false, .slice none 0 0] 37))) := bt (alloc_later _ _) (alloc_later _ _)
  have HA : Hid (Box ((w.alloc (.cells #[.bool n, .slice a xs.length c] 37)).alloc (.cells #[.bool false, .slice none 0 0] 37)) w.heap.size 37 #[.bool n, .slice a xs.length c]) := Box.later (Box.made w _ _) (alloc_later _ _) (by simp)
  have HZ : Hid (Box ((w.alloc (.cells #[.bool n, .slice a xs.length c] 37)).alloc (.cells #[.bool false, .slice none 0 0] 37)) (w.heap.size + 1) 37 #[.bool false, .slice none 0 0]) := by
    have e := Box.made (w.alloc (.cells #[.bool n, .slice a xs.length c] 37)) 37 #[.bool false, .slice none 0 0]
    simp at e
    exact e
  go_enter Tryd.func18, Tryd.ntmps18
  go_wp2_with fail
  generalize ((w.alloc (.cells #[.bool n, .slice a xs.length c] 37)).alloc (.cells #[.bool false, .slice none 0 0] 37)) = X at *
  have HK : Hid (∀ V, Below X.heap.size X V → V.cell? ⟨w.heap.size, 0, none⟩ = some (.bool n) ∧ V.cell? ⟨w.heap.size, 1, none⟩ = some (.slice a xs.length c)) := fun V hb => by
    obtain ⟨p0, p1, _, _⟩ := (HA.out.later hb HA.out.lt).c2
    exact ⟨p0, p1⟩
  have hs0 := HK.out _ (Below.drew (Below.refl _ X))
  have HL : Hid (Calls Tryd.prog 6 #[.slice a xs.length c] X.drew fun e w1 => ∃ g cap, e = .returned (.slice (some ⟨g, 0, none⟩) (xs.length + 3) cap) ∧ xs.length + 3 ≤ cap ∧ cap ≤ 9223372036854775807 ∧ (xs.length : Int) ≤ (cap : Int) ∧ Hid (w1.ownsRow X.heap.size 47 1 (.slice (some ⟨g, 0, none⟩) (xs.length + 3) cap) (xs.length + 3) ((xs ++ marks 3).map (Value.int .u32)) ∧ Below X.heap.size X w1) ∧ (w1.cell? ⟨w.heap.size, 0, none⟩ = some (.bool n) ∧ w1.cell? ⟨w.heap.size, 1, none⟩ = some (.slice a xs.length c)) ∧ w1.cell? ⟨w.heap.size + 1, 0, none⟩ = some (.bool false) ∧ w1.cell? ⟨w.heap.size + 1, 1, none⟩ = some (.slice none 0 0) ∧ w1.frozen? ⟨w.heap.size + 1, 0, none⟩ = false ∧ w1.frozen? ⟨w.heap.size + 1, 1, none⟩ = false) := by
    refine Calls.mono (lentWords_sl _ xs _ ((HS.out.later HB.out).later (Below.drew (Below.refl _ X))) hl) ?_
    rintro e w1 ⟨v1, rfl, o1, hb1⟩
    obtain ⟨g, cap, hv, h1, h2⟩ := own_room o1 (by omega)
    subst hv
    have hbX : Below X.heap.size X w1 := bt (Below.drew (Below.refl _ X)) hb1
    exact ⟨g, cap, rfl, h1, h2, by omega, ⟨o1, hbX⟩, HK.out w1 hbX, (HZ.out.later hbX HZ.out.lt).c2⟩
  have hx0 : (0 : Int) ≤ (xs.length : Int) := by omega
  have hlx : xs.length ≤ 9223372036854775807 := by omega
  clear HS HA
  go_region_held3 (fun V : World => V.cell? ⟨w.heap.size, 0, none⟩ = some (.bool n) ∧ V.cell? ⟨w.heap.size, 1, none⟩ = some (.slice a xs.length c)) (first | exact hs1 | exact hs0 | (simp [hs1, World.cell?_setCell_far]))
    (first
      | (go_at_call 6; with_reducible refine Calls.mono HL.out ?_; rintro e w1 ⟨g, cap, rfl, hc1, hc2, hc3, HE, hs1, r0, r1, f0, f1⟩))
  all_goals
    have HZ2 := hid (HZ.out.later HE.out.2 HZ.out.lt)
    have HO := hid (own_put2 (owns_base HE.out.1 HB.out.size) (w.heap.size + 1) (own_ne_box HE.out.1 HZ2.out (by decide)) (.bool n) (.slice (some ⟨g, 0, none⟩) xs.length cap))
    have HBN := hid (below_put2 (bt HB.out HE.out.2) (w.heap.size + 1) (by omega) (.bool n) (.slice (some ⟨g, 0, none⟩) xs.length cap))
    clear HK HL HE HZ HB HZ2 hs0 hs1
    go_wp2_with fail
    refine bodyPost_ret (v := .agg #[.bool n, .slice (some ⟨g, 0, none⟩) xs.length cap]) (by simp [results, Tryd.results18, go_sem, r0, r1]) rfl ?_
    exact ⟨g, cap, rfl, HO.out, HBN.out⟩

set_option maxHeartbeats 3200000 in
set_option maxRecDepth 100000 in
theorem keptWhole_any (n : Bool) (v : Value) (xs : List Int) (g cap base : Nat) (w : World) (h : Sl w v xs) (hl : xs.length ≤ 274877906944) (ho : w.ownsRow base 47 1 (.slice (some ⟨g, 0, none⟩) (xs.length + 3) cap) (xs.length + 3) ((xs ++ marks 3).map (Value.int .u32))) :
    Calls Tryd.prog 24 #[.agg #[.bool n, .slice (some ⟨g, 0, none⟩) xs.length cap], .agg #[.bool n, v]] w fun e w' => e = .returned (.bool true) ∧ Below w.heap.size w w' := by
  have HS := hid h
  obtain ⟨a, c, rfl, hr⟩ := h
  clear hr
  have hcap : xs.length + 3 ≤ cap ∧ cap ≤ 9223372036854775807 := by
    obtain ⟨g', cap', hv, h1, h2⟩ := own_room ho (by omega)
    simp only [Value.slice.injEq, Option.some.injEq, Addr.mk.injEq, and_true, true_and] at hv
    obtain ⟨rfl, rfl⟩ := hv
    exact ⟨h1, h2⟩
  have wf : Wd (xs ++ marks 3) := HS.out.wd.append (Wd.marks 3)
  have lf : (xs ++ marks 3).length = xs.length + 3 := by rw [List.length_append, marks_len 3 (by omega)]
  have HO := hid (Sl.own ho wf)
  have HB : Hid (Below w.heap.size w ((w.alloc (.cells #[.bool n, .slice (some ⟨g, 0, none⟩) xs.length cap] 37)).alloc (.cells #[.bool n, .slice a xs.length c] 37))) := bt (alloc_later _ _) (alloc_later _ _)
  have HA : Hid (Box ((w.alloc (.cells #[.bool n, .slice (some ⟨g, 0, none⟩) xs.length cap] 37)).alloc (.cells #[.bool n, .slice a xs.length c] 37)) w.heap.size 37 #[.bool n, .slice (some ⟨g, 0, none⟩) xs.length cap]) := Box.later (Box.made w _ _) (alloc_later _ _) (by simp)
  have HZ : Hid (Box ((w.alloc (.cells #[.bool n, .slice (some ⟨g, 0, none⟩) xs.length cap] 37)).alloc (.cells #[.bool n, .slice a xs.length c] 37)) (w.heap.size + 1) 37 #[.bool n, .slice a xs.length c]) := by
    have e := Box.made (w.alloc (.cells #[.bool n, .slice (some ⟨g, 0, none⟩) xs.length cap] 37)) 37 #[.bool n, .slice a xs.length c]
    simp at e
    exact e
  have HK0 := hid (fun ww (hb : Below w.heap.size w ww) => keptWords_sl _ _ (xs ++ marks 3) xs ww (HO.out.later hb) (HS.out.later hb) (by omega) hl)
  rw [decide_eq_true rfl] at HK0
  have hcc := hcap.1
  have hcm := hcap.2
  have hnn : (n == n) = true := by simp
  have hll : ((xs.length : Int) == (xs.length : Int)) = true := by simp
  have hx0 : (0 : Int) ≤ (xs.length : Int) + 3 := by omega
  have hxc : (xs.length : Int) + 3 ≤ (cap : Int) := by omega
  have hwr : IntKind.i64.wrap ((xs.length : Int) + 3) = (xs.length : Int) + 3 := by rw [IntKind.wrap_i64]; omega
  have htn : ((xs.length : Int) + 3).toNat = xs.length + 3 := by omega
  clear ho hcap wf lf HS HO
  go_enter Tryd.func24, Tryd.ntmps24
  go_wp2_with fail
  generalize ((w.alloc (.cells #[.bool n, .slice (some ⟨g, 0, none⟩) xs.length cap] 37)).alloc (.cells #[.bool n, .slice a xs.length c] 37)) = X at *
  have HK : Hid (∀ V, Below X.heap.size X V → V.cell? ⟨w.heap.size, 0, none⟩ = some (.bool n) ∧ V.cell? ⟨w.heap.size, 1, none⟩ = some (.slice (some ⟨g, 0, none⟩) xs.length cap) ∧ V.cell? ⟨w.heap.size + 1, 0, none⟩ = some (.bool n) ∧ V.cell? ⟨w.heap.size + 1, 1, none⟩ = some (.slice a xs.length c)) := fun V hb => by
    obtain ⟨p0, p1, _, _⟩ := (HA.out.later hb HA.out.lt).c2
    obtain ⟨q0, q1, _, _⟩ := (HZ.out.later hb HZ.out.lt).c2
    exact ⟨p0, p1, q0, q1⟩
  have hs0 := HK.out _ (Below.drew (Below.refl _ X))
  have HL : Hid (Calls Tryd.prog 14 #[.slice (some ⟨g, 0, none⟩) (xs.length + 3) cap, .slice a xs.length c] X.drew fun e w1 => e = .returned (.bool true) ∧ Hid (Below X.heap.size X w1) ∧ (w1.cell? ⟨w.heap.size, 0, none⟩ = some (.bool n) ∧ w1.cell? ⟨w.heap.size, 1, none⟩ = some (.slice (some ⟨g, 0, none⟩) xs.length cap) ∧ w1.cell? ⟨w.heap.size + 1, 0, none⟩ = some (.bool n) ∧ w1.cell? ⟨w.heap.size + 1, 1, none⟩ = some (.slice a xs.length c))) := by
    refine Calls.mono (HK0.out X.drew (HB.out.drew)) ?_
    rintro e w1 ⟨rfl, hb1⟩
    have hbX : Below X.heap.size X w1 := bt (Below.drew (Below.refl _ X)) hb1
    exact ⟨rfl, hbX, HK.out w1 hbX⟩
  clear HA HZ HK0
  go_region_held3 (fun V : World => V.cell? ⟨w.heap.size, 0, none⟩ = some (.bool n) ∧ V.cell? ⟨w.heap.size, 1, none⟩ = some (.slice (some ⟨g, 0, none⟩) xs.length cap) ∧ V.cell? ⟨w.heap.size + 1, 0, none⟩ = some (.bool n) ∧ V.cell? ⟨w.heap.size + 1, 1, none⟩ = some (.slice a xs.length c)) (first | exact hs1 | exact hs0)
    (first
      | (go_at_call 14; with_reducible refine Calls.mono HL.out ?_; rintro e w1 ⟨rfl, HE, hs1⟩))
  all_goals
    have HBN := hid (bt HB.out HE.out)
    clear HK HL HE HB hs0 hs1
    go_wp2_with fail
    go_ret
    exact ⟨rfl, HBN.out⟩

set_option maxHeartbeats 1600000 in
set_option maxRecDepth 100000 in
theorem lawOne2_any (n : Bool) (v u : Value) (xs : List Int) (c : Int) (w : World) (h : Sl w v xs) (g : Sl w u xs) (hl : xs.length ≤ 281474976710656) :
    Calls Tryd.prog 23 #[.agg #[.bool n, v], .int .i64 c, .agg #[.bool n, u], .int .i64 c] w fun e w' => e = .returned (.bool true) ∧ Below w.heap.size w w' := by
  have HB : Hid (Below w.heap.size w ((w.alloc (.cells #[.bool n, v] 37)).alloc (.cells #[.bool n, u] 37))) := bt (alloc_later _ _) (alloc_later _ _)
  have HS := hid (sameWhole_any n v xs n u xs _ (h.later HB.out) (g.later HB.out) hl hl)
  rw [decide_eq_true (show n = n ∧ xs = xs from ⟨rfl, rfl⟩)] at HS
  obtain ⟨a, ca, rfl, hr⟩ := h
  obtain ⟨b, cb, rfl, gr⟩ := g
  clear hr gr
  go_enter Tryd.func23, Tryd.ntmps23
  go_wp2_with fail
  refine Calls.mono HS.out ?_
  rintro e w1 ⟨rfl, hb1⟩
  have HBN := hid (bt HB.out hb1)
  clear hb1 HS
  go_wp2_with fail
  go_ret
  exact ⟨rfl, HBN.out⟩
end Go.Proofs.YtgimgagnfkinmaaDoor

/- The law WholeTexts answers true, and writes nothing that was there: whatever number and text come in. -/
namespace Go.Proofs.YtgimgagnfkinmaaDoor
open Go.RowKit
set_option linter.unusedVariables false

theorem wsame2 {n m : Bool} {xs ys : List Int} (wx : Wd xs) (wy : Wd ys) (tx : Trimmed xs) (ty : Trimmed ys) (nx : n = false ∨ 0 < xs.length) (ny : m = false ∨ 0 < ys.length) (h : wval n xs = wval m ys) : n = m ∧ xs = ys := by
  have x0 := val_nonneg wx
  have y0 := val_nonneg wy
  cases n <;> cases m
  · exact ⟨rfl, trimmed_eq wx wy tx ty h⟩
  · have e : val xs = -(val ys) := h
    have := val_pos' wy ty (ny.elim (fun e => by cases e) id)
    omega
  · have e : -(val xs) = val ys := h
    have := val_pos' wx tx (nx.elim (fun e => by cases e) id)
    omega
  · have e : -(val xs) = -(val ys) := h
    exact ⟨rfl, trimmed_eq wx wy tx ty (by omega)⟩
theorem WTells.same {e t : Int} {n m : Bool} {zs ys : List Int} {c d : Int} (h : WTells e t n zs c) (g : WTells e t m ys d) : n = m ∧ zs = ys ∧ c = d := by
  by_cases he : e = 0
  · by_cases hl : wlim ≤ t ∨ t ≤ -wlim
    · obtain ⟨a1, a2, a3⟩ := h.long he hl
      obtain ⟨b1, b2, b3⟩ := g.long he hl
      exact ⟨by rw [a1, b1], by rw [a2, b2], by rw [a3, b3]⟩
    · obtain ⟨a1, a2⟩ := h.good he (by omega) (by omega)
      obtain ⟨b1, b2⟩ := g.good he (by omega) (by omega)
      obtain ⟨r1, r2⟩ := wsame2 h.wd g.wd h.trim g.trim h.sign g.sign (by rw [a2, b2])
      exact ⟨r1, r2, by rw [a1, b1]⟩
  · obtain ⟨a1, a2, a3⟩ := h.bad he
    obtain ⟨b1, b2, b3⟩ := g.bad he
    exact ⟨by rw [a1, b1], by rw [a2, b2], by rw [a3, b3]⟩
/-- 2 lists of the call's own, made one behind the other, in a list of lists. -/
theorem two_apart {w : World} {b b1 b2 n1 n2 : Nat} {v1 v2 : Value} {x1 x2 : List Int} (c1 c2 c3 : Nat) (hm : c1 ≤ c2 ∧ c2 ≤ c3)
    (o1 : w.ownsRow b1 47 1 v1 n1 (x1.map (Value.int .u32))) (d1 : Wd x1) (l1 : x1.length ≤ 2000000) (e1 : b ≤ b1)
    (o2 : w.ownsRow b2 47 1 v2 n2 (x2.map (Value.int .u32))) (d2 : Wd x2) (l2 : x2.length ≤ 2000000) (e2 : b ≤ b2)
    (i1 : Within v1 c1 c2) (i2 : Within v2 c2 c3) :
    Lists (w.alloc (.cells #[v1, v2] 22)) b w.heap.size 2 (fun j => [v1, v2][j]?.getD undef) (fun j => [x1, x2][j]?.getD []) := by
  have k1 : x1.length = n1 := by have := o1.1; simpa using this
  have k2 : x2.length = n2 := by have := o2.1; simpa using this
  subst k1; subst k2
  obtain ⟨m1, m2⟩ := hm
  refine ⟨fun j hj => ?_, fun j hj => ?_, fun j hj => ?_, apart_perm (fun j => [c1, c2, c3][j]?.getD 0) (fun j => ([0, 1] : List Nat)[j]?.getD 0) (fun j hj => ?_) (by decide) (by decide) (fun j hj => ?_), ⟨_, heap_alloc_new w _, fun j hj => ?_⟩⟩
  · match j, hj with
    | 0, _ => exact d1
    | 1, _ => exact d2
  · match j, hj with
    | 0, _ => show x1.length ≤ _; omega
    | 1, _ => show x2.length ≤ _; omega
  · match j, hj with
    | 0, _ => exact owns_base (o1.alloc _) e1
    | 1, _ => exact owns_base (o2.alloc _) e2
  · match j, hj with
    | 0, _ => exact m1
    | 1, _ => exact m2
  · match j, hj with
    | 0, _ => exact i1
    | 1, _ => exact i2
  · match j, hj with
    | 0, _ => rfl
    | 1, _ => rfl


theorem text_eq {s t : ByteArray} (h : s.data.toList = t.data.toList) : s = t := by
  cases s; cases t
  congr 1
  exact Array.toList_inj.1 h
set_option maxHeartbeats 1600000 in
set_option maxRecDepth 100000 in
theorem large2_any (n : Bool) (a : Option Addr) (k c : Nat) (w : World) (hk : k ≤ 9223372036854775807) :
    Calls Tryd.prog 17 #[.agg #[.bool n, .slice a k c]] w fun e w' => e = .returned (.bool (decide (40 < k ∧ k ≤ 2048))) ∧ Below w.heap.size w w' := by
  have HB := hid (alloc_later w (.cells #[.bool n, .slice a k c] 37))
  by_cases h1 : 40 < k
  · have h1' : (40 : Int) < (k : Int) := by omega
    by_cases h2 : k ≤ 2048
    · have h2' : (k : Int) ≤ 2048 := by omega
      rw [decide_eq_true ⟨h1, h2⟩]
      clear h1 h2
      go_enter Tryd.func17, Tryd.ntmps17
      go_wp2_with fail
      go_ret
      exact ⟨rfl, HB.out⟩
    · have h2' : ¬ (k : Int) ≤ 2048 := by omega
      rw [decide_eq_false (fun h => h2 h.2)]
      clear h1 h2
      go_enter Tryd.func17, Tryd.ntmps17
      go_wp2_with fail
      go_ret
      exact ⟨rfl, HB.out⟩
  · have h1' : ¬ (40 : Int) < (k : Int) := by omega
    rw [decide_eq_false (fun h => h1 h.1)]
    clear h1
    go_enter Tryd.func17, Tryd.ntmps17
    go_wp2_with fail
    go_ret
    exact ⟨rfl, HB.out⟩

set_option maxHeartbeats 12800000 in
set_option maxRecDepth 100000 in
theorem wholeTexts_walk (n : Bool) (a : Option Addr) (k c : Nat) (xs : List Int) (s : ByteArray) (w : World) (h : Reads w w.heap.size a k c xs) (hk : k ≤ 1048576) (hsz : s.size ≤ maxLen) (htab : Tab w) :
    Calls Tryd.prog 4 #[.agg #[.bool n, .slice a k c], .string s] w fun e w' => e = .returned (.bool true) ∧ Below w.heap.size w w' := by
  have hlx := h.1
  subst hlx
  have hs : Sl w (.slice a xs.length c) xs := ⟨a, c, rfl, h⟩
  have wx := h.2.1
  have hsm : (s.size : Int) ≤ 9223372036854775807 := by unfold maxLen at hsz; omega
  clear h
  have HB : Hid (Below w.heap.size w (w.alloc (.cells #[.bool n, .slice a xs.length c] 37))) := alloc_later _ _
  have HX : Hid (Box (w.alloc (.cells #[.bool n, .slice a xs.length c] 37)) w.heap.size 37 #[.bool n, .slice a xs.length c]) := Box.made w _ _
  have HS := hid (hs.later HB.out)
  have HTb := hid (htab.later HB.out)
  have HL := hid (lives_any (w.alloc (.cells #[.bool n, .slice a xs.length c] 37)))
  have HLG := hid (fun ww => large2_any n a xs.length c ww (by omega))
  clear hs htab
  by_cases hlg : 40 < xs.length ∧ xs.length ≤ 2048
  · rw [decide_eq_true hlg] at HLG
    clear hlg
    go_enter Tryd.func4, Tryd.ntmps4
    go_wp2_with fail
    refine Calls.mono HL.out ?_
    rintro e w1 ⟨rfl, hb1⟩
    obtain ⟨x0, x1, _, _⟩ := (HX.out.later hb1 HX.out.lt).c2
    have HB1 := hid (bt HB.out hb1)
    clear hb1
    go_wp2_with fail
    refine Calls.mono (HLG.out _) ?_
    rintro e w2 ⟨rfl, hb2⟩
    have HBN := hid (bt HB1.out hb2)
    clear hb2
    go_wp2_with fail
    go_ret
    exact ⟨rfl, HBN.out⟩
  rw [decide_eq_false hlg] at HLG
  clear hlg
  by_cases hS : 400 < s.size ∧ s.size ≤ 65536
  · have s1' : (400 : Int) < (s.size : Int) := by omega
    have s2' : (s.size : Int) ≤ 65536 := by omega
    clear hS
    go_enter Tryd.func4, Tryd.ntmps4
    go_wp2_with fail
    refine Calls.mono HL.out ?_
    rintro e w1 ⟨rfl, hb1⟩
    obtain ⟨x0, x1, _, _⟩ := (HX.out.later hb1 HX.out.lt).c2
    have HB1 := hid (bt HB.out hb1)
    clear hb1
    go_wp2_with fail
    refine Calls.mono (HLG.out _) ?_
    rintro e w2 ⟨rfl, hb2⟩
    have HBN := hid (bt HB1.out hb2)
    clear hb2
    go_wp2_with fail
    go_ret
    exact ⟨rfl, HBN.out⟩
  have hSS : ¬ (400 : Int) < (s.size : Int) ∨ ((400 : Int) < (s.size : Int) ∧ ¬ (s.size : Int) ≤ 65536) := by omega
  clear hS
  have ox : ∀ (W : World) (base g cap : Nat), W.ownsRow base 47 1 (.slice (some ⟨g, 0, none⟩) (xs.length + 3) cap) (xs.length + 3) ((xs ++ marks 3).map (Value.int .u32)) → W.ownsRow base 47 1 (.slice (some ⟨g, 0, none⟩) xs.length cap) xs.length (xs.map (Value.int .u32)) := fun W base g cap ho => by
    rw [List.map_append] at ho
    exact owns_front (k := 3) ho (by simp)
  have HOX := hid ox
  clear ox
  rcases hSS with q1 | ⟨q1, q2⟩
  all_goals
    go_enter Tryd.func4, Tryd.ntmps4
    go_wp2_with fail
    refine Calls.mono HL.out ?_
    rintro e w0 ⟨rfl, hb0⟩
    have HX0 := hid (HX.out.later hb0 HX.out.lt)
    have HS0 := hid (HS.out.later hb0)
    have HT0 := hid (HTb.out.later hb0)
    have HB0 := hid (bt HB.out hb0)
    obtain ⟨x0, x1, _, _⟩ := HX0.out.c2
    clear hb0 HX HS HTb HB HL
    go_wp2_with fail
    refine Calls.mono (HLG.out _) ?_
    rintro e w1 ⟨rfl, hb1⟩
    have HB1 := hid (bt HB0.out hb1)
    have HB1S : Hid (w.heap.size ≤ w1.heap.size) := HB1.out.size
    have HS1 := hid (HS0.out.later hb1)
    have HT1 := hid (HT0.out.later hb1)
    have HX1 := hid (HX0.out.later hb1 HX0.out.lt)
    have HLW := hid (lentWhole_any n _ xs w1 HS1.out (by omega))
    clear x0 x1
    obtain ⟨x0, x1, _, _⟩ := HX1.out.c2
    clear hb1 HB0 HS0 HLG HT0 HX0
    go_wp2_with fail
    refine Calls.mono HLW.out ?_
    rintro e w2 ⟨g, cap, rfl, o2, hb2⟩
    have HV2 : Hid (Below w1.heap.size w1 (w2.alloc (.cells #[.bool n, .slice (some ⟨g, 0, none⟩) xs.length cap] 37))) := bt hb2 (alloc_later _ _)
    have HX2 := hid (HX1.out.later HV2.out HX1.out.lt)
    have HS2 := hid (HS1.out.later HV2.out)
    have HB2 := hid (bt HB1.out HV2.out)
    have HT2 := hid (HT1.out.later HV2.out)
    have HO2 := hid (owns_later o2 (alloc_later w2 (.cells #[.bool n, .slice (some ⟨g, 0, none⟩) xs.length cap] 37)))
    have HA2 : Hid (Box (w2.alloc (.cells #[.bool n, .slice (some ⟨g, 0, none⟩) xs.length cap] 37)) w2.heap.size 37 #[.bool n, .slice (some ⟨g, 0, none⟩) xs.length cap]) := Box.made w2 _ _
    have HP2 := hid (wprint_all n _ xs _ (Sl.own (HOX.out _ _ _ _ HO2.out) wx) (by omega) HT2.out)
    clear o2 hb2 HX1 HB1 HS1 HLW HT1 x0 x1 HV2
    go_wp2_with fail
    refine Calls.mono HP2.out ?_
    generalize (w2.alloc (.cells #[.bool n, .slice (some ⟨g, 0, none⟩) xs.length cap] 37)) = V2 at *
    rintro e w3 ⟨t3, rfl, e3, hb3⟩
    have HX3 := hid (HX2.out.later hb3 HX2.out.lt)
    have HA3 := hid (HA2.out.later hb3 HA2.out.lt)
    obtain ⟨x0, x1, _, _⟩ := HX3.out.c2
    have HS3 := hid (HS2.out.later hb3)
    have HB3 := hid (bt HB2.out hb3)
    have HO3 := hid (owns_later HO2.out hb3)
    have HE3 := hid e3
    have HRP := hid (refWPrint_any n _ xs w3 HS3.out (by omega))
    clear e3 hb3 HS2 HB2 HT2 HO2 HP2 HX2 HA2
    go_wp2_with fail
    refine Calls.mono HRP.out ?_
    rintro e w4 ⟨t4, rfl, e4, hb4⟩
    obtain rfl := text_eq (e4.trans HE3.out.symm)
    have HS4 := hid (HS3.out.later hb4)
    have HB4 := hid (bt HB3.out hb4)
    have HO4 := hid (owns_later HO3.out hb4)
    have HX4 := hid (HX3.out.later hb4 HX3.out.lt)
    have HA4 := hid (HA3.out.later hb4 HA3.out.lt)
    have HQ4 := hid (wparse_full s w4 hsz)
    have hsz4 := HB4.out.size
    clear e4 hb4 HS3 HB3 HO3 HE3 HRP HX3 HA3 x0 x1
    go_wp2_with fail
    refine Calls.mono HQ4.out ?_
    rintro e w5 ⟨n5, v5, z5, c5, rfl, o5, t5, hb5⟩
    obtain ⟨a5, k5, hs⟩ := own_slice' o5
    subst hs
    have HV5 : Hid (Below w4.heap.size w4 (w5.alloc (.cells #[.bool n5, .slice a5 z5.length k5] 37))) := bt hb5 (alloc_later _ _)
    have HX5b := hid (HX4.out.later HV5.out HX4.out.lt)
    have HA5 := hid (HA4.out.later HV5.out HA4.out.lt)
    have HS5 := hid (HS4.out.later HV5.out)
    have HB5 := hid (bt HB4.out HV5.out)
    have HO5 := hid (owns_later HO4.out HV5.out)
    have HP5 : Hid (Box (w5.alloc (.cells #[.bool n5, .slice a5 z5.length k5] 37)) w5.heap.size 37 #[.bool n5, .slice a5 z5.length k5]) := Box.made w5 _ _
    have HX5 := hid (owns_later o5 (alloc_later w5 (.cells #[.bool n5, .slice a5 z5.length k5] 37)))
    have HI5 := hid (Within.own o5 (Nat.le_refl _))
    have hsz5 := hb5.size
    have HT5 := hid t5
    have HRQ := hid (refWParse_any s (w5.alloc (.cells #[.bool n5, .slice a5 z5.length k5] 37)) hsz)
    have hw5 : (w5.alloc (.cells #[.bool n5, .slice a5 z5.length k5] 37)).heap.size = w5.heap.size + 1 := by simp
    clear o5 t5 hb5 HS4 HB4 HO4 HQ4 HV5 HX4 HA4
    go_wp2_with fail
    refine Calls.mono HRQ.out ?_
    generalize (w5.alloc (.cells #[.bool n5, .slice a5 z5.length k5] 37)) = V5 at *
    rintro e w6 ⟨n6, v6, z6, c6, rfl, o6, t6, hb6⟩
    obtain ⟨rfl, rfl, rfl⟩ := t6.same HT5.out
    obtain ⟨a6, k6, hs⟩ := own_slice' o6
    subst hs
    have HV6 : Hid (Below V5.heap.size V5 (w6.alloc (.cells #[.bool n6, .slice a6 z6.length k6] 37))) := bt hb6 (alloc_later _ _)
    have HX6b := hid (HX5b.out.later HV6.out HX5b.out.lt)
    have HA6 := hid (HA5.out.later HV6.out HA5.out.lt)
    have HS6 := hid (HS5.out.later HV6.out)
    have HB6 := hid (bt HB5.out HV6.out)
    have HO6 := hid (owns_later HO5.out HV6.out)
    have HP6 := hid (HP5.out.later HV6.out HP5.out.lt)
    have HX6 := hid (owns_later HX5.out HV6.out)
    have HR6 := hid (owns_later o6 (alloc_later w6 (.cells #[.bool n6, .slice a6 z6.length k6] 37)))
    have HQb6 : Hid (Box (w6.alloc (.cells #[.bool n6, .slice a6 z6.length k6] 37)) w6.heap.size 37 #[.bool n6, .slice a6 z6.length k6]) := Box.made w6 _ _
    have hsz6 := hb6.size
    have HQ6 := hid (wparse_full s (w6.alloc (.cells #[.bool n6, .slice a6 z6.length k6] 37)) hsz)
    have hw6 : (w6.alloc (.cells #[.bool n6, .slice a6 z6.length k6] 37)).heap.size = w6.heap.size + 1 := by simp
    clear o6 t6 hb6 HS5 HB5 HO5 HP5 HX5 HRQ HX5b HA5 HV6
    go_wp2_with fail
    refine Calls.mono HQ6.out ?_
    generalize (w6.alloc (.cells #[.bool n6, .slice a6 z6.length k6] 37)) = V6 at *
    rintro e w7 ⟨n7, v7, z7, c7, rfl, o7, t7, hb7⟩
    obtain ⟨rfl, rfl, rfl⟩ := t7.same HT5.out
    obtain ⟨a7, k7, hs⟩ := own_slice' o7
    subst hs
    have HV7 : Hid (Below V6.heap.size V6 (w7.alloc (.cells #[.bool n7, .slice a7 z7.length k7] 37))) := bt hb7 (alloc_later _ _)
    have HX7b := hid (HX6b.out.later HV7.out HX6b.out.lt)
    have HA7 := hid (HA6.out.later HV7.out HA6.out.lt)
    have HQb7 := hid (HQb6.out.later HV7.out HQb6.out.lt)
    have HS7 := hid (HS6.out.later HV7.out)
    have HB7 := hid (bt HB6.out HV7.out)
    have HO7 := hid (owns_later HO6.out HV7.out)
    have HP7 := hid (HP6.out.later HV7.out HP6.out.lt)
    have HX7 := hid (owns_later HX6.out HV7.out)
    have HR7 := hid (owns_later HR6.out HV7.out)
    have HY7 : Hid (Box (w7.alloc (.cells #[.bool n7, .slice a7 z7.length k7] 37)) w7.heap.size 37 #[.bool n7, .slice a7 z7.length k7]) := Box.made w7 _ _
    have HZ7 := hid (owns_later o7 (alloc_later w7 (.cells #[.bool n7, .slice a7 z7.length k7] 37)))
    have HI7 := hid (Within.own o7 (Nat.le_refl _))
    have hsz7 := hb7.size
    have hwz := HT5.out.wd
    have hlz := HT5.out.len
    have HN7 := hid (lawOne2_any n7 _ _ z7 c7 _ (Sl.own HX7.out hwz) (Sl.own HR7.out hwz) (by omega))
    obtain ⟨p0, p1, _, _⟩ := HP7.out.c2
    obtain ⟨pp0, pp1, _, _⟩ := (HP6.out.later hb7 HP6.out.lt).c2
    obtain ⟨q0, q1', _, _⟩ := HQb7.out.c2
    obtain ⟨qq0, qq1, _, _⟩ := (HQb6.out.later hb7 HQb6.out.lt).c2
    have hw7 : (w7.alloc (.cells #[.bool n7, .slice a7 z7.length k7] 37)).heap.size = w7.heap.size + 1 := by simp
    clear o7 t7 hb7 HS6 HB6 HO6 HP6 HX6 HR6 HQ6 HV7 HT5 HX6b HA6 HQb6
    go_wp2_with fail
    refine Calls.mono HN7.out ?_
    generalize (w7.alloc (.cells #[.bool n7, .slice a7 z7.length k7] 37)) = V7 at *
    rintro e w8 ⟨rfl, hb8⟩
    have HX8b := hid (HX7b.out.later hb8 HX7b.out.lt)
    have HA8 := hid (HA7.out.later hb8 HA7.out.lt)
    have HQb8 := hid (HQb7.out.later hb8 HQb7.out.lt)
    have HS8 := hid (HS7.out.later hb8)
    have HB8 := hid (bt HB7.out hb8)
    have HO8 := hid (owns_later HO7.out hb8)
    have HP8 := hid (HP7.out.later hb8 HP7.out.lt)
    have HY8 := hid (HY7.out.later hb8 HY7.out.lt)
    have HX8 := hid (owns_later HX7.out hb8)
    have HZ8 := hid (owns_later HZ7.out hb8)
    have HR8 := hid (owns_later HR7.out hb8)
    have HN8 := hid (lawOne2_any n7 _ _ z7 c7 _ (Sl.own HZ8.out hwz) (Sl.own HR8.out hwz) (by omega))
    obtain ⟨y0, y1, _, _⟩ := HY8.out.c2
    have hsz8 := hb8.size
    clear hb8 HS7 HB7 HO7 HP7 HY7 HX7 HZ7 HR7 HN7 p0 p1 pp0 pp1 q0 q1' qq0 qq1 HX7b HA7 HQb7
    obtain ⟨q0, q1', _, _⟩ := HQb8.out.c2
    go_wp2_with fail
    refine Calls.mono HN8.out ?_
    rintro e w9 ⟨rfl, hb9⟩
    have HX9b := hid (HX8b.out.later hb9 HX8b.out.lt)
    have HA9 := hid (HA8.out.later hb9 HA8.out.lt)
    have HS9 := hid (HS8.out.later hb9)
    have HB9 := hid (bt HB8.out hb9)
    have HO9 := hid (owns_later HO8.out hb9)
    have HP9 := hid (HP8.out.later hb9 HP8.out.lt)
    have HY9 := hid (HY8.out.later hb9 HY8.out.lt)
    have HX9 := hid (owns_later HX8.out hb9)
    have HZ9 := hid (owns_later HZ8.out hb9)
    have HKW := hid (keptWhole_any n _ xs g cap _ w9 HS9.out (by omega) HO9.out)
    have hsz9 := hb9.size
    clear hb9 HS8 HB8 HO8 HP8 HY8 HX8 HZ8 HR8 HN8 y0 y1 q0 q1' HX8b HA8 HQb8
    obtain ⟨x0, x1, _, _⟩ := HX9b.out.c2
    obtain ⟨y0, y1, _, _⟩ := HA9.out.c2
    go_wp2_with fail
    refine Calls.mono HKW.out ?_
    rintro e wA ⟨rfl, hbA⟩
    have HBA := hid (bt HB9.out hbA)
    have HPA := hid (HP9.out.later hbA HP9.out.lt)
    have HYA := hid (HY9.out.later hbA HY9.out.lt)
    have HXA := hid (owns_later HX9.out hbA)
    have HZA := hid (owns_later HZ9.out hbA)
    have hszA := hbA.size
    have hszB := HBA.out.size
    have hszP := HYA.out.lt
    clear hbA HS9 HB9 HO9 HP9 HY9 HX9 HZ9 HKW x0 x1 y0 y1 HX9b HA9
    obtain ⟨y0, y1, _, _⟩ := HPA.out.c2
    obtain ⟨p0, p1, _, _⟩ := HYA.out.c2
    have HL2 := hid (two_apart (b := w.heap.size) w4.heap.size V6.heap.size w7.heap.size (by omega) HXA.out hwz (by omega) (by omega) HZA.out hwz (by omega) (by omega) (HI5.out.up (by omega)) HI7.out)
    have HAP := hid (apart_any _ _ _ _ _ _ HL2.out (by omega) (by simp; omega))
    clear HL2 HI5 HI7 HXA HZA HPA HYA
    go_wp2_with fail
    refine Calls.mono HAP.out ?_
    rintro e wE ⟨rfl, hbE⟩
    have HBE := hid (bt_alloc HBA.out hbE)
    clear hbE HAP
    go_wp2_with fail
    go_ret
    exact ⟨rfl, HBE.out⟩
end Go.Proofs.YtgimgagnfkinmaaDoor

