/- My texts on the way to RatioSums, one behind the other: contracts of the program and of the document's answers. -/
import Derived.Test.YtpehpflgfkdiaaaJ3
import Derived.Deep.RegionHeld3
import Derived.Deep.Cut
import Derived.Deep.Slices
import Derived.OpenShut
import Derived.Lib.SmallJoins
import Derived.Laws.StructEq
/- The kit's KeptRatios: what was lent is as it was. -/
namespace Go.Proofs.Ytpehpflgfkdiaaa
open Go.RowKit
set_option linter.unusedVariables false

theorem flatL_len {f : Nat → List Value} (h : ∀ i, (f i).length = 3) : ∀ n, (flatL f n).length = n * 3
  | 0 => rfl
  | n + 1 => by
    show (flatL f n ++ f n).length = _
    rw [List.length_append, flatL_len h n, h n]
    omega
theorem flatL_at {f : Nat → List Value} (h : ∀ i, (f i).length = 3) {j t : Nat} (ht : t < 3) : ∀ n, j < n → (flatL f n)[j * 3 + t]? = (f j)[t]?
  | 0, hj => absurd hj (Nat.not_lt_zero _)
  | n + 1, hj => by
    show (flatL f n ++ f n)[j * 3 + t]? = _
    by_cases c : j < n
    · rw [List.getElem?_append_left (by rw [flatL_len h n]; omega)]
      exact flatL_at h ht n c
    · have e : j = n := by omega
      subst e
      rw [List.getElem?_append_right (by rw [flatL_len h j]; omega), flatL_len h j, show j * 3 + t - j * 3 = t by omega]
theorem lentV_len (N : Nat → Bool) (U Y : Nat → List Int) (G : Nat → Lt) (i : Nat) : (lentV N U Y G i).length = 3 := rfl
theorem spV_len (S : Nat → Nat) (i : Nat) : (spV S i).length = 3 := rfl
/-- The cells of what was lent. -/
theorem lent_cells {w : World} {base e gl capf m : Nat} {N : Nat → Bool} {U Y : Nat → List Int} {G : Nat → Lt} {S : Nat → Nat} (hf : w.ownsRow base e 3 (.slice (some ⟨gl, 0, none⟩) (m + 3) capf) (m + 3) (flatL (lentV N U Y G) m ++ flatL (spV S) 3)) :
    (∀ j, j < m → w.cell? ⟨gl, j * 3, none⟩ = some (.bool (N j)) ∧ w.cell? ⟨gl, j * 3 + 1, none⟩ = some (.slice (some ⟨(G j).g1, 0, none⟩) (U j).length (G j).c1) ∧ w.cell? ⟨gl, j * 3 + 2, none⟩ = some (.slice (some ⟨(G j).g2, 0, none⟩) (Y j).length (G j).c2)) ∧
    (∀ j, j < 3 → w.cell? ⟨gl, (m + j) * 3, none⟩ = some (.bool true) ∧ w.cell? ⟨gl, (m + j) * 3 + 1, none⟩ = some (.slice (some ⟨S j, 0, none⟩) 1 1) ∧ w.cell? ⟨gl, (m + j) * 3 + 2, none⟩ = some (.slice none 0 0)) := by
  have hl := flatL_len (lentV_len N U Y G) m
  constructor
  · intro j hj
    have key : ∀ t, t < 3 → w.cell? ⟨gl, j * 3 + t, none⟩ = (lentV N U Y G j)[t]? := fun t ht => by
      rw [hf.cellAt (j * 3 + t) (by omega), List.getElem?_append_left (by rw [hl]; omega)]
      exact flatL_at (lentV_len N U Y G) ht m hj
    exact ⟨key 0 (by omega), key 1 (by omega), key 2 (by omega)⟩
  · intro j hj
    have key : ∀ t, t < 3 → w.cell? ⟨gl, (m + j) * 3 + t, none⟩ = (spV S j)[t]? := fun t ht => by
      rw [hf.cellAt ((m + j) * 3 + t) (by omega), List.getElem?_append_right (by rw [hl]; omega), hl, show (m + j) * 3 + t - m * 3 = j * 3 + t by omega]
      exact flatL_at (spV_len S) ht 3 hj
    exact ⟨key 0 (by omega), key 1 (by omega), key 2 (by omega)⟩

set_option maxHeartbeats 3200000 in
set_option maxRecDepth 100000 in
theorem keptRatios_any (g o m cp : Nat) (N : Nat → Bool) (A : Nat → Option Addr) (C : Nat → Nat) (U : Nat → List Int) (B : Nat → Option Addr) (D : Nat → Nat) (Y : Nat → List Int) (gl capf : Nat) (G : Nat → Lt) (S : Nat → Nat) (lo : Nat) (w0 w : World) (sa : Option Addr) (h : FrM w sa g o m N A C U B D Y) (hm : m ≤ 1000) (hcp : m ≤ cp) (hU : ∀ j, j < m → (U j).length ≤ 274877906944 ∧ (Y j).length ≤ 274877906944)
    (hf : LentAll w0 m N U Y (.slice (some ⟨gl, 0, none⟩) (m + 3) capf) G S lo w) (hcf : m + 3 ≤ capf) :
    Calls Try.prog 8 #[.slice (some ⟨gl, 0, none⟩) (m + 3) capf, .slice sa m cp] w fun e w' => e = .returned (.bool true) ∧ Below w.heap.size w w' := by
  obtain ⟨hrow, hlt, hsp, _, _⟩ := hf
  have hgl : gl < w.heap.size := (hrow.lt gl rfl).2
  have HCL := hid (lent_cells hrow)
  have HLT := hid hlt
  have HSP := hid hsp
  have HL := hid h
  have HU := hid hU
  clear hrow hlt hsp h hU
  have hq : ((m : Int) + 3 != (m : Int) + 3) = false := by simp
  go_enter Try.func8, Try.ntmps8
  go_wp2_with fail
  go_loopw [5] (fun t wr => ∃ k : Nat, k ≤ m ∧ t = .int .i64 k ∧ Hid (Below w.heap.size w wr)) (fun t _ => m - (intOf t).toNat)
  case atStart => exact ⟨0, Nat.zero_le _, rfl, Below.refl _ _⟩
  case round =>
    obtain ⟨k, hk, rfl, HB⟩ := hrel
    by_cases hlt : k < m
    · obtain ⟨hsa, hLL⟩ := HL.out.of hlt
      subst hsa
      replace HL := hid hLL
      clear hLL
      have HK : Hid (∀ V, Below w.heap.size w V → V.cell? ⟨gl, k * 3, none⟩ = some (.bool (N k)) ∧ V.cell? ⟨gl, k * 3 + 1, none⟩ = some (.slice (some ⟨(G k).g1, 0, none⟩) (U k).length (G k).c1) ∧ V.cell? ⟨gl, k * 3 + 2, none⟩ = some (.slice (some ⟨(G k).g2, 0, none⟩) (Y k).length (G k).c2) ∧ V.cell? ⟨g, o + k * 3, none⟩ = some (.bool (N k)) ∧ V.cell? ⟨g, o + k * 3 + 1, none⟩ = some (.slice (A k) (U k).length (C k)) ∧ V.cell? ⟨g, o + k * 3 + 2, none⟩ = some (.slice (B k) (Y k).length (D k))) := fun V hb => by
        obtain ⟨p0, p1, p2⟩ := HCL.out.1 k hlt
        obtain ⟨e0, e1, e2⟩ := (HL.out.later hb).cell k hlt
        exact ⟨(hb.cell (p := ⟨gl, k * 3, none⟩) hgl).trans p0, (hb.cell (p := ⟨gl, k * 3 + 1, none⟩) hgl).trans p1, (hb.cell (p := ⟨gl, k * 3 + 2, none⟩) hgl).trans p2, e0, e1, e2⟩
      have HC : Hid (∀ V, Below w.heap.size w V → Calls Try.prog 18 #[.agg #[.bool (N k), .slice (some ⟨(G k).g1, 0, none⟩) (U k).length (G k).c1, .slice (some ⟨(G k).g2, 0, none⟩) (Y k).length (G k).c2], .agg #[.bool (N k), .slice (A k) (U k).length (C k), .slice (B k) (Y k).length (D k)]] V fun e V' => e = .returned (.bool true) ∧ Hid (Below w.heap.size w V') ∧ V'.cell? ⟨gl, k * 3, none⟩ = some (.bool (N k)) ∧ V'.cell? ⟨gl, k * 3 + 1, none⟩ = some (.slice (some ⟨(G k).g1, 0, none⟩) (U k).length (G k).c1) ∧ V'.cell? ⟨gl, k * 3 + 2, none⟩ = some (.slice (some ⟨(G k).g2, 0, none⟩) (Y k).length (G k).c2) ∧ V'.cell? ⟨g, o + k * 3, none⟩ = some (.bool (N k)) ∧ V'.cell? ⟨g, o + k * 3 + 1, none⟩ = some (.slice (A k) (U k).length (C k)) ∧ V'.cell? ⟨g, o + k * 3 + 2, none⟩ = some (.slice (B k) (Y k).length (D k))) := fun V hb => by
        refine Calls.mono (keptRatio_any (N k) (A k) (C k) (U k) (B k) (D k) (Y k) (G k).g1 (G k).c1 (G k).g2 (G k).c2 w0.heap.size V ((HL.out.later hb).slx k hlt) ((HL.out.later hb).sly k hlt) (HU.out k hlt).1 (HU.out k hlt).2 ((HLT.out.later hb).r1 k hlt) ((HLT.out.later hb).r2 k hlt)) ?_
        rintro e V' ⟨rfl, hb'⟩
        exact ⟨rfl, bt hb hb', HK.out V' (bt hb hb')⟩
      have hs0 := HK.out _ HB.out.drew
      have HBD := hid HB.out.drew
      have hk0 : (0 : Int) ≤ ↑k := by omega
      have hk1 : (↑k : Int) < ↑m := by omega
      have hk2 : (↑k : Int) < ↑m + 3 := by omega
      go_wp2_with fail
      go_region_held3 (fun V : World => V.cell? ⟨gl, k * 3, none⟩ = some (.bool (N k)) ∧ V.cell? ⟨gl, k * 3 + 1, none⟩ = some (.slice (some ⟨(G k).g1, 0, none⟩) (U k).length (G k).c1) ∧ V.cell? ⟨gl, k * 3 + 2, none⟩ = some (.slice (some ⟨(G k).g2, 0, none⟩) (Y k).length (G k).c2) ∧ V.cell? ⟨g, o + k * 3, none⟩ = some (.bool (N k)) ∧ V.cell? ⟨g, o + k * 3 + 1, none⟩ = some (.slice (A k) (U k).length (C k)) ∧ V.cell? ⟨g, o + k * 3 + 2, none⟩ = some (.slice (B k) (Y k).length (D k))) (first | exact hs1 | exact hs0)
        ((go_at_call 18; with_reducible refine Calls.mono (HC.out _ HBD.out) ?_; rintro e w2 ⟨rfl, HB2, hs1⟩))
      all_goals
        clear HK HC hs0 hs1 HBD
        go_wp2_with fail
        go_roundw
        case rel => exact ⟨k + 1, by omega, by go_num, HB2⟩
        case measure => simp [intOf]; omega
    · have hkm : k = m := by omega
      subst hkm
      go_wp2_with fail
      go_loopw [6] (fun t wq => ∃ j : Nat, j ≤ 3 ∧ t = .int .i64 ((k + j : Nat) : Int) ∧ Hid (Below w.heap.size w wq)) (fun t _ => k + 3 - (intOf t).toNat)
      case atStart => exact ⟨0, by omega, rfl, HB⟩
      case round =>
        obtain ⟨j, hj, rfl, HJ⟩ := hrel
        by_cases hlt2 : j < 3
        · obtain ⟨p0, p1, p2⟩ := HCL.out.2 j hlt2
          have c0 := (HJ.out.cell (p := ⟨gl, (k + j) * 3, none⟩) hgl).trans p0
          have c1 := (HJ.out.cell (p := ⟨gl, (k + j) * 3 + 1, none⟩) hgl).trans p1
          have c2 := (HJ.out.cell (p := ⟨gl, (k + j) * 3 + 2, none⟩) hgl).trans p2
          have hal := alloc_later wr (.cells #[.int .u32 77] 36)
          have w77 : Wd [77] := Wd.one (by decide)
          have s1 : Sl (wr.alloc (.cells #[.int .u32 77] 36)) (.slice (some ⟨S j, 0, none⟩) 1 1) [77] := (Sl.own (xs := [77]) (owns_later (HSP.out.r j hlt2) HJ.out) w77).later hal
          have s2 : Sl (wr.alloc (.cells #[.int .u32 77] 36)) (.slice (some ⟨wr.heap.size, 0, none⟩) 1 1) [77] := Sl.own (xs := [77]) (World.ownsRow_lit (base := 0) (size := 1) (e := 36) wr #[.int .u32 77] 1 (Nat.zero_le _) (by unfold maxLen; omega) rfl) w77
          have s3 : Sl (wr.alloc (.cells #[.int .u32 77] 36)) (.slice none 0 0) [] := Sl.own (xs := []) (World.ownsRow_nil (wr.alloc (.cells #[.int .u32 77] 36)) 0 36 1) Wd.nil
          have HC := hid (sameRatio_eq true _ _ _ _ [77] [] (wr.alloc (.cells #[.int .u32 77] 36)) s1 s3 s2 s3 (by simp) (by simp))
          have HBA := hid (bt HJ.out hal)
          have hk0 : (0 : Int) ≤ ((k + j : Nat) : Int) := by omega
          have hk1 : ((k + j : Nat) : Int) < ↑k + 3 := by omega
          clear p0 p1 p2 hal s1 s2 s3 w77
          go_wp2_with fail
          refine Calls.mono HC.out ?_
          generalize wr.alloc (.cells #[.int .u32 77] 36) = V at *
          rintro e w2 ⟨rfl, hb2⟩
          have HR := hid (bt HBA.out hb2)
          clear hb2 HC HBA c0 c1 c2
          go_wp2_with fail
          go_roundw
          case rel => exact ⟨j + 1, by omega, by go_num, HR⟩
          case measure => simp [intOf]; omega
        · have hj3 : j = 3 := by omega
          subst hj3
          have hk1 : ¬ ((k + 3 : Nat) : Int) < ↑k + 3 := by omega
          go_wp2_with fail
          go_ret
          exact ⟨rfl, HJ.out⟩

end Go.Proofs.Ytpehpflgfkdiaaa

/- Fractions: ratio.add: sums of fractions that may be; what is told is new memory, Num and Den apart. -/
namespace Go.Proofs.Ytpehpflgfkdiaaa
open Go.RowKit
set_option linter.unusedVariables false

theorem bel_al {a w : World} (h : Below a.heap.size a w) (o : Obj) : Below a.heap.size a (w.alloc o) := h.alloc h.size o
theorem bel_undrew {w V : World} (hb : Below w.drew.heap.size w.drew V) : Below w.heap.size w V := bt (Below.drew (Below.refl _ w)) hb
theorem bel_unal {w V : World} {o : Obj} (hb : Below (w.alloc o).heap.size (w.alloc o) V) : Below w.heap.size w V := bt (alloc_later _ _) hb
theorem zbw {w V : World} (hb : Below (w.alloc (.cells #[.bool false, .slice none 0 0] 52)).heap.size (w.alloc (.cells #[.bool false, .slice none 0 0] 52)) V) : Box V w.heap.size 52 #[.bool false, .slice none 0 0] := (Box.made w 52 _).later hb (by simp)
theorem new_ne' {w : World} {g t : Nat} {vs : Array Value} (h : Box w g t vs) : g < w.heap.size ∧ ¬ w.heap.size = g := by
  have := h.lt
  omega
theorem nes3 {p q : Nat} (h : p + 1 + 1 < q) : ¬ p = q ∧ ¬ q = p ∧ ¬ p + 1 = q ∧ ¬ q = p + 1 := by omega
/-- A whole number in a box, behind what was there. -/
def Num (X U F : World) (p : Nat) (k : Bool) (a : Option Addr) (c : Nat) (z : List Int) (T : Int) : Prop := Box F p 52 #[.bool k, .slice a z.length c] ∧ One X F (.slice a z.length c) z T ∧ Below U.heap.size U F
theorem num_old {X U W : World} {p : Nat} {k : Bool} {a : Option Addr} {c : Nat} {z : List Int} {T : Int} (o : One X W (.slice a z.length c) z T) (hb : Below U.heap.size U W) (h : Box W p 52 #[.bool false, .slice none 0 0]) (lp : U.heap.size ≤ p) : Num X U ((W.setCell ⟨p, 0, none⟩ (.bool k)).setCell ⟨p, 1, none⟩ (.slice a z.length c)) p k a c z T :=
  ⟨h.put2 _ _, ⟨own_put2 o.1 p (own_ne_box o.1 h (by decide)) _ _, o.2⟩, below_put2 hb p lp _ _⟩
theorem num_new {X U W : World} {k : Bool} {a : Option Addr} {c : Nat} {z : List Int} {T : Int} (o : One X W (.slice a z.length c) z T) (hb : Below U.heap.size U W) : Num X U (W.alloc (.cells #[.bool k, .slice a z.length c] 52)) W.heap.size k a c z T :=
  ⟨Box.made W _ _, o.later (alloc_later _ _), bt hb (alloc_later _ _)⟩

theorem lies_low {v : Value} {lo lo' hi : Nat} (h : Lies v lo hi) (hl : lo' ≤ lo) : Lies v lo' hi := fun g hg => ⟨Nat.le_trans hl (h g hg).1, (h g hg).2⟩
theorem sum_4097 {k n m : Bool} {T p1 p2 : Int} (h : sg k T = sg n p1 + sg m p2) (h0 : 0 ≤ T) (q0 : 0 ≤ p1) (q1 : p1 < 4294967296 ^ 4096) (r0 : 0 ≤ p2) (r1 : p2 < 4294967296 ^ 4096) : T < 4294967296 ^ 4097 := by
  have e : (4294967296 : Int) ^ 4097 = 4294967296 ^ 4096 * 4294967296 := Int.pow_succ _ 4096
  rw [e]
  generalize (4294967296 : Int) ^ 4096 = Y at *
  cases k <;> cases n <;> cases m <;> simp [sg] at h <;> omega
theorem at7 {X w7 ww : World} {f : Nat} {args : Array Value} {t : Int} {S : World → Prop} (hS : ∀ V, Below w7.heap.size w7 V → S V) (hw : Below w7.heap.size w7 ww) (C : Calls Try.prog f args ww (fun e w' => ∃ a2 zs c2, e = .returned (.slice a2 (List.length zs) c2) ∧ Hid (One X w' (.slice a2 (List.length zs) c2) zs t ∧ Lies (.slice a2 (List.length zs) c2) ww.heap.size w'.heap.size) ∧ True ∧ Below X.heap.size X w' ∧ Hid (Below ww.heap.size ww w'))) :
    Calls Try.prog f args ww fun e w' => ∃ a2 zs c2, e = .returned (.slice a2 (List.length zs) c2) ∧ Hid (One X w' (.slice a2 (List.length zs) c2) zs t ∧ Lies (.slice a2 (List.length zs) c2) ww.heap.size w'.heap.size ∧ True ∧ Below w7.heap.size w7 w') ∧ S w' ∧ Hid (Below ww.heap.size ww w') :=
  Calls.mono C fun e w' ⟨a2, zs, c2, h1, h2, _, _, h5⟩ => ⟨a2, zs, c2, h1, ⟨h2.out.1, h2.out.2, trivial, bt hw h5.out⟩, hS w' (bt hw h5.out), h5⟩
theorem rtold_cut2 {U ww : World} {n : Bool} {a : Option Addr} {ca : Nat} {zs : List Int} {b : Option Addr} {cb : Nat} {ds : List Int} {s t : Int} {q : Rat} (hb : Below U.heap.size U ww) (h1 : One U ww (.slice a zs.length ca) zs s) (h2 : One U ww (.slice b ds.length cb) ds t) (hc : Cut U (.slice a zs.length ca) (.slice b ds.length cb) ww) (hd : 0 < t) (hg : gcdI s t = 1) (hq : Rat.divInt (sg n s) t = q) :
    Calls Try.prog 28 #[.bool n, .slice a zs.length ca, .slice b ds.length cb] ww fun e w' => ∃ k a8 z8 c8 a9 z9 c9 code, e = .returned (.tuple #[.agg #[.bool k, .slice a8 (List.length z8) c8, .slice a9 (List.length z9) c9], .int .i64 code]) ∧ Hid (w'.ownsRow U.heap.size 36 1 (.slice a8 (List.length z8) c8) z8.length (z8.map (Value.int .u32)) ∧ w'.ownsRow U.heap.size 36 1 (.slice a9 (List.length z9) c9) z9.length (z9.map (Value.int .u32)) ∧ RTells 0 q k z8 z9 code ∧ Cut U (.slice a8 (List.length z8) c8) (.slice a9 (List.length z9) c9) w') ∧ Below U.heap.size U w' ∧ Hid (Below ww.heap.size ww w') := by
  obtain ⟨o1, w1, t1, v1⟩ := h1
  obtain ⟨o2, w2, t2, v2⟩ := h2
  obtain ⟨k, us, vs, c, e1, e2, e3, r⟩ := rtells_of (n := n) w1 t1 w2 t2 (by rw [v2]; exact hd) (by rw [v1, v2]; exact hg)
  rw [v1, v2, hq] at r
  refine Calls.mono (rtold_any n a zs.length ca b ds.length cb ww) fun e w' h => ?_
  obtain ⟨rfl, hb2⟩ := h
  rw [e1]
  by_cases z : c = 0
  · rw [if_pos z] at e2 e3
    subst e2; subst e3
    refine ⟨k, a, us, ca, b, vs, cb, c, by rw [if_pos z, if_pos z], ⟨owns_later o1 hb2, owns_later o2 hb2, r, hc.up (Nat.le_refl _) hb2.size⟩, bt hb hb2, hb2⟩
  · rw [if_neg z] at e2 e3
    subst e2; subst e3
    exact ⟨k, none, [], 0, none, [], 0, c, by rw [if_neg z, if_neg z]; rfl, ⟨World.ownsRow_nil _ _ _ _, World.ownsRow_nil _ _ _ _, r, ⟨U.heap.size, Nat.le_refl _, (bt hb hb2).size, fun g hg => by simp [Value.ownBlock] at hg, fun g hg => by simp [Value.ownBlock] at hg⟩⟩, bt hb hb2, hb2⟩

set_option maxHeartbeats 6400000 in
set_option maxRecDepth 100000 in
theorem radd_any (n : Bool) (a : Option Addr) (ca : Nat) (xs : List Int) (b : Option Addr) (cb : Nat) (ys : List Int) (m : Bool) (c : Option Addr) (cc : Nat) (us : List Int) (d : Option Addr) (cd : Nat) (vs : List Int) (w : World)
    (sx : Sl w (.slice a xs.length ca) xs) (sy : Sl w (.slice b ys.length cb) ys) (su : Sl w (.slice c us.length cc) us) (sv : Sl w (.slice d vs.length cd) vs) (lx : xs.length ≤ 2048) (ly : ys.length ≤ 2048) (lu : us.length ≤ 2048) (lv : vs.length ≤ 2048) (tx : Trimmed xs) (ty : Trimmed ys) (tu : Trimmed us) (tv : Trimmed vs) (hy : 0 < val ys) (hv : 0 < val vs) (h1 : gcdI (val xs) (val ys) = 1) (h2 : gcdI (val us) (val vs) = 1) :
    Calls Try.prog 13 #[.agg #[.bool n, .slice a xs.length ca, .slice b ys.length cb], .agg #[.bool m, .slice c us.length cc, .slice d vs.length cd]] w (RToldA w 0 (rq n xs ys + rq m us vs)) := by
  have wx := sx.wd
  have wy := sy.wd
  have wu := su.wd
  have wv := sv.wd
  have HB : Hid (Below w.heap.size w (((w.alloc (.cells #[.bool n, .slice a xs.length ca, .slice b ys.length cb] 26)).alloc (.cells #[.bool m, .slice c us.length cc, .slice d vs.length cd] 26)).alloc (.cells #[.bool false, .slice none 0 0, .slice none 0 0] 26))) := bt (bt (alloc_later _ _) (alloc_later _ _)) (alloc_later _ _)
  have HZ : Hid (Box (((w.alloc (.cells #[.bool n, .slice a xs.length ca, .slice b ys.length cb] 26)).alloc (.cells #[.bool m, .slice c us.length cc, .slice d vs.length cd] 26)).alloc (.cells #[.bool false, .slice none 0 0, .slice none 0 0] 26)) (w.heap.size + 1 + 1) 26 #[.bool false, .slice none 0 0, .slice none 0 0]) := by
    have e := Box.made ((w.alloc (.cells #[.bool n, .slice a xs.length ca, .slice b ys.length cb] 26)).alloc (.cells #[.bool m, .slice c us.length cc, .slice d vs.length cd] 26)) 26 #[.bool false, .slice none 0 0, .slice none 0 0]
    simp at e
    exact e
  have HN : Hid (Box (((w.alloc (.cells #[.bool n, .slice a xs.length ca, .slice b ys.length cb] 26)).alloc (.cells #[.bool m, .slice c us.length cc, .slice d vs.length cd] 26)).alloc (.cells #[.bool false, .slice none 0 0, .slice none 0 0] 26)) w.heap.size 26 #[.bool n, .slice a xs.length ca, .slice b ys.length cb]) := Box.later (Box.made w _ _) (bt (alloc_later _ _) (alloc_later _ _)) (by simp)
  have HM : Hid (Box (((w.alloc (.cells #[.bool n, .slice a xs.length ca, .slice b ys.length cb] 26)).alloc (.cells #[.bool m, .slice c us.length cc, .slice d vs.length cd] 26)).alloc (.cells #[.bool false, .slice none 0 0, .slice none 0 0] 26)) (w.heap.size + 1) 26 #[.bool m, .slice c us.length cc, .slice d vs.length cd]) := by
    have e := Box.later (Box.made (w.alloc (.cells #[.bool n, .slice a xs.length ca, .slice b ys.length cb] 26)) 26 #[.bool m, .slice c us.length cc, .slice d vs.length cd]) (alloc_later ((w.alloc (.cells #[.bool n, .slice a xs.length ca, .slice b ys.length cb] 26)).alloc (.cells #[.bool m, .slice c us.length cc, .slice d vs.length cd] 26)) (.cells #[.bool false, .slice none 0 0, .slice none 0 0] 26)) (by simp)
    simp at e
    exact e
  have HXS : Hid (w.heap.size + 1 + 1 < (((w.alloc (.cells #[.bool n, .slice a xs.length ca, .slice b ys.length cb] 26)).alloc (.cells #[.bool m, .slice c us.length cc, .slice d vs.length cd] 26)).alloc (.cells #[.bool false, .slice none 0 0, .slice none 0 0] 26)).heap.size) := HZ.out.lt
  have HSL := hid (And.intro (sx.later HB.out) (And.intro (sy.later HB.out) (And.intro (su.later HB.out) (sv.later HB.out))))
  have HP := hid (And.intro hy (And.intro hv (And.intro h1 h2)))
  have HTT := hid (And.intro tx (And.intro ty (And.intro tu tv)))
  have HF0 : Hid (0 < gcdI (val ys) (val vs) ∧ gcdI (val ys) (val vs) ≤ val vs) := ⟨gcd_pos_right hv, gcd_le_right hv⟩
  have HL : Hid (val xs < 4294967296 ^ 2048 ∧ val ys < 4294967296 ^ 2048 ∧ val us < 4294967296 ^ 2048 ∧ val vs < 4294967296 ^ 2048) := ⟨below2048 wx lx, below2048 wy ly, below2048 wu lu, below2048 wv lv⟩
  have HNN : Hid (0 ≤ val xs ∧ 0 ≤ val us ∧ 0 ≤ val ys ∧ 0 ≤ val vs) := ⟨val_nonneg wx, val_nonneg wu, val_nonneg wy, val_nonneg wv⟩
  have HD : Hid (val ys / gcdI (val ys) (val vs) < 4294967296 ^ 2048 ∧ val vs / gcdI (val ys) (val vs) < 4294967296 ^ 2048 ∧ 0 ≤ val ys / gcdI (val ys) (val vs) ∧ 0 ≤ val vs / gcdI (val ys) (val vs)) := by
    have q3 := Int.ediv_le_self (a := val ys) (gcdI (val ys) (val vs)) (by omega)
    have q4 := Int.ediv_le_self (a := val vs) (gcdI (val ys) (val vs)) (by omega)
    have q5 := HF0.out
    have := HL.out
    exact ⟨by omega, by omega, Int.ediv_nonneg (by omega) (by omega), Int.ediv_nonneg (by omega) (by omega)⟩
  have HPL : Hid (val xs * (val vs / gcdI (val ys) (val vs)) < 4294967296 ^ 4096 ∧ val us * (val ys / gcdI (val ys) (val vs)) < 4294967296 ^ 4096) := ⟨mul_4096 HNN.out.1 HL.out.1 HD.out.2.2.2 HD.out.2.1, mul_4096 HNN.out.2.1 HL.out.2.2.1 HD.out.2.2.1 HD.out.1⟩
  have HC1 := hid (rcommon_any _ _ ys vs (((w.alloc (.cells #[.bool n, .slice a xs.length ca, .slice b ys.length cb] 26)).alloc (.cells #[.bool m, .slice c us.length cc, .slice d vs.length cd] 26)).alloc (.cells #[.bool false, .slice none 0 0, .slice none 0 0] 26)) HSL.out.2.1 HSL.out.2.2.2 (by omega) (by omega) ty tv)
  obtain ⟨G, hG⟩ : ∃ G, G = gcdI (val ys) (val vs) := ⟨_, rfl⟩
  rw [← hG] at HC1 HF0 HD HPL
  obtain ⟨rA, hA⟩ : ∃ rA, rA = val ys / G := ⟨_, rfl⟩
  obtain ⟨rB, hB⟩ : ∃ rB, rB = val vs / G := ⟨_, rfl⟩
  rw [← hA, ← hB] at HD HPL
  have HEQ := hid (And.intro hG (And.intro hA hB))
  clear sx sy su sv tx ty tu tv hy hv h1 h2 wx wy wu wv hG hA hB
  go_enter Try.func13, Try.ntmps13
  go_wp2_with fail
  refine Calls.mono HC1.out ?_
  generalize (((w.alloc (.cells #[.bool n, .slice a xs.length ca, .slice b ys.length cb] 26)).alloc (.cells #[.bool m, .slice c us.length cc, .slice d vs.length cd] 26)).alloc (.cells #[.bool false, .slice none 0 0, .slice none 0 0] 26)) = X at *
  rintro e w1 ⟨v1, z1, rfl, o1, wd1, t1, hv1, hb1⟩
  obtain ⟨a1, c1, hs1⟩ := own_slice' o1
  subst hs1
  have HK : Hid (∀ V, Below X.heap.size X V → V.cell? ⟨w.heap.size, 0, none⟩ = some (.bool n) ∧ V.cell? ⟨w.heap.size, 1, none⟩ = some (.slice a xs.length ca) ∧ V.cell? ⟨w.heap.size, 2, none⟩ = some (.slice b ys.length cb) ∧ V.cell? ⟨w.heap.size + 1, 0, none⟩ = some (.bool m) ∧ V.cell? ⟨w.heap.size + 1, 1, none⟩ = some (.slice c us.length cc) ∧ V.cell? ⟨w.heap.size + 1, 2, none⟩ = some (.slice d vs.length cd)) := fun V hb => by
    obtain ⟨p0, p1, p2, _⟩ := res_box3 HN.out hb
    obtain ⟨q0, q1, q2, _⟩ := res_box3 HM.out hb
    exact ⟨p0, p1, p2, q0, q1, q2⟩
  have HO1 : Hid (One X w1.drew (.slice a1 z1.length c1) z1 G) := One.later ⟨o1, wd1, t1, hv1⟩ (Below.drew (Below.refl _ w1))
  have hb1d : Below X.heap.size X w1.drew := hb1.drew
  have hs0 := HK.out _ hb1d
  clear o1 wd1 t1 hv1 hb1 HC1
  have HQY := hid (fun ww (hv' : Below X.heap.size X ww) (h : One X ww (.slice a1 z1.length c1) z1 G) => quot_in _ HK.out hv' (HSL.out.2.1.later hv') (by omega) HTT.out.2.1 h HF0.out.1 (by have := HF0.out; have := HL.out; omega))
  have HQV := hid (fun ww (hv' : Below X.heap.size X ww) (h : One X ww (.slice a1 z1.length c1) z1 G) => quot_in _ HK.out hv' (HSL.out.2.2.2.later hv') (by omega) HTT.out.2.2.2 h HF0.out.1 (by have := HF0.out; have := HL.out; omega))
  rw [← HEQ.out.2.1] at HQY
  rw [← HEQ.out.2.2] at HQV
  go_wp2_with fail
  go_region_held3 (fun V : World => V.cell? ⟨w.heap.size, 0, none⟩ = some (.bool n) ∧ V.cell? ⟨w.heap.size, 1, none⟩ = some (.slice a xs.length ca) ∧ V.cell? ⟨w.heap.size, 2, none⟩ = some (.slice b ys.length cb) ∧ V.cell? ⟨w.heap.size + 1, 0, none⟩ = some (.bool m) ∧ V.cell? ⟨w.heap.size + 1, 1, none⟩ = some (.slice c us.length cc) ∧ V.cell? ⟨w.heap.size + 1, 2, none⟩ = some (.slice d vs.length cd)) (first | exact hs3 | exact hs2 | exact hs0)
    (first
      | (go_at_call 25; with_reducible refine Calls.mono (HQV.out _ hb2 (HO1.out.later HS2.out)) ?_; rintro e w3 ⟨a3, z3, c3, rfl, HE3, hs3, hb3, HS3⟩)
      | (go_at_call 25; with_reducible refine Calls.mono (HQY.out _ hb1d HO1.out) ?_; rintro e w2 ⟨a2, z2, c2, rfl, HE2, hs2, hb2, HS2⟩))
  have HO3 := hid (And.intro ((HO1.out.later HS2.out).later HS3.out) (And.intro (HE2.out.1.later HS3.out) HE3.out.1))
  have HB3 := hid hb3
  clear hs0 hs2 hs3 hb1d hb2 hb3 HE2 HE3 HS2 HS3 HO1 HQY HQV
  go_upto_region 5 with fail
  have HU : Hid (∀ V, Below w3.heap.size w3 V → Below X.heap.size X V) := fun V hb => bt HB3.out hb
  have HBR := hid (Below.refl w3.heap.size w3)
  have HP1 : Hid (∀ V, Below w3.heap.size w3 V → Calls Try.prog 27 #[.slice a xs.length ca, .slice a3 z3.length c3] V fun e V' => ∃ a2 zs c2, e = .returned (.slice a2 (List.length zs) c2) ∧ Hid (One X V' (.slice a2 (List.length zs) c2) zs (val xs * rB) ∧ Below V.heap.size V V' ∧ Below w3.heap.size w3 V') ∧ V'.cell? ⟨w.heap.size, 0, none⟩ = some (.bool n) ∧ V'.cell? ⟨w.heap.size, 1, none⟩ = some (.slice a xs.length ca) ∧ V'.cell? ⟨w.heap.size, 2, none⟩ = some (.slice b ys.length cb) ∧ V'.cell? ⟨w.heap.size + 1, 0, none⟩ = some (.bool m) ∧ V'.cell? ⟨w.heap.size + 1, 1, none⟩ = some (.slice c us.length cc) ∧ V'.cell? ⟨w.heap.size + 1, 2, none⟩ = some (.slice d vs.length cd)) := fun V hb => by
    have hx := HU.out V hb
    have on := HO3.out.2.2.later hb
    have e := rprod_any _ _ xs z3 V (HSL.out.1.later hx) on.sl (by have := own_len on HD.out.2.1; omega) HTT.out.1 on.2.2.1
    rw [on.2.2.2] at e
    refine Calls.mono e ?_
    rintro e V' ⟨v2, zs, rfl, o2, wd2, t2, hv2, hb2⟩
    obtain ⟨a2, c2, hs2⟩ := own_slice' o2
    subst hs2
    exact ⟨a2, zs, c2, rfl, ⟨⟨owns_base o2 hx.size, wd2, t2, hv2⟩, hb2, bt hb hb2⟩, HK.out V' (bt hx hb2)⟩
  have HP2 : Hid (∀ V, Below w3.heap.size w3 V → Calls Try.prog 27 #[.slice c us.length cc, .slice a2 z2.length c2] V fun e V' => ∃ a2 zs c2, e = .returned (.slice a2 (List.length zs) c2) ∧ Hid (One X V' (.slice a2 (List.length zs) c2) zs (val us * rA) ∧ Below V.heap.size V V' ∧ Below w3.heap.size w3 V') ∧ V'.cell? ⟨w.heap.size, 0, none⟩ = some (.bool n) ∧ V'.cell? ⟨w.heap.size, 1, none⟩ = some (.slice a xs.length ca) ∧ V'.cell? ⟨w.heap.size, 2, none⟩ = some (.slice b ys.length cb) ∧ V'.cell? ⟨w.heap.size + 1, 0, none⟩ = some (.bool m) ∧ V'.cell? ⟨w.heap.size + 1, 1, none⟩ = some (.slice c us.length cc) ∧ V'.cell? ⟨w.heap.size + 1, 2, none⟩ = some (.slice d vs.length cd)) := fun V hb => by
    have hx := HU.out V hb
    have on := HO3.out.2.1.later hb
    have e := rprod_any _ _ us z2 V (HSL.out.2.2.1.later hx) on.sl (by have := own_len on HD.out.1; omega) HTT.out.2.2.1 on.2.2.1
    rw [on.2.2.2] at e
    refine Calls.mono e ?_
    rintro e V' ⟨v2, zs, rfl, o2, wd2, t2, hv2, hb2⟩
    obtain ⟨a2, c2, hs2⟩ := own_slice' o2
    subst hs2
    exact ⟨a2, zs, c2, rfl, ⟨⟨owns_base o2 hx.size, wd2, t2, hv2⟩, hb2, bt hb hb2⟩, HK.out V' (bt hx hb2)⟩
  have HSG : Hid (∀ V, Below w3.heap.size w3 V → ∀ a4 z4 c4 a5 z5 c5, One X V (.slice a4 (List.length z4) c4) z4 (val xs * rB) → One X V (.slice a5 (List.length z5) c5) z5 (val us * rA) → Calls Try.prog 26 #[.agg #[.bool n, .slice a4 z4.length c4], .agg #[.bool m, .slice a5 z5.length c5]] V fun e V' => ∃ k a2 zs c2, e = .returned (.agg #[.bool k, .slice a2 (List.length zs) c2]) ∧ Hid ((∃ T, One X V' (.slice a2 (List.length zs) c2) zs T ∧ sg k T = (sg n (val xs * rB) + sg m (val us * rA))) ∧ Below V.heap.size V V' ∧ Below w3.heap.size w3 V') ∧ V'.cell? ⟨w.heap.size, 0, none⟩ = some (.bool n) ∧ V'.cell? ⟨w.heap.size, 1, none⟩ = some (.slice a xs.length ca) ∧ V'.cell? ⟨w.heap.size, 2, none⟩ = some (.slice b ys.length cb) ∧ V'.cell? ⟨w.heap.size + 1, 0, none⟩ = some (.bool m) ∧ V'.cell? ⟨w.heap.size + 1, 1, none⟩ = some (.slice c us.length cc) ∧ V'.cell? ⟨w.heap.size + 1, 2, none⟩ = some (.slice d vs.length cd)) := fun V hb a4 z4 c4 a5 z5 c5 h4 h5 => by
    have hx := HU.out V hb
    have e := rsigned_any n _ z4 m _ z5 V h4.sl h5.sl (by have := own_len h4 HPL.out.1; omega) (by have := own_len h5 HPL.out.2; omega) h4.2.2.1 h5.2.2.1
    rw [show wval n z4 = sg n (val z4) from rfl, show wval m z5 = sg m (val z5) from rfl, h4.2.2.2, h5.2.2.2] at e
    refine Calls.mono e ?_
    rintro e V' ⟨k, v, zs, rfl, o, h1, h2, h3, hb2⟩
    obtain ⟨a2, c2, hs2⟩ := own_slice' o
    subst hs2
    exact ⟨k, a2, zs, c2, rfl, ⟨⟨val zs, ⟨owns_base o hx.size, h1, h2, rfl⟩, h3⟩, hb2, bt hb hb2⟩, HK.out V' (bt hx hb2)⟩
  have HW2 := hid (Nat.lt_of_lt_of_le HXS.out HB3.out.size)
  obtain ⟨m1, m2, m3, m4⟩ := nes3 HW2.out
  go_cut [9] from 11 (fun s9 wx => ∃ p k a6 c6 z6 T, s9 = .pointer (some ⟨p, 0, none⟩) ∧ Hid (Num X w3 wx p k a6 c6 z6 T ∧ sg k T = sg n (val xs * rB) + sg m (val us * rA) ∧ w3.heap.size ≤ p))
  case first =>
    have hs0 := HK.out _ (HU.out _ HBR.out.drew)
    go_region_held3 (fun V : World => V.cell? ⟨w.heap.size, 0, none⟩ = some (.bool n) ∧ V.cell? ⟨w.heap.size, 1, none⟩ = some (.slice a xs.length ca) ∧ V.cell? ⟨w.heap.size, 2, none⟩ = some (.slice b ys.length cb) ∧ V.cell? ⟨w.heap.size + 1, 0, none⟩ = some (.bool m) ∧ V.cell? ⟨w.heap.size + 1, 1, none⟩ = some (.slice c us.length cc) ∧ V.cell? ⟨w.heap.size + 1, 2, none⟩ = some (.slice d vs.length cd)) (first | exact hs6 | exact hs5 | exact hs4 | exact hs0 | with_reducible exact HK.out _ (HU.out _ (bel_al HE6.out.2.2 _)) | with_reducible exact HK.out _ (HU.out _ (bel_al HE5.out.2.2 _)) | with_reducible exact HK.out _ (HU.out _ (bel_al HE4.out.2.2 _)) | with_reducible exact HK.out _ (HU.out _ (bel_al HBR.out _).drew) | with_reducible exact HK.out _ (HU.out _ (below_put2 HE6.out.2.2 _ (by omega) _ _)) | go_keep)
      (first
        | (go_at_call 26; with_reducible refine Calls.mono (HSG.out _ (by first | exact HE5.out.2.2 | exact bel_al HE5.out.2.2 _) _ _ _ _ _ _ (by first | exact HE4.out.1.later HL5.out | exact (HE4.out.1.later HL5.out).later (alloc_later _ _)) (by first | exact HE5.out.1 | exact HE5.out.1.later (alloc_later _ _))) ?_; rintro e w6 ⟨k6, a6, z6, c6, rfl, HE6, hs6⟩; (first | (have HL6 := hid (bel_unal (w := w5) HE6.out.2.1)) | (have HL6 := hid HE6.out.2.1)); (first | (have HY1 := hid ((HZ1.out.later HL5.out HZ1.out.lt).later HL6.out (HZ1.out.later HL5.out HZ1.out.lt).lt); clear y0 y1 y2 y3; obtain ⟨j0, j1, j2, j3⟩ := HY1.out.c2; obtain ⟨j4, j5⟩ := new_ne' HY1.out) | skip); (first | (have HY2 := hid (HZ2.out.later HL6.out HZ2.out.lt); clear u0 u1 u2 u3; obtain ⟨j0, j1, j2, j3⟩ := HY2.out.c2; obtain ⟨j4, j5⟩ := new_ne' HY2.out) | skip); (first | (have HY3 := hid (zbw HE6.out.2.1); obtain ⟨j0, j1, j2, j3⟩ := HY3.out.c2; obtain ⟨j4, j5⟩ := new_ne' HY3.out) | skip))
        | (go_at_call 27; with_reducible refine Calls.mono (HP2.out _ (by first | exact HE4.out.2.2 | exact bel_al HE4.out.2.2 _)) ?_; rintro e w5 ⟨a5, z5, c5, rfl, HE5, hs5⟩; have hz5 := HE5.out.2.2.size; (first | (have HL5 := hid (bel_unal (w := w4) HE5.out.2.1)) | (have HL5 := hid HE5.out.2.1)); (first | (have HZ2 := hid (zbw HE5.out.2.1); obtain ⟨u0, u1, u2, u3⟩ := HZ2.out.c2; obtain ⟨u4, u5⟩ := new_ne' HZ2.out) | skip))
        | (go_at_call 27; with_reducible refine Calls.mono (HP1.out _ (by first | exact HBR.out.drew | exact (bel_al HBR.out _).drew)) ?_; rintro e w4 ⟨a4, z4, c4, rfl, HE4, hs4⟩; have hz4 := HE4.out.2.2.size; obtain ⟨l1, l2, l3, l4⟩ := nes3 (Nat.lt_of_lt_of_le HW2.out HE4.out.2.2.size); (first | (have HZ1 := hid (zbw (bel_undrew HE4.out.2.1)); obtain ⟨y0, y1, y2, y3⟩ := HZ1.out.c2; obtain ⟨y4, y5⟩ := new_ne' HZ1.out) | skip)))
    all_goals
      have hz6 := HE6.out.2.2.size
      have hz45 := HL5.out.size
      obtain ⟨T, oT, hT⟩ := HE6.out.1
      have HOT := hid oT
      have HHT := hid hT
      clear oT hT
      go_wp2_with fail
      go_meet
    all_goals (first | with_reducible exact ⟨_, k6, a6, c6, z6, T, rfl, hid (And.intro (num_old HOT.out HE6.out.2.2 HY1.out (by omega)) (And.intro HHT.out (by omega)))⟩ | with_reducible exact ⟨_, k6, a6, c6, z6, T, rfl, hid (And.intro (num_old HOT.out HE6.out.2.2 HY2.out (by omega)) (And.intro HHT.out (by omega)))⟩ | with_reducible exact ⟨_, k6, a6, c6, z6, T, rfl, hid (And.intro (num_old HOT.out HE6.out.2.2 HY3.out (by omega)) (And.intro HHT.out (by omega)))⟩ | with_reducible exact ⟨_, k6, a6, c6, z6, T, rfl, hid (And.intro (num_new HOT.out HE6.out.2.2) (And.intro HHT.out (by omega)))⟩)
  case rest =>
    obtain ⟨p, k6, a6, c6, z6, T, rfl, HNm⟩ := hcut
    have HBc := hid (bt HB3.out HNm.out.1.2.2)
    have HOc := hid (And.intro (HO3.out.1.later HNm.out.1.2.2) (And.intro (HO3.out.2.1.later HNm.out.1.2.2) HNm.out.1.2.1))
    have HBX := hid HNm.out.1.1
    have HTS := hid HNm.out.2.1
    have HPW := hid (Nat.lt_of_lt_of_le (Nat.lt_of_lt_of_le HXS.out HB3.out.size) HNm.out.2.2)
    have HT0 : Hid (0 ≤ T) := by rw [← HOc.out.2.2.2.2.2]; exact val_nonneg HOc.out.2.2.2.1
    have HTL : Hid (T < 4294967296 ^ 4097) := sum_4097 HTS.out HT0.out (Int.mul_nonneg HNN.out.1 HD.out.2.2.2) HPL.out.1 (Int.mul_nonneg HNN.out.2.1 HD.out.2.2.1) HPL.out.2
    have l6 : z6.length ≤ 4097 := own_len HOc.out.2.2 HTL.out
    have l1 : z1.length ≤ 2048 := own_len HOc.out.1 (by have := HF0.out; have := HL.out; omega)
    have l2 : z2.length ≤ 2048 := own_len HOc.out.2.1 HD.out.1
    have HC4 := hid (rcommon_any _ _ z6 z1 wc HOc.out.2.2.sl HOc.out.1.sl (by omega) (by omega) HOc.out.2.2.2.2.1 HOc.out.1.2.2.1)
    rw [HOc.out.2.2.2.2.2, HOc.out.1.2.2.2] at HC4
    have HSS : Hid (0 < gcdI T G ∧ gcdI T G ≤ G ∧ G < 4294967296 ^ 2048) := ⟨gcd_pos_right HF0.out.1, gcd_le_right HF0.out.1, by have := HF0.out; have := HL.out; omega⟩
    have HAP := hid (add_parts (n := n) (m := m) (nn := k6) (xs := xs) (ys := ys) (us := us) (vs := vs) HP.out.1 HP.out.2.1 HP.out.2.2.1 HP.out.2.2.2 HEQ.out.1 HEQ.out.2.1 HEQ.out.2.2 rfl rfl HTS.out (s := gcdI T G) rfl (q1 := T / gcdI T G) rfl (e := val vs / gcdI T G) rfl (den := rA * (val vs / gcdI T G)) rfl)
    clear HNm HP1 HP2 HSG HU HBR HB3 HO3 m1 m2 m3 m4 HW2
    obtain ⟨p0, p1, _, _⟩ := HBX.out.c2
    go_wp2_with fail
    refine Calls.mono HC4.out ?_
    rintro e w7 ⟨v7, z7, rfl, o7, wd7, t7, hv7, hb7⟩
    obtain ⟨a7, c7, hs7⟩ := own_slice' o7
    subst hs7
    have HB7 := hid (bt HBc.out hb7)
    have HBX7 := hid (HBX.out.later hb7 HBX.out.lt)
    have HO7 : Hid (One X w7.drew (.slice a7 z7.length c7) z7 (gcdI T G) ∧ One X w7.drew (.slice a2 z2.length c2) z2 rA ∧ One X w7.drew (.slice a6 z6.length c6) z6 T) := ⟨One.later ⟨owns_base o7 HBc.out.size, wd7, t7, hv7⟩ (Below.drew (Below.refl _ w7)), (HOc.out.2.1.later hb7).later (Below.drew (Below.refl _ w7)), (HOc.out.2.2.later hb7).later (Below.drew (Below.refl _ w7))⟩
    have hb7d : Below X.heap.size X w7.drew := HB7.out.drew
    clear o7 wd7 t7 hv7 hb7 HC4 p0 p1 HOc
    obtain ⟨SP, hSP⟩ : ∃ SP : World → Prop, SP = fun V => (V.cell? ⟨w.heap.size, 0, none⟩ = some (.bool n) ∧ V.cell? ⟨w.heap.size, 1, none⟩ = some (.slice a xs.length ca) ∧ V.cell? ⟨w.heap.size, 2, none⟩ = some (.slice b ys.length cb) ∧ V.cell? ⟨w.heap.size + 1, 0, none⟩ = some (.bool m) ∧ V.cell? ⟨w.heap.size + 1, 1, none⟩ = some (.slice c us.length cc) ∧ V.cell? ⟨w.heap.size + 1, 2, none⟩ = some (.slice d vs.length cd)) ∧ V.cell? ⟨p, 0, none⟩ = some (.bool k6) ∧ V.cell? ⟨p, 1, none⟩ = some (.slice a6 z6.length c6) := ⟨_, rfl⟩
    have HK7 : Hid (∀ V, Below w7.heap.size w7 V → (V.cell? ⟨w.heap.size, 0, none⟩ = some (.bool n) ∧ V.cell? ⟨w.heap.size, 1, none⟩ = some (.slice a xs.length ca) ∧ V.cell? ⟨w.heap.size, 2, none⟩ = some (.slice b ys.length cb) ∧ V.cell? ⟨w.heap.size + 1, 0, none⟩ = some (.bool m) ∧ V.cell? ⟨w.heap.size + 1, 1, none⟩ = some (.slice c us.length cc) ∧ V.cell? ⟨w.heap.size + 1, 2, none⟩ = some (.slice d vs.length cd)) ∧ V.cell? ⟨p, 0, none⟩ = some (.bool k6) ∧ V.cell? ⟨p, 1, none⟩ = some (.slice a6 z6.length c6)) := fun V hb => by
      obtain ⟨q0, q1, _, _⟩ := (HBX7.out.later hb HBX7.out.lt).c2
      exact ⟨HK.out V (bt HB7.out hb), q0, q1⟩
    clear hSP SP
    have HBR := hid (Below.refl w7.heap.size w7)
    have hs0 := HK7.out _ HBR.out.drew
    have HQ6 := hid (fun (ww : World) (hw : Below w7.heap.size w7 ww) (h : One X ww (.slice a7 z7.length c7) z7 (gcdI T G)) (h6 : One X ww (.slice a6 z6.length c6) z6 T) => (by have e := quot_in (U := X) (fun _ => True) (fun _ _ => trivial) (bt HB7.out hw) h6.sl (by omega) h6.2.2.1 h HSS.out.1 (by have := HSS.out; omega); rw [h6.2.2.2] at e; exact at7 HK7.out hw e : Calls Try.prog 25 #[.slice a6 z6.length c6, .slice a7 z7.length c7] ww _))
    have HQV := hid (fun (ww : World) (hw : Below w7.heap.size w7 ww) (h : One X ww (.slice a7 z7.length c7) z7 (gcdI T G)) => (by have e := quot_in (U := X) (fun _ => True) (fun _ _ => trivial) (bt HB7.out hw) (HSL.out.2.2.2.later (bt HB7.out hw)) (by omega) HTT.out.2.2.2 h HSS.out.1 (by have := HSS.out; omega); exact at7 HK7.out hw e : Calls Try.prog 25 #[.slice d vs.length cd, .slice a7 z7.length c7] ww _))
    have HPR := hid (fun (ww : World) (hw : Below w7.heap.size w7 ww) (a9 : Option Addr) (z9 : List Int) (c9 : Nat) (h2 : One X ww (.slice a2 z2.length c2) z2 rA) (h9 : One X ww (.slice a9 z9.length c9) z9 (val vs / gcdI T G)) => (by have e := told1_in (U := X) (fun _ => True) (fun _ _ => trivial) ww (bt HB7.out hw) (rprod_any _ _ z2 z9 ww h2.sl h9.sl (by have := own_len h9 (L := 2048) (by have q := Int.ediv_le_self (a := val vs) (gcdI T G) HNN.out.2.2.2; have := HL.out; omega); omega) h2.2.2.1 h9.2.2.1); rw [h2.2.2.2, h9.2.2.2] at e; exact at7 HK7.out hw e : Calls Try.prog 27 #[.slice a2 z2.length c2, .slice a9 z9.length c9] ww _))
    have HTL2 := hid (fun (ww : World) (hb : Below X.heap.size X ww) (a8 : Option Addr) (z8 : List Int) (c8 : Nat) (a10 : Option Addr) (z10 : List Int) (c10 : Nat) (g1 : One X ww (.slice a8 z8.length c8) z8 (T / gcdI T G)) (g2 : One X ww (.slice a10 z10.length c10) z10 (rA * (val vs / gcdI T G))) (hc : Cut X (.slice a8 z8.length c8) (.slice a10 z10.length c10) ww) => rtold_cut2 (n := k6) (q := rq n xs ys + rq m us vs) hb g1 g2 hc HAP.out.1 HAP.out.2.1 HAP.out.2.2)
    have hq0 : w.heap.size + 1 + 1 ≠ w.heap.size := by omega
    have hq2 : ¬ w.heap.size + 1 + 1 = p := by have := HPW.out; omega
    go_wp2_with fail
    go_region_held3 (fun V : World => (V.cell? ⟨w.heap.size, 0, none⟩ = some (.bool n) ∧ V.cell? ⟨w.heap.size, 1, none⟩ = some (.slice a xs.length ca) ∧ V.cell? ⟨w.heap.size, 2, none⟩ = some (.slice b ys.length cb) ∧ V.cell? ⟨w.heap.size + 1, 0, none⟩ = some (.bool m) ∧ V.cell? ⟨w.heap.size + 1, 1, none⟩ = some (.slice c us.length cc) ∧ V.cell? ⟨w.heap.size + 1, 2, none⟩ = some (.slice d vs.length cd)) ∧ V.cell? ⟨p, 0, none⟩ = some (.bool k6) ∧ V.cell? ⟨p, 1, none⟩ = some (.slice a6 z6.length c6)) (first | exact hs11 | exact hs10 | exact hs9 | exact hs8 | exact hs0 | (simp [hs11, World.cell?_setCell_far, hq0, hq2]))
      (first
        | (go_at_call 28; with_reducible refine Calls.mono (HTL2.out _ (bt HB7.out HE10.out.2.2.2) _ _ _ _ _ _ ((HE8.out.1.later HS9.out).later HS10.out) HE10.out.1 (cut_two hb7d.size HS8.out.size (Nat.le_trans HS9.out.size HS10.out.size) HE8.out.2.1 (lies_low HE10.out.2.1 HS9.out.size))) ?_; rintro e w11 ⟨k9, a11, z11, c11, a12, z12, c12, code, rfl, HE11, hb11, HS11⟩; obtain ⟨y0, y1, y2, f0, f1, f2⟩ := res_box3 HZ.out hb11; have hs11 := HK7.out w11 (bt HE10.out.2.2.2 HS11.out))
        | (go_at_call 27; with_reducible refine Calls.mono (HPR.out _ HE9.out.2.2.2 _ _ _ ((HO7.out.2.1.later HS8.out).later HS9.out) HE9.out.1) ?_; rintro e w10 ⟨a10, z10, c10, rfl, HE10, hs10, HS10⟩)
        | (go_at_call 25; with_reducible refine Calls.mono (HQV.out _ HE8.out.2.2.2 (HO7.out.1.later HS8.out)) ?_; rintro e w9 ⟨a9, z9, c9, rfl, HE9, hs9, HS9⟩)
        | (go_at_call 25; with_reducible refine Calls.mono (HQ6.out _ HBR.out.drew HO7.out.1 HO7.out.2.2) ?_; rintro e w8 ⟨a8, z8, c8, rfl, HE8, hs8, HS8⟩))
    all_goals
      have HBW := hid (bt HB.out hb11)
      have HR := hid HE11.out
      clear HK HK7 HQ6 HQV HPR HTL2 HE8 HE9 HE10 HE11 HS8 HS9 HS10 HS11 HO7 hs0 hs8 hs9 hs10 hs11 hb7d hb11 HAP HBX HBX7 HBR HB7 HBc
      go_wp2_with fail
      refine bodyPost_ret (v := .tuple #[.agg #[.bool k9, .slice a11 z11.length c11, .slice a12 z12.length c12], .int .i64 code]) (by simp [results, Try.results13, go_sem, y0, y1, y2]) rfl ?_
      exact RToldA.put HR.out (w.heap.size + 1 + 1) HXS.out (by omega) HBW.out _ _ _
end Go.Proofs.Ytpehpflgfkdiaaa

/- ratio.Sum of any list of fractions. -/
namespace Go.Proofs.Ytpehpflgfkdiaaa
open Go.RowKit
set_option linter.unusedVariables false

/-- The total in its box, after j of them. -/
def Tot (bb : Bool) (w : World) (N : Nat → Bool) (U Y : Nat → List Int) (tb j : Nat) (wq : World) : Prop :=
  ∃ n qa za ka qb zb kb, Box wq tb 26 #[.bool n, .slice qa (List.length za) ka, .slice qb (List.length zb) kb] ∧ wq.ownsRow w.heap.size 36 1 (.slice qa za.length ka) za.length (za.map (Value.int .u32)) ∧ wq.ownsRow w.heap.size 36 1 (.slice qb zb.length kb) zb.length (zb.map (Value.int .u32)) ∧ Wd za ∧ Wd zb ∧ rchk n za zb = 0 ∧ rq n za zb = rsums N U Y j ∧ (∀ i, i < j → ¬ rlong (rsums N U Y (i + 1))) ∧ (bb = true → ((Value.slice qa za.length ka).ownBlock = none ∨ (Value.slice qa za.length ka).ownBlock ≠ (Value.slice qb zb.length kb).ownBlock))
theorem cut_apart {w w' : World} {v u : Value} (h : Cut w v u w') : v.ownBlock = none ∨ v.ownBlock ≠ u.ownBlock := by
  obtain ⟨c, _, _, h1, h2⟩ := h
  cases e1 : v.ownBlock with
  | none => exact .inl rfl
  | some x =>
    right
    intro e
    have a := h1 x e1
    have b := h2 x e.symm
    omega
theorem rchk_zero : rchk false [] [1] = 0 := by
  refine rchk_good (by simp) (by simp) Trimmed.nil (show Trimmed [1] by unfold Trimmed; decide) (by simp) (.inl rfl) ?_
  decide
theorem rq_zero : rq false [] [1] = 0 := by
  simp [rq, wval, val, valTo]

set_option maxHeartbeats 3200000 in
set_option maxRecDepth 100000 in
theorem rSum_any (g o m cp : Nat) (N : Nat → Bool) (A : Nat → Option Addr) (C : Nat → Nat) (U : Nat → List Int) (B : Nat → Option Addr) (D : Nat → Nat) (Y : Nat → List Int) (w : World) (sa : Option Addr) (h : FrM w sa g o m N A C U B D Y) (hm : m ≤ 1000) (hcp : m ≤ cp) :
    Calls Try.prog 5 #[.slice sa m cp] w fun x w' => ∃ n v xs u ys err loc, x = .returned (.tuple #[.agg #[.bool n, v, u], .agg #[.int .i64 err, .int .i64 loc]]) ∧ w'.ownsRow w.heap.size 36 1 v xs.length (xs.map (Value.int .u32)) ∧ w'.ownsRow w.heap.size 36 1 u ys.length (ys.map (Value.int .u32)) ∧ RSum m (fun j => rchk (N j) (U j) (Y j)) (rsums N U Y) n xs ys err loc ∧ Below w.heap.size w w' ∧ Hid (v.ownBlock = none ∨ v.ownBlock ≠ u.ownBlock) := by
  have HBX : Hid (Below w.heap.size w ((w.alloc (.cells #[.bool false, .slice none 0 0, .slice none 0 0] 26)).alloc (.cells #[.int .i64 0, .int .i64 0] 29))) := bt (alloc_later _ _) (alloc_later _ _)
  have HZ : Hid (Box ((w.alloc (.cells #[.bool false, .slice none 0 0, .slice none 0 0] 26)).alloc (.cells #[.int .i64 0, .int .i64 0] 29)) w.heap.size 26 #[.bool false, .slice none 0 0, .slice none 0 0]) := (Box.made w _ _).later (alloc_later _ _) (by simp)
  have HF : Hid (Box ((w.alloc (.cells #[.bool false, .slice none 0 0, .slice none 0 0] 26)).alloc (.cells #[.int .i64 0, .int .i64 0] 29)) (w.heap.size + 1) 29 #[.int .i64 0, .int .i64 0]) := by
    have e := Box.made (w.alloc (.cells #[.bool false, .slice none 0 0, .slice none 0 0] 26)) 29 #[.int .i64 0, .int .i64 0]
    simp at e
    exact e
  have HL := hid (h.later HBX.out)
  clear h
  go_enter Try.func5, Try.ntmps5
  go_wp2_with fail
  generalize ((w.alloc (.cells #[.bool false, .slice none 0 0, .slice none 0 0] 26)).alloc (.cells #[.int .i64 0, .int .i64 0] 29)) = X at *
  go_loopw [13] (fun t wr => ∃ k : Nat, k ≤ m ∧ t = .int .i64 k ∧ Hid ((∀ i, i < k → rchk (N i) (U i) (Y i) = 0) ∧ Below X.heap.size X wr)) (fun t _ => m - (intOf t).toNat)
  case atStart => exact ⟨0, Nat.zero_le _, rfl, fun i hi => absurd hi (Nat.not_lt_zero _), Below.refl _ _⟩
  case round =>
    obtain ⟨k, hk, rfl, HI⟩ := hrel
    by_cases hlt : k < m
    · obtain ⟨hsa, hLL⟩ := (HL.out.later HI.out.2).of hlt
      subst hsa
      have HLw := hid hLL
      clear hLL
      obtain ⟨e0, e1, e2⟩ := HLw.out.cell k hlt
      have HSx := hid (HLw.out.slx k hlt)
      have HSy := hid (HLw.out.sly k hlt)
      obtain ⟨er, her⟩ : ∃ e, rchk (N k) (U k) (Y k) = e := ⟨_, rfl⟩
      have HER := hid her
      have hal := alloc_later wr (.cells #[.bool (N k), .slice (A k) (U k).length (C k), .slice (B k) (Y k).length (D k)] 26)
      have HC := hid (rcheck_any (N k) _ (U k) _ (Y k) (wr.alloc (.cells #[.bool (N k), .slice (A k) (U k).length (C k), .slice (B k) (Y k).length (D k)] 26)) (HSx.out.later hal) (HSy.out.later hal))
      rw [her] at HC
      have HB1 := hid (bt HI.out.2 hal)
      have hk0 : (0 : Int) ≤ ↑k := by omega
      have hk1 : (↑k : Int) < ↑m := by omega
      clear hal her HLw HSx HSy
      by_cases hz : er = 0
      · subst hz
        go_wp2_with fail
        refine Calls.mono HC.out ?_
        generalize wr.alloc (.cells #[.bool (N k), .slice (A k) (U k).length (C k), .slice (B k) (Y k).length (D k)] 26) = V at *
        rintro e w1 ⟨rfl, hb1⟩
        have HR : Hid ((∀ i, i < k + 1 → rchk (N i) (U i) (Y i) = 0) ∧ Below X.heap.size X w1) := ⟨fun i hi => by
          by_cases c : i = k
          · subst c; exact HER.out
          · exact HI.out.1 i (by omega), bt HB1.out hb1⟩
        clear hb1 HC e0 e1 e2
        go_wp2_with fail
        go_roundw
        case rel => exact ⟨k + 1, by omega, by go_num, HR⟩
        case measure => simp [intOf]; omega
      · have h1 : (er != 0) = true := bne_iff_ne.2 hz
        have h2 : (er == 0) = false := beq_eq_false_iff_ne.2 hz
        have HNZ := hid hz
        clear hz
        go_wp2_with fail
        refine Calls.mono HC.out ?_
        generalize wr.alloc (.cells #[.bool (N k), .slice (A k) (U k).length (C k), .slice (B k) (Y k).length (D k)] 26) = V at *
        rintro e w1 ⟨rfl, hb1⟩
        have HBW := hid (bt HB1.out hb1)
        obtain ⟨r0, r1, r2, f0, f1, f2⟩ := res_box3 HZ.out HBW.out
        have HFw := hid (HF.out.later HBW.out HF.out.lt)
        have q0 := HFw.out.cell 0
        have q1 := HFw.out.cell 1
        have y0 := HFw.out.free 0
        have y1 := HFw.out.free 1
        have HBN := hid (bt HBX.out HBW.out)
        clear hb1 HC e0 e1 e2
        go_wp2_with fail
        refine bodyPost_ret (v := .tuple #[.agg #[.bool false, .slice none 0 0, .slice none 0 0], .agg #[.int .i64 er, .int .i64 (k : Int)]]) (by simp [results, Try.results5, go_sem, r0, r1, r2, q0, q1]) rfl ?_
        exact ⟨false, _, [], _, [], er, (k : Int), rfl, World.ownsRow_nil _ _ _ _, World.ownsRow_nil _ _ _ _, ⟨Wd.nil, Wd.nil, .inl ⟨k, hlt, HI.out.1, (fun e => HNZ.out (HER.out.symm.trans e)), rfl, rfl, rfl, HER.out.symm, rfl⟩⟩, below_put2 (below_put3 HBN.out _ (Nat.le_refl _) _ _ _) _ (Nat.le_succ _) _ _, hid (.inl rfl)⟩
    · have hkm : k = m := by omega
      subst hkm
      have HEA := hid HI.out.1
      have HBI := hid HI.out.2
      clear HI hlt hk
      have HO := of_any 1 wr (by omega) (by omega)
      rw [show sz [(1 : Int) % 4294967296, 1 / 4294967296] = 1 from by decide, show trimmed [(1 : Int) % 4294967296, 1 / 4294967296] = [1] from by decide] at HO
      have HOO := hid HO
      clear HO
      go_wp2_with fail
      refine Calls.mono HOO.out ?_
      clear HOO
      rintro e w1 ⟨v1, rfl, ho1, hb1⟩
      obtain ⟨q1, d1, hs⟩ := own_slice' ho1
      subst hs
      have HO1 := hid ho1
      have HB1 := hid hb1
      clear ho1 hb1
      go_wp2_with fail
      have HT0 : Hid (Tot true w N U Y w1.heap.size 0 (w1.alloc (.cells #[.bool false, .slice none 0 0, .slice q1 1 d1] 26))) := ⟨false, none, [], 0, q1, [1], d1, Box.made w1 _ _, World.ownsRow_nil _ _ _ _, owns_later (owns_base HO1.out (bt HBX.out HBI.out).size) (alloc_later _ _), Wd.nil, Wd.one (by decide), rchk_zero, rq_zero, fun i hi => absurd hi (Nat.not_lt_zero _), fun _ => .inl rfl⟩
      have HBA : Hid (Below w1.heap.size w1 (w1.alloc (.cells #[.bool false, .slice none 0 0, .slice q1 1 d1] 26))) := alloc_later _ _
      have HLw := hid (HL.out.later (bt HBI.out HB1.out))
      have HZw := hid (HZ.out.later (bt HBI.out HB1.out) HZ.out.lt)
      have HFw := hid (HF.out.later (bt HBI.out HB1.out) HF.out.lt)
      have HBW := hid (bt HBX.out (bt HBI.out HB1.out))
      clear HO1 HB1 HBI HBX HL HZ HF
      generalize (w1.alloc (.cells #[.bool false, .slice none 0 0, .slice q1 1 d1] 26)) = V1 at *
      go_loopw [31] (fun t wq => ∃ j : Nat, j ≤ k ∧ t = .int .i64 j ∧ Hid (Tot true w N U Y w1.heap.size j wq ∧ Below w1.heap.size w1 wq)) (fun t _ => k - (intOf t).toNat)
      case atStart => exact ⟨0, Nat.zero_le _, rfl, HT0.out, HBA.out⟩
      case round =>
        obtain ⟨j, hj, rfl, HI⟩ := hrel
        obtain ⟨n, qa, za, ka, qb, zb, kb, bx, oa, ob, wa, wb, hck, hq, hnl, hap⟩ := HI.out.1
        have HAP := hid (hap rfl)
        clear hap
        have HBQ := hid HI.out.2
        have HQQ := hid (And.intro hck (And.intro hq hnl))
        have HWW := hid (And.intro wa wb)
        by_cases hlt : j < k
        · obtain ⟨hsa, hLL⟩ := (HLw.out.later HBQ.out).of hlt
          subst hsa
          have HLq := hid hLL
          clear hLL
          obtain ⟨e0, e1, e2⟩ := HLq.out.cell j hlt
          have hal := alloc_later wr (.cells #[.bool (N j), .slice (A j) (U j).length (C j), .slice (B j) (Y j).length (D j)] 26)
          have HBx := hid (bx.later hal bx.lt)
          obtain ⟨t0, t1, t2, tf0, tf1, tf2⟩ := res_box3 HBx.out (Below.refl _ _)
          obtain ⟨la, lb, ta, tb, zb0, _, ga⟩ := rchk_ok hck
          obtain ⟨lu, lv, tu, tv, yv0, _, gu⟩ := rchk_ok (HEA.out j hlt)
          have wu := (HLq.out.slx j hlt).wd
          have wv := (HLq.out.sly j hlt).wd
          have HC := radd_any n qa ka za qb kb zb (N j) (A j) (C j) (U j) (B j) (D j) (Y j) (wr.alloc (.cells #[.bool (N j), .slice (A j) (U j).length (C j), .slice (B j) (Y j).length (D j)] 26)) ((Sl.own oa wa).later hal) ((Sl.own ob wb).later hal) ((HLq.out.slx j hlt).later hal) ((HLq.out.sly j hlt).later hal) la lb lu lv ta tb tu tv (val_pos' wb tb zb0) (val_pos' wv tv yv0) ga gu
          rw [hq, show rsums N U Y j + rq (N j) (U j) (Y j) = rsums N U Y (j + 1) from rfl] at HC
          have HCC := hid HC
          have HB1 := hid (bt HBQ.out hal)
          have hk0 : (0 : Int) ≤ ↑j := by omega
          have hk1 : (↑j : Int) < ↑k := by omega
          clear HC hal la lb ta tb zb0 ga lu lv tu tv yv0 gu wu wv bx oa ob wa wb hck hq hnl HLq HI
          go_wp2_with fail
          refine Calls.mono HCC.out ?_
          clear HCC
          generalize (wr.alloc (.cells #[.bool (N j), .slice (A j) (U j).length (C j), .slice (B j) (Y j).length (D j)] 26)) = V at *
          rintro e w2 ⟨n', v', xs', u', ys', code, rfl, o', p', tt, hb, hct⟩
          obtain ⟨a', c', hs⟩ := own_slice' o'
          subst hs
          obtain ⟨b', d', hs⟩ := own_slice' p'
          subst hs
          have HBy := hid (HBx.out.later hb HBx.out.lt)
          have HB2 := hid (bt HB1.out hb)
          have HOO := hid (And.intro (owns_base o' (bt HBW.out HB1.out).size) (owns_base p' (bt HBW.out HB1.out).size))
          have HTT := hid tt
          have HCT := hid (cut_apart hct)
          clear hct
          clear t0 t1 t2 tf0 tf1 tf2 e0 e1 e2
          obtain ⟨t0, t1, t2, tf0, tf1, tf2⟩ := res_box3 HBy.out (Below.refl _ _)
          clear o' p' tt hb HBx HB1
          by_cases hlg : rlong (rsums N U Y (j + 1))
          · obtain ⟨rfl, rfl, rfl, rfl⟩ := HTT.out.long rfl hlg
            have HLG := hid hlg
            clear hlg
            obtain ⟨r0, r1, r2, f0, f1, f2⟩ := res_box3 HZw.out HB2.out
            have HFq := hid (HFw.out.later HB2.out HFw.out.lt)
            have s0 := HFq.out.cell 0
            have s1 := HFq.out.cell 1
            have y0 := HFq.out.free 0
            have y1 := HFq.out.free 1
            have m1 : w.heap.size ≠ w1.heap.size := by have := HZw.out.lt; omega
            have m2 : w.heap.size + 1 ≠ w1.heap.size := by have := HFw.out.lt; omega
            have m3 : w1.heap.size ≠ w.heap.size := fun e => m1 e.symm
            have m4 : w1.heap.size ≠ w.heap.size + 1 := fun e => m2 e.symm
            have HBN := hid (bt HBW.out HB2.out)
            have hw1 := HBW.out.size
            go_wp2_with fail
            refine bodyPost_ret (v := .tuple #[.agg #[.bool false, .slice none 0 0, .slice none 0 0], .agg #[.int .i64 3, .int .i64 (j : Int)]]) (by simp [results, Try.results5, go_sem, r0, r1, r2, s0, s1]) rfl ?_
            exact ⟨false, _, [], _, [], 3, (j : Int), rfl, World.ownsRow_nil _ _ _ _, World.ownsRow_nil _ _ _ _, ⟨Wd.nil, Wd.nil, .inr (.inl ⟨HEA.out, j, hlt, HQQ.out.2.2, HLG.out, rfl, rfl, rfl, rfl, rfl⟩)⟩, below_put2 (below_put3 (below_put3 HBN.out _ hw1 _ _ _) _ (Nat.le_refl _) _ _ _) _ (Nat.le_succ _) _ _, hid (.inl rfl)⟩
          · obtain ⟨hc0, hck', hq'⟩ := HTT.out.good rfl hlg
            subst hc0
            have HR : Hid (Tot true w N U Y w1.heap.size (j + 1) (((w2.setCell ⟨w1.heap.size, 0, none⟩ (.bool n')).setCell ⟨w1.heap.size, 1, none⟩ (.slice a' xs'.length c')).setCell ⟨w1.heap.size, 2, none⟩ (.slice b' ys'.length d')) ∧ Below w1.heap.size w1 (((w2.setCell ⟨w1.heap.size, 0, none⟩ (.bool n')).setCell ⟨w1.heap.size, 1, none⟩ (.slice a' xs'.length c')).setCell ⟨w1.heap.size, 2, none⟩ (.slice b' ys'.length d'))) := by
              refine ⟨⟨n', a', xs', c', b', ys', d', ((HBy.out.set 0 _).set 1 _).set 2 _, own_put3 HOO.out.1 _ (own_ne_box HOO.out.1 HBy.out (by decide)) _ _ _, own_put3 HOO.out.2 _ (own_ne_box HOO.out.2 HBy.out (by decide)) _ _ _, HTT.out.wx, HTT.out.wy, hck', hq', fun i hi => ?_, fun _ => HCT.out⟩, below_put3 HB2.out _ (Nat.le_refl _) _ _ _⟩
              by_cases c : i = j
              · subst c; exact hlg
              · exact HQQ.out.2.2 i (by omega)
            clear hlg hck' hq' HTT HOO HBy HB2
            go_wp2_with fail
            go_roundw
            case rel => exact ⟨j + 1, by omega, by go_num, HR⟩
            case measure => simp [intOf]; omega
        · have hjk : j = k := by omega
          subst hjk
          obtain ⟨t0, t1, t2, tf0, tf1, tf2⟩ := res_box3 bx (Below.refl _ _)
          have hzq := HZw.out.later HBQ.out HZw.out.lt
          have hfq := HFw.out.later HBQ.out HFw.out.lt
          obtain ⟨r0, r1, r2, f0, f1, f2⟩ := res_box3 hzq (Below.refl _ _)
          have s0 := hfq.cell 0
          have s1 := hfq.cell 1
          have y0 := hfq.free 0
          have y1 := hfq.free 1
          have HOA := hid (own_put3 oa _ (own_ne_box oa hzq (by decide)) (.bool n) (.slice qa za.length ka) (.slice qb zb.length kb))
          have HOB := hid (own_put3 ob _ (own_ne_box ob hzq (by decide)) (.bool n) (.slice qa za.length ka) (.slice qb zb.length kb))
          have hfq2 := ((hfq.other ⟨w.heap.size, 0, none⟩ (.bool n) (by simp)).other ⟨w.heap.size, 1, none⟩ (.slice qa za.length ka) (by simp)).other ⟨w.heap.size, 2, none⟩ (.slice qb zb.length kb) (by simp)
          have HOA2 := hid (own_put2 HOA.out _ (own_ne_box HOA.out hfq2 (by decide)) (.int .i64 0) (.int .i64 0))
          have HOB2 := hid (own_put2 HOB.out _ (own_ne_box HOB.out hfq2 (by decide)) (.int .i64 0) (.int .i64 0))
          have HBN := hid (bt HBW.out HBQ.out)
          clear hzq hfq hfq2 HOA HOB oa ob bx
          go_wp2_with fail
          refine bodyPost_ret (v := .tuple #[.agg #[.bool n, .slice qa za.length ka, .slice qb zb.length kb], .agg #[.int .i64 0, .int .i64 0]]) (by simp [results, Try.results5, go_sem, r0, r1, r2, s0, s1]) rfl ?_
          exact ⟨n, _, za, _, zb, 0, 0, rfl, HOA2.out, HOB2.out, ⟨HWW.out.1, HWW.out.2, .inr (.inr ⟨HEA.out, HQQ.out.2.2, HQQ.out.1, HQQ.out.2.1, rfl, rfl⟩)⟩, below_put2 (below_put3 HBN.out _ (Nat.le_refl _) _ _ _) _ (Nat.le_succ _) _ _, HAP⟩

end Go.Proofs.Ytpehpflgfkdiaaa

/- The document's own fractions: same words; Check. -/
namespace Go.Proofs.Ytpehpflgfkdiaaa
open Go.RowKit
set_option linter.unusedVariables false

set_option maxHeartbeats 800000 in
set_option maxRecDepth 100000 in
theorem same3_any (a : Option Addr) (n cap : Nat) (xs : List Int) (b : Option Addr) (m cap' : Nat) (ys : List Int) (w : World) (h : Reads w w.heap.size a n cap xs) (g : Reads w w.heap.size b m cap' ys) (hn : n ≤ 281474976710656) (hm : m ≤ 281474976710656) :
    Calls Try.prog 31 #[.slice a n cap, .slice b m cap'] w fun e w' => e = .returned (.bool (decide (xs = ys))) ∧ Below w.heap.size w w' := by
  obtain ⟨hl, hw, hc, hcap⟩ := h
  obtain ⟨gl, gw, gc, gcap⟩ := g
  by_cases hnm : n = m
  · subst hnm
    have htt : ((n : Int) != (n : Int)) = false := by simp
    rcases hc with h0 | ⟨b1, o1, rfl, hb1, hc⟩
    · subst h0
      have hx : xs = [] := List.eq_nil_of_length_eq_zero hl
      have hy : ys = [] := List.eq_nil_of_length_eq_zero gl
      subst hx; subst hy
      go_enter Try.func31, Try.ntmps31
      go_wp2
      refine wp_loop_rounds 1 ?_
      rw [rounds_succ]
      go_wp2
      go_ret
      exact ⟨rfl, Below.refl _ _⟩
    · rcases gc with g0 | ⟨b2, o2, rfl, hb2, gc⟩
      · subst g0
        have hx : xs = [] := List.eq_nil_of_length_eq_zero hl
        have hy : ys = [] := List.eq_nil_of_length_eq_zero gl
        subst hx; subst hy
        go_enter Try.func31, Try.ntmps31
        go_wp2
        refine wp_loop_rounds 1 ?_
        rw [rounds_succ]
        go_wp2
        go_ret
        exact ⟨rfl, Below.refl _ _⟩
      · have HL : Hid (xs.length = n ∧ ys.length = n) := ⟨hl, gl⟩
        clear hl gl
        go_enter Try.func31, Try.ntmps31
        go_wp2
        go_loopw [5] (fun t wr => ∃ k : Nat, k ≤ n ∧ t = .int .i64 k ∧ xs.take k = ys.take k ∧ Below w.heap.size w wr) (fun t _ => n - (intOf t).toNat)
        case atStart => exact ⟨0, Nat.zero_le _, rfl, rfl, Below.refl _ _⟩
        case round =>
          obtain ⟨k, hk, rfl, hs, hbel⟩ := hrel
          have HS : Hid (xs.take k = ys.take k) := hs
          clear hs
          by_cases hlt : k < n
          · have hcx : wr.cell? ⟨b1, o1 + k, none⟩ = some (.int .u32 (xs[k]?.getD 0)) := (hbel.cell (p := ⟨b1, o1 + k, none⟩) hb1).trans (hc k hlt)
            have hcy : wr.cell? ⟨b2, o2 + k, none⟩ = some (.int .u32 (ys[k]?.getD 0)) := (hbel.cell (p := ⟨b2, o2 + k, none⟩) hb2).trans (gc k hlt)
            by_cases he : xs[k]?.getD 0 = ys[k]?.getD 0
            · have hne : (xs[k]?.getD 0 != ys[k]?.getD 0) = false := by simp [he]
              have HE : Hid (xs[k]?.getD 0 = ys[k]?.getD 0) := he
              clear he
              go_wp2
              go_region

              all_goals go_wp2

              all_goals
                go_roundw
                case rel => exact ⟨k + 1, by omega, by go_num, take_same HS.out (by have := HL.out; omega) (by have := HL.out; omega) HE.out, hbel.drew⟩
                case measure => simp [intOf]; omega
            · have hne : (xs[k]?.getD 0 != ys[k]?.getD 0) = true := by simp [he]
              have HE : Hid (¬ xs[k]?.getD 0 = ys[k]?.getD 0) := he
              clear he
              go_wp2
              go_region
              all_goals go_wp2
              all_goals
                go_ret
                exact ⟨ret_bool (decide_eq_false fun e => HE.out (by rw [e])).symm, hbel.drew⟩
          · have hkn : k = n := by omega
            subst hkn
            go_wp2
            go_ret
            exact ⟨ret_bool (decide_eq_true (by have := HS.out; have hl := HL.out; rwa [List.take_of_length_le (by omega), List.take_of_length_le (by omega)] at this)).symm, hbel⟩
  · have hne : ((n : Int) != (m : Int)) = true := by simp; omega
    have hd : decide (xs = ys) = false := decide_eq_false fun e => hnm (by rw [← hl, ← gl, e])
    have HD : Hid (decide (xs = ys) = false) := hd
    clear hd hc gc
    go_enter Try.func31, Try.ntmps31
    go_wp2
    go_ret
    exact ⟨ret_bool HD.out.symm, Below.refl _ _⟩

theorem same3_sl (v u : Value) (xs ys : List Int) (w : World) (h : Sl w v xs) (g : Sl w u ys) (hn : xs.length ≤ 281474976710656) (hm : ys.length ≤ 281474976710656) :
    Calls Try.prog 31 #[v, u] w fun e w' => e = .returned (.bool (decide (xs = ys))) ∧ Below w.heap.size w w' := by
  obtain ⟨a, ca, rfl, hr⟩ := h
  obtain ⟨b, cb, rfl, gr⟩ := g
  exact same3_any a _ ca xs b _ cb ys w hr gr hn hm
theorem rchk_long {n : Bool} {xs ys : List Int} (h : 2048 < xs.length ∨ 2048 < ys.length) : rchk n xs ys = 3 := by unfold rchk; rw [if_pos (by omega)]
theorem rchk_rough {n : Bool} {xs ys : List Int} (l1 : xs.length ≤ 2048) (l2 : ys.length ≤ 2048) (h : ¬ rform n xs ys) : rchk n xs ys = 11 := by unfold rchk; rw [if_neg (by omega), if_neg h]
theorem Tells.len' {e t : Int} {zs : List Int} {c : Int} (h : Tells e t zs c) : zs.length ≤ 8192 := by
  by_cases he : e = 0
  · by_cases hl : wide ≤ t
    · rw [(h.long he hl).2]; simp
    · have e1 := (h.good he (by omega)).2
      exact len_of_lt h.wd h.trim (by rw [e1]; exact Int.not_le.1 hl)
  · rw [(h.bad he).2]; simp
theorem rform_trim {n : Bool} {xs ys : List Int} (h : rform n xs ys) : sz xs = xs.length ∧ sz ys = ys.length := ⟨(chk_ok (both_ok h.1).1).2, (chk_ok (both_ok h.1).2).2⟩

set_option maxHeartbeats 1600000 in
set_option maxRecDepth 100000 in
theorem check3_any (n : Bool) (a : Option Addr) (ca : Nat) (xs : List Int) (b : Option Addr) (cb : Nat) (ys : List Int) (w : World) (sx : Sl w (.slice a xs.length ca) xs) (sy : Sl w (.slice b ys.length cb) ys) (lx : xs.length ≤ 281474976710656) (ly : ys.length ≤ 281474976710656) :
    Calls Try.prog 14 #[.agg #[.bool n, .slice a xs.length ca, .slice b ys.length cb]] w fun e w' => e = .returned (.int .i64 (rchk n xs ys)) ∧ Below w.heap.size w w' := by
  have wx := sx.wd
  have wy := sy.wd
  have HB := hid (alloc_later w (.cells #[.bool n, .slice a xs.length ca, .slice b ys.length cb] 26))
  have HN := hid (Box.made w 26 #[.bool n, .slice a xs.length ca, .slice b ys.length cb])
  have HS := hid (And.intro (sx.later HB.out) (sy.later HB.out))
  have HR := hid (Below.refl (w.alloc (.cells #[.bool n, .slice a xs.length ca, .slice b ys.length cb] 26)).heap.size (w.alloc (.cells #[.bool n, .slice a xs.length ca, .slice b ys.length cb] 26)))
  have HT1 := hid (fun ww (hb : Below (w.alloc (.cells #[.bool n, .slice a xs.length ca, .slice b ys.length cb] 26)).heap.size (w.alloc (.cells #[.bool n, .slice a xs.length ca, .slice b ys.length cb] 26)) ww) => trimmed3_any _ xs ww (HS.out.1.later hb) lx)
  have HT2 := hid (fun ww (hb : Below (w.alloc (.cells #[.bool n, .slice a xs.length ca, .slice b ys.length cb] 26)).heap.size (w.alloc (.cells #[.bool n, .slice a xs.length ca, .slice b ys.length cb] 26)) ww) => trimmed3_any _ ys ww (HS.out.2.later hb) ly)
  clear sx sy
  by_cases h1 : 2048 < xs.length
  · rw [rchk_long (.inl h1)]
    have h1' : (2048 : Int) < (xs.length : Int) := by omega
    clear h1
    go_enter Try.func14, Try.ntmps14
    go_wp2_with fail
    go_ret
    exact ⟨rfl, HB.out⟩
  · have h1' : ¬ (2048 : Int) < (xs.length : Int) := by omega
    by_cases h2 : 2048 < ys.length
    · rw [rchk_long (.inr h2)]
      have h2' : (2048 : Int) < (ys.length : Int) := by omega
      clear h1 h2
      go_enter Try.func14, Try.ntmps14
      go_wp2_with fail
      go_ret
      exact ⟨rfl, HB.out⟩
    · have h2' : ¬ (2048 : Int) < (ys.length : Int) := by omega
      have HL : Hid (xs.length ≤ 2048 ∧ ys.length ≤ 2048) := ⟨by omega, by omega⟩
      clear h1 h2
      by_cases h3 : sz xs = xs.length
      · rw [decide_eq_true h3] at HT1
        by_cases h4 : sz ys = ys.length
        · rw [decide_eq_true h4] at HT2
          by_cases h5 : ys.length = 0
          · rw [rchk_rough HL.out.1 HL.out.2 (fun h => by have := h.2.1; omega)]
            have h5' : ((ys.length : Int) == 0) = true := by rw [h5]; rfl
            clear h3 h4 h5
            go_enter Try.func14, Try.ntmps14
            go_wp2_with fail
            refine Calls.mono (HT1.out _ HR.out) ?_
            generalize (w.alloc (.cells #[.bool n, .slice a xs.length ca, .slice b ys.length cb] 26)) = X at *
            rintro e w1 ⟨rfl, hb1⟩
            obtain ⟨p0, p1, p2, _⟩ := res_box3 HN.out hb1
            have HC := hid (HT2.out w1 hb1)
            have HB1 := hid hb1
            clear hb1
            go_wp2_with fail
            refine Calls.mono HC.out ?_
            rintro e w2 ⟨rfl, hb2⟩
            have HB2 := hid (bt HB1.out hb2)
            clear hb2 p0 p1 p2
            obtain ⟨p0, p1, p2, _⟩ := res_box3 HN.out HB2.out
            go_wp2_with fail
            go_ret
            exact ⟨rfl, bt HB.out HB2.out⟩
          · have h5' : ((ys.length : Int) == 0) = false := beq_eq_false_iff_ne.2 (by omega)
            have HBO : Hid (both xs ys = 0) := both_good (chk_good (by have := HL.out; omega) h3) (chk_good (by have := HL.out; omega) h4)
            have HGW := hid (gcd_wide wx wy HBO.out)
            by_cases h6 : xs.length = 0
            · have h6' : ((xs.length : Int) == 0) = true := by rw [h6]; rfl
              cases n with
              | true =>
                rw [rchk_rough HL.out.1 HL.out.2 (fun h => h.2.2.1.elim (fun e => by cases e) (fun e => by omega))]
                clear h3 h4 h5 h6
                go_enter Try.func14, Try.ntmps14
                go_wp2_with fail
                refine Calls.mono (HT1.out _ HR.out) ?_
                generalize (w.alloc (.cells #[.bool true, .slice a xs.length ca, .slice b ys.length cb] 26)) = X at *
                rintro e w1 ⟨rfl, hb1⟩
                obtain ⟨p0, p1, p2, _⟩ := res_box3 HN.out hb1
                have HC := hid (HT2.out w1 hb1)
                have HB1 := hid hb1
                clear hb1
                go_wp2_with fail
                refine Calls.mono HC.out ?_
                rintro e w2 ⟨rfl, hb2⟩
                have HB2 := hid (bt HB1.out hb2)
                clear hb2 p0 p1 p2
                obtain ⟨p0, p1, p2, _⟩ := res_box3 HN.out HB2.out
                go_wp2_with fail
                go_ret
                exact ⟨rfl, bt HB.out HB2.out⟩
              | false =>
                by_cases hg : gcdI (val xs) (val ys) = 1
                · rw [show rchk false xs ys = 0 from rchk_good HL.out.1 HL.out.2 h3 h4 (by omega) (.inl rfl) hg]
                  have HGG : Hid (decide (gcdI (val xs) (val ys) = 1) = true) := decide_eq_true hg
                  clear h3 h4 h5 h6 hg
                  go_enter Try.func14, Try.ntmps14
                  go_wp2_with fail
                  refine Calls.mono (HT1.out _ HR.out) ?_
                  generalize (w.alloc (.cells #[.bool false, .slice a xs.length ca, .slice b ys.length cb] 26)) = X at *
                  rintro e w1 ⟨rfl, hb1⟩
                  obtain ⟨p0, p1, p2, _⟩ := res_box3 HN.out hb1
                  have HC := hid (HT2.out w1 hb1)
                  have HB1 := hid hb1
                  clear hb1
                  go_wp2_with fail
                  refine Calls.mono HC.out ?_
                  rintro e w2 ⟨rfl, hb2⟩
                  have HB2 := hid (bt HB1.out hb2)
                  clear hb2 p0 p1 p2
                  obtain ⟨p0, p1, p2, _⟩ := res_box3 HN.out HB2.out
                  have HG := hid (refGcd_sl _ _ xs ys w2 (HS.out.1.later HB2.out) (HS.out.2.later HB2.out) lx ly)
                  rw [HBO.out] at HG
                  go_wp2_with fail
                  refine Calls.mono HG.out ?_
                  rintro e w3 ⟨v3, z3, c3, rfl, o3, t3, hb3⟩
                  obtain ⟨rfl, hv3⟩ := t3.good rfl HGW.out
                  obtain ⟨a3, k3, hs3⟩ := own_slice' o3
                  subst hs3
                  have HZ3 := hid (And.intro (Sl.own o3 t3.wd) (And.intro t3.trim hv3))
                  have l3 : z3.length ≤ 8192 := t3.len'
                  have HB3 := hid (bt HB2.out hb3)
                  have HO := hid (one3_any w3)
                  clear o3 t3 hv3 hb3 HG HC p0 p1 p2
                  go_wp2_with fail
                  refine Calls.mono HO.out ?_
                  rintro e w4 ⟨g4, rfl, o4, hb4⟩
                  have HQ := hid (same3_sl _ _ z3 [1] w4 (HZ3.out.1.later hb4) (Sl.own o4 (Wd.one (by omega))) (by omega) (by simp))
                  have HEQ : Hid (decide (z3 = [1]) = decide (gcdI (val xs) (val ys) = 1)) := by
                    show _ = _
                    congr 1
                    rw [← HZ3.out.2.2]
                    exact propext (one_iff HZ3.out.1.wd HZ3.out.2.1)
                  rw [HEQ.out, HGG.out] at HQ
                  have HB4 := hid (bt HB3.out hb4)
                  clear o4 hb4 HO HEQ
                  go_wp2_with fail
                  refine Calls.mono HQ.out ?_
                  rintro e w5 ⟨rfl, hb5⟩
                  have HBN := hid (bt HB.out (bt HB4.out hb5))
                  clear hb5
                  go_wp2_with fail
                  go_ret
                  exact ⟨rfl, HBN.out⟩
                · rw [rchk_rough HL.out.1 HL.out.2 (fun h => hg h.2.2.2)]
                  have HGG : Hid (decide (gcdI (val xs) (val ys) = 1) = false) := decide_eq_false hg
                  clear h3 h4 h5 h6 hg
                  go_enter Try.func14, Try.ntmps14
                  go_wp2_with fail
                  refine Calls.mono (HT1.out _ HR.out) ?_
                  generalize (w.alloc (.cells #[.bool false, .slice a xs.length ca, .slice b ys.length cb] 26)) = X at *
                  rintro e w1 ⟨rfl, hb1⟩
                  obtain ⟨p0, p1, p2, _⟩ := res_box3 HN.out hb1
                  have HC := hid (HT2.out w1 hb1)
                  have HB1 := hid hb1
                  clear hb1
                  go_wp2_with fail
                  refine Calls.mono HC.out ?_
                  rintro e w2 ⟨rfl, hb2⟩
                  have HB2 := hid (bt HB1.out hb2)
                  clear hb2 p0 p1 p2
                  obtain ⟨p0, p1, p2, _⟩ := res_box3 HN.out HB2.out
                  have HG := hid (refGcd_sl _ _ xs ys w2 (HS.out.1.later HB2.out) (HS.out.2.later HB2.out) lx ly)
                  rw [HBO.out] at HG
                  go_wp2_with fail
                  refine Calls.mono HG.out ?_
                  rintro e w3 ⟨v3, z3, c3, rfl, o3, t3, hb3⟩
                  obtain ⟨rfl, hv3⟩ := t3.good rfl HGW.out
                  obtain ⟨a3, k3, hs3⟩ := own_slice' o3
                  subst hs3
                  have HZ3 := hid (And.intro (Sl.own o3 t3.wd) (And.intro t3.trim hv3))
                  have l3 : z3.length ≤ 8192 := t3.len'
                  have HB3 := hid (bt HB2.out hb3)
                  have HO := hid (one3_any w3)
                  clear o3 t3 hv3 hb3 HG HC p0 p1 p2
                  go_wp2_with fail
                  refine Calls.mono HO.out ?_
                  rintro e w4 ⟨g4, rfl, o4, hb4⟩
                  have HQ := hid (same3_sl _ _ z3 [1] w4 (HZ3.out.1.later hb4) (Sl.own o4 (Wd.one (by omega))) (by omega) (by simp))
                  have HEQ : Hid (decide (z3 = [1]) = decide (gcdI (val xs) (val ys) = 1)) := by
                    show _ = _
                    congr 1
                    rw [← HZ3.out.2.2]
                    exact propext (one_iff HZ3.out.1.wd HZ3.out.2.1)
                  rw [HEQ.out, HGG.out] at HQ
                  have HB4 := hid (bt HB3.out hb4)
                  clear o4 hb4 HO HEQ
                  go_wp2_with fail
                  refine Calls.mono HQ.out ?_
                  rintro e w5 ⟨rfl, hb5⟩
                  have HBN := hid (bt HB.out (bt HB4.out hb5))
                  clear hb5
                  go_wp2_with fail
                  go_ret
                  exact ⟨rfl, HBN.out⟩
            · have h6' : ((xs.length : Int) == 0) = false := beq_eq_false_iff_ne.2 (by omega)
              by_cases hg : gcdI (val xs) (val ys) = 1
              · rw [show rchk n xs ys = 0 from rchk_good HL.out.1 HL.out.2 h3 h4 (by omega) (.inr (by omega)) hg]
                have HGG : Hid (decide (gcdI (val xs) (val ys) = 1) = true) := decide_eq_true hg
                clear h3 h4 h5 h6 hg
                go_enter Try.func14, Try.ntmps14
                go_wp2_with fail
                refine Calls.mono (HT1.out _ HR.out) ?_
                generalize (w.alloc (.cells #[.bool n, .slice a xs.length ca, .slice b ys.length cb] 26)) = X at *
                rintro e w1 ⟨rfl, hb1⟩
                obtain ⟨p0, p1, p2, _⟩ := res_box3 HN.out hb1
                have HC := hid (HT2.out w1 hb1)
                have HB1 := hid hb1
                clear hb1
                go_wp2_with fail
                refine Calls.mono HC.out ?_
                rintro e w2 ⟨rfl, hb2⟩
                have HB2 := hid (bt HB1.out hb2)
                clear hb2 p0 p1 p2
                obtain ⟨p0, p1, p2, _⟩ := res_box3 HN.out HB2.out
                have HG := hid (refGcd_sl _ _ xs ys w2 (HS.out.1.later HB2.out) (HS.out.2.later HB2.out) lx ly)
                rw [HBO.out] at HG
                go_wp2_with fail
                refine Calls.mono HG.out ?_
                rintro e w3 ⟨v3, z3, c3, rfl, o3, t3, hb3⟩
                obtain ⟨rfl, hv3⟩ := t3.good rfl HGW.out
                obtain ⟨a3, k3, hs3⟩ := own_slice' o3
                subst hs3
                have HZ3 := hid (And.intro (Sl.own o3 t3.wd) (And.intro t3.trim hv3))
                have l3 : z3.length ≤ 8192 := t3.len'
                have HB3 := hid (bt HB2.out hb3)
                have HO := hid (one3_any w3)
                clear o3 t3 hv3 hb3 HG HC p0 p1 p2
                go_wp2_with fail
                refine Calls.mono HO.out ?_
                rintro e w4 ⟨g4, rfl, o4, hb4⟩
                have HQ := hid (same3_sl _ _ z3 [1] w4 (HZ3.out.1.later hb4) (Sl.own o4 (Wd.one (by omega))) (by omega) (by simp))
                have HEQ : Hid (decide (z3 = [1]) = decide (gcdI (val xs) (val ys) = 1)) := by
                  show _ = _
                  congr 1
                  rw [← HZ3.out.2.2]
                  exact propext (one_iff HZ3.out.1.wd HZ3.out.2.1)
                rw [HEQ.out, HGG.out] at HQ
                have HB4 := hid (bt HB3.out hb4)
                clear o4 hb4 HO HEQ
                go_wp2_with fail
                refine Calls.mono HQ.out ?_
                rintro e w5 ⟨rfl, hb5⟩
                have HBN := hid (bt HB.out (bt HB4.out hb5))
                clear hb5
                go_wp2_with fail
                go_ret
                exact ⟨rfl, HBN.out⟩
              · rw [rchk_rough HL.out.1 HL.out.2 (fun h => hg h.2.2.2)]
                have HGG : Hid (decide (gcdI (val xs) (val ys) = 1) = false) := decide_eq_false hg
                clear h3 h4 h5 h6 hg
                go_enter Try.func14, Try.ntmps14
                go_wp2_with fail
                refine Calls.mono (HT1.out _ HR.out) ?_
                generalize (w.alloc (.cells #[.bool n, .slice a xs.length ca, .slice b ys.length cb] 26)) = X at *
                rintro e w1 ⟨rfl, hb1⟩
                obtain ⟨p0, p1, p2, _⟩ := res_box3 HN.out hb1
                have HC := hid (HT2.out w1 hb1)
                have HB1 := hid hb1
                clear hb1
                go_wp2_with fail
                refine Calls.mono HC.out ?_
                rintro e w2 ⟨rfl, hb2⟩
                have HB2 := hid (bt HB1.out hb2)
                clear hb2 p0 p1 p2
                obtain ⟨p0, p1, p2, _⟩ := res_box3 HN.out HB2.out
                have HG := hid (refGcd_sl _ _ xs ys w2 (HS.out.1.later HB2.out) (HS.out.2.later HB2.out) lx ly)
                rw [HBO.out] at HG
                go_wp2_with fail
                refine Calls.mono HG.out ?_
                rintro e w3 ⟨v3, z3, c3, rfl, o3, t3, hb3⟩
                obtain ⟨rfl, hv3⟩ := t3.good rfl HGW.out
                obtain ⟨a3, k3, hs3⟩ := own_slice' o3
                subst hs3
                have HZ3 := hid (And.intro (Sl.own o3 t3.wd) (And.intro t3.trim hv3))
                have l3 : z3.length ≤ 8192 := t3.len'
                have HB3 := hid (bt HB2.out hb3)
                have HO := hid (one3_any w3)
                clear o3 t3 hv3 hb3 HG HC p0 p1 p2
                go_wp2_with fail
                refine Calls.mono HO.out ?_
                rintro e w4 ⟨g4, rfl, o4, hb4⟩
                have HQ := hid (same3_sl _ _ z3 [1] w4 (HZ3.out.1.later hb4) (Sl.own o4 (Wd.one (by omega))) (by omega) (by simp))
                have HEQ : Hid (decide (z3 = [1]) = decide (gcdI (val xs) (val ys) = 1)) := by
                  show _ = _
                  congr 1
                  rw [← HZ3.out.2.2]
                  exact propext (one_iff HZ3.out.1.wd HZ3.out.2.1)
                rw [HEQ.out, HGG.out] at HQ
                have HB4 := hid (bt HB3.out hb4)
                clear o4 hb4 HO HEQ
                go_wp2_with fail
                refine Calls.mono HQ.out ?_
                rintro e w5 ⟨rfl, hb5⟩
                have HBN := hid (bt HB.out (bt HB4.out hb5))
                clear hb5
                go_wp2_with fail
                go_ret
                exact ⟨rfl, HBN.out⟩
        · rw [decide_eq_false h4] at HT2
          rw [rchk_rough HL.out.1 HL.out.2 (fun h => h4 (rform_trim h).2)]
          clear h3 h4
          go_enter Try.func14, Try.ntmps14
          go_wp2_with fail
          refine Calls.mono (HT1.out _ HR.out) ?_
          generalize (w.alloc (.cells #[.bool n, .slice a xs.length ca, .slice b ys.length cb] 26)) = X at *
          rintro e w1 ⟨rfl, hb1⟩
          obtain ⟨p0, p1, p2, _⟩ := res_box3 HN.out hb1
          have HC := hid (HT2.out w1 hb1)
          have HB1 := hid (bt HB.out hb1)
          clear hb1
          go_wp2_with fail
          refine Calls.mono HC.out ?_
          rintro e w2 ⟨rfl, hb2⟩
          have HBN := hid (bt HB1.out hb2)
          clear hb2
          go_wp2_with fail
          go_ret
          exact ⟨rfl, HBN.out⟩
      · rw [decide_eq_false h3] at HT1
        rw [rchk_rough HL.out.1 HL.out.2 (fun h => h3 (rform_trim h).1)]
        clear h3
        go_enter Try.func14, Try.ntmps14
        go_wp2_with fail
        refine Calls.mono (HT1.out _ HR.out) ?_
        rintro e w1 ⟨rfl, hb1⟩
        have HBN := hid (bt HB.out hb1)
        clear hb1
        go_wp2_with fail
        go_ret
        exact ⟨rfl, HBN.out⟩
end Go.Proofs.Ytpehpflgfkdiaaa

/- The document's own fractions: times, Signed. -/
namespace Go.Proofs.Ytpehpflgfkdiaaa
open Go.RowKit
set_option linter.unusedVariables false

set_option maxHeartbeats 800000 in
set_option maxRecDepth 100000 in
theorem times3_any (v u : Value) (xs ys : List Int) (w : World) (h : Sl w v xs) (g : Sl w u ys) (hl : xs.length + ys.length ≤ 8192) (tx : Trimmed xs) (ty : Trimmed ys) :
    Calls Try.prog 33 #[v, u] w (Told1 w (val xs * val ys)) := by
  have HT := hid (prod_wide h.wd g.wd hl)
  have HH := hid (refMul_sl v u xs ys w h g (by omega) (by omega))
  rw [both_good (chk_good (by omega) tx) (chk_good (by omega) ty)] at HH
  obtain ⟨a, cap, rfl, hr⟩ := h
  obtain ⟨b, cap', rfl, gr⟩ := g
  clear hr gr
  go_enter Try.func33, Try.ntmps33
  go_wp2_with fail
  refine Calls.mono HH.out ?_
  rintro e w1 ⟨v1, zs, code, rfl, o1, t1, hb1⟩
  obtain ⟨rfl, hv1⟩ := t1.good rfl HT.out
  obtain ⟨a1, c1, hs1⟩ := own_slice' o1
  subst hs1
  have HE := hid (And.intro o1 (And.intro t1.wd (And.intro t1.trim (And.intro hv1 hb1))))
  clear o1 t1 hv1 hb1 HH
  go_wp2_with fail
  go_ret
  exact ⟨_, zs, rfl, HE.out.1, HE.out.2.1, HE.out.2.2.1, HE.out.2.2.2.1, HE.out.2.2.2.2⟩

/-- A sign and a size, in new memory. -/
def SgNum (w : World) (t : Int) (x : Ending) (w' : World) : Prop := ∃ k v zs, x = .returned (.tuple #[.bool k, v]) ∧ w'.ownsRow w.heap.size 36 1 v zs.length (zs.map (Value.int .u32)) ∧ Wd zs ∧ Trimmed zs ∧ sg k (val zs) = t ∧ Below w.heap.size w w'

set_option maxHeartbeats 1600000 in
set_option maxRecDepth 100000 in
theorem signed3_any (n : Bool) (v : Value) (xs : List Int) (m : Bool) (u : Value) (ys : List Int) (w : World) (h : Sl w v xs) (g : Sl w u ys) (lx : xs.length ≤ 8191) (ly : ys.length ≤ 8191) (tx : Trimmed xs) (ty : Trimmed ys) :
    Calls Try.prog 32 #[.bool n, v, .bool m, u] w (SgNum w (sg n (val xs) + sg m (val ys))) := by
  have wx := h.wd
  have wy := g.wd
  have x0 := val_nonneg wx
  have y0 := val_nonneg wy
  have hb0 := both_good (chk_good (by omega) tx) (chk_good (by omega) ty)
  have hb1 := both_good (chk_good (by omega) ty) (chk_good (by omega) tx)
  by_cases hnm : n = m
  · subst hnm
    have HT : Hid (val xs + val ys < wide) := sum_wide wx wy lx ly
    have HH := hid (refAdd_sl v u xs ys w h g (by omega) (by omega))
    rw [hb0] at HH
    have hnn : (n == n) = true := by simp
    obtain ⟨a, cap, rfl, hr⟩ := h
    obtain ⟨b, cap', rfl, gr⟩ := g
    clear hr gr
    go_enter Try.func32, Try.ntmps32
    go_wp2_with fail
    refine Calls.mono HH.out ?_
    rintro e w1 ⟨v1, zs, code, rfl, o1, t1, hb1⟩
    obtain ⟨rfl, hv1⟩ := t1.good rfl HT.out
    obtain ⟨a1, c1, hs1⟩ := own_slice' o1
    subst hs1
    have HE := hid (And.intro o1 (And.intro t1.wd (And.intro t1.trim (And.intro hv1 hb1))))
    clear o1 t1 hv1 hb1 HH
    go_wp2_with fail
    go_ret2
    exact ⟨n, _, zs, rfl, HE.out.1, HE.out.2.1, HE.out.2.2.1, by rw [HE.out.2.2.2.1]; cases n <;> simp [sg] <;> omega, HE.out.2.2.2.2⟩
  · have hnn : (n == m) = false := by simp [hnm]
    have HM : Hid (m = !n) := by show _ = _; cases n <;> cases m <;> simp_all
    have HC := hid (refCompare_sl v u xs ys w h g (by omega) (by omega))
    have HW : Hid (val xs < wide ∧ val ys < wide) := ⟨Int.lt_of_lt_of_le (val_lt wx) (pw_le (by omega)), Int.lt_of_lt_of_le (val_lt wy) (pw_le (by omega))⟩
    by_cases hlt : val xs < val ys
    · have HH := hid (refSub_sl u v ys xs w g h (by omega) (by omega))
      rw [hb1, if_pos rfl, if_neg (by omega)] at HH
      rw [cmpI_lt hlt] at HC
      have HLT := hid hlt
      obtain ⟨a, cap, rfl, hr⟩ := h
      obtain ⟨b, cap', rfl, gr⟩ := g
      clear hr gr hnm hlt
      go_enter Try.func32, Try.ntmps32
      go_wp2_with fail
      refine Calls.mono HC.out ?_
      rintro e w0 ⟨rfl, rfl⟩
      go_wp2_with fail
      refine Calls.mono HH.out ?_
      rintro e w1 ⟨v1, zs, code, rfl, o1, t1, hb1⟩
      obtain ⟨rfl, hv1⟩ := t1.good rfl (by have := HW.out; omega)
      obtain ⟨a1, c1, hs1⟩ := own_slice' o1
      subst hs1
      have HE := hid (And.intro o1 (And.intro t1.wd (And.intro t1.trim (And.intro hv1 hb1))))
      clear o1 t1 hv1 hb1 HH
      go_wp2_with fail
      go_ret2
      exact ⟨m, _, zs, rfl, HE.out.1, HE.out.2.1, HE.out.2.2.1, by rw [HE.out.2.2.2.1, HM.out]; cases n <;> simp [sg] <;> omega, HE.out.2.2.2.2⟩
    · have HH := hid (refSub_sl v u xs ys w h g (by omega) (by omega))
      rw [hb0, if_pos rfl, if_neg (by omega)] at HH
      have hc : ¬ (cmpI (val xs) (val ys)) < 0 := by unfold cmpI; rw [if_neg hlt]; split <;> omega
      obtain ⟨R, hR⟩ : ∃ R, cmpI (val xs) (val ys) = R := ⟨_, rfl⟩
      rw [hR] at HC hc
      obtain ⟨a, cap, rfl, hr⟩ := h
      obtain ⟨b, cap', rfl, gr⟩ := g
      clear hr gr hnm hR
      have HLT := hid hlt
      clear hlt
      cases n with
      | false =>
        go_enter Try.func32, Try.ntmps32
        go_wp2_with fail
        refine Calls.mono HC.out ?_
        rintro e w0 ⟨rfl, rfl⟩
        go_wp2_with fail
        refine Calls.mono HH.out ?_
        rintro e w1 ⟨v1, zs, code, rfl, o1, t1, hb1⟩
        obtain ⟨rfl, hv1⟩ := t1.good rfl (by have := HW.out; omega)
        obtain ⟨a1, c1, hs1⟩ := own_slice' o1
        subst hs1
        have HE := hid (And.intro o1 (And.intro t1.wd (And.intro t1.trim (And.intro hv1 hb1))))
        clear o1 t1 hv1 hb1 HH
        go_wp2_with fail
        go_ret2
        exact ⟨false, _, zs, rfl, HE.out.1, HE.out.2.1, HE.out.2.2.1, by rw [HE.out.2.2.2.1, HM.out]; simp [sg]; omega, HE.out.2.2.2.2⟩
      | true =>
        go_enter Try.func32, Try.ntmps32
        go_wp2_with fail
        refine Calls.mono HC.out ?_
        rintro e w0 ⟨rfl, rfl⟩
        go_wp2_with fail
        refine Calls.mono HH.out ?_
        rintro e w1 ⟨v1, zs, code, rfl, o1, t1, hb1⟩
        obtain ⟨rfl, hv1⟩ := t1.good rfl (by have := HW.out; omega)
        obtain ⟨a1, c1, hs1⟩ := own_slice' o1
        subst hs1
        have HE := hid (And.intro o1 (And.intro t1.wd (And.intro t1.trim (And.intro hv1 hb1))))
        have HV : Hid (sg (decide (0 < zs.length)) (val zs) = sg true (val xs) + sg m (val ys)) := by
          show _ = _
          rw [HM.out]
          by_cases hz : 0 < zs.length
          · rw [decide_eq_true hz]; simp [sg]; omega
          · have e0 : val zs = 0 := trimmed_zero' (by omega)
            rw [decide_eq_false hz]; simp [sg]; omega
        clear o1 t1 hv1 hb1 HH
        go_wp2_with fail
        go_ret2
        exact ⟨decide (0 < zs.length), _, zs, rfl, HE.out.1, HE.out.2.1, HE.out.2.2.1, HV.out, HE.out.2.2.2.2⟩
end Go.Proofs.Ytpehpflgfkdiaaa

/- The document's own fractions: add: of fractions that may be, but for the sign of 0. -/
namespace Go.Proofs.Ytpehpflgfkdiaaa
open Go.RowKit
set_option linter.unusedVariables false

theorem rq_sum {n m k : Bool} {xs ys us vs : List Int} {T D : Int} (hy : 0 < val ys) (hv : 0 < val vs) (hT : sg k T = sg n (val xs * val vs) + sg m (val us * val ys)) (hD : D = val ys * val vs) : Rat.divInt (sg k T) D = rq n xs ys + rq m us vs := by
  unfold rq
  rw [Rat.divInt_add_divInt _ _ (by omega) (by omega), hD, hT, sg_mul, sg_mul]
  rfl

set_option maxHeartbeats 6400000 in
set_option maxRecDepth 100000 in
theorem add3_any (n : Bool) (a : Option Addr) (ca : Nat) (xs : List Int) (b : Option Addr) (cb : Nat) (ys : List Int) (m : Bool) (c : Option Addr) (cc : Nat) (us : List Int) (d : Option Addr) (cd : Nat) (vs : List Int) (w : World) (sx : Sl w (.slice a xs.length ca) xs) (sy : Sl w (.slice b ys.length cb) ys) (su : Sl w (.slice c us.length cc) us) (sv : Sl w (.slice d vs.length cd) vs) (lx : xs.length ≤ 2048) (ly : ys.length ≤ 2048) (lu : us.length ≤ 2048) (lv : vs.length ≤ 2048) (tx : Trimmed xs) (ty : Trimmed ys) (tu : Trimmed us) (tv : Trimmed vs) (hy : 0 < val ys) (hv : 0 < val vs) :
    Calls Try.prog 16 #[.agg #[.bool n, .slice a xs.length ca, .slice b ys.length cb], .agg #[.bool m, .slice c us.length cc, .slice d vs.length cd]] w (RTold w 0 (rq n xs ys + rq m us vs)) := by
  have wx := sx.wd
  have wy := sy.wd
  have wu := su.wd
  have wv := sv.wd
  have HB : Hid (Below w.heap.size w (((w.alloc (.cells #[.bool n, .slice a xs.length ca, .slice b ys.length cb] 26)).alloc (.cells #[.bool m, .slice c us.length cc, .slice d vs.length cd] 26)).alloc (.cells #[.bool false, .slice none 0 0, .slice none 0 0] 26))) := bt (bt (alloc_later _ _) (alloc_later _ _)) (alloc_later _ _)
  have HZ : Hid (Box (((w.alloc (.cells #[.bool n, .slice a xs.length ca, .slice b ys.length cb] 26)).alloc (.cells #[.bool m, .slice c us.length cc, .slice d vs.length cd] 26)).alloc (.cells #[.bool false, .slice none 0 0, .slice none 0 0] 26)) (w.heap.size + 1 + 1) 26 #[.bool false, .slice none 0 0, .slice none 0 0]) := by
    have e := Box.made ((w.alloc (.cells #[.bool n, .slice a xs.length ca, .slice b ys.length cb] 26)).alloc (.cells #[.bool m, .slice c us.length cc, .slice d vs.length cd] 26)) 26 #[.bool false, .slice none 0 0, .slice none 0 0]
    simp at e
    exact e
  have HN : Hid (Box (((w.alloc (.cells #[.bool n, .slice a xs.length ca, .slice b ys.length cb] 26)).alloc (.cells #[.bool m, .slice c us.length cc, .slice d vs.length cd] 26)).alloc (.cells #[.bool false, .slice none 0 0, .slice none 0 0] 26)) w.heap.size 26 #[.bool n, .slice a xs.length ca, .slice b ys.length cb]) := Box.later (Box.made w _ _) (bt (alloc_later _ _) (alloc_later _ _)) (by simp)
  have HM : Hid (Box (((w.alloc (.cells #[.bool n, .slice a xs.length ca, .slice b ys.length cb] 26)).alloc (.cells #[.bool m, .slice c us.length cc, .slice d vs.length cd] 26)).alloc (.cells #[.bool false, .slice none 0 0, .slice none 0 0] 26)) (w.heap.size + 1) 26 #[.bool m, .slice c us.length cc, .slice d vs.length cd]) := by
    have e := Box.later (Box.made (w.alloc (.cells #[.bool n, .slice a xs.length ca, .slice b ys.length cb] 26)) 26 #[.bool m, .slice c us.length cc, .slice d vs.length cd]) (alloc_later ((w.alloc (.cells #[.bool n, .slice a xs.length ca, .slice b ys.length cb] 26)).alloc (.cells #[.bool m, .slice c us.length cc, .slice d vs.length cd] 26)) (.cells #[.bool false, .slice none 0 0, .slice none 0 0] 26)) (by simp)
    simp at e
    exact e
  have HXS : Hid (w.heap.size + 1 + 1 < (((w.alloc (.cells #[.bool n, .slice a xs.length ca, .slice b ys.length cb] 26)).alloc (.cells #[.bool m, .slice c us.length cc, .slice d vs.length cd] 26)).alloc (.cells #[.bool false, .slice none 0 0, .slice none 0 0] 26)).heap.size) := HZ.out.lt
  have HSL := hid (And.intro (sx.later HB.out) (And.intro (sy.later HB.out) (And.intro (su.later HB.out) (sv.later HB.out))))
  have HP := hid (And.intro hy hv)
  have HTT := hid (And.intro tx (And.intro ty (And.intro tu tv)))
  have HNN : Hid (0 ≤ val xs ∧ 0 ≤ val us ∧ 0 ≤ val ys ∧ 0 ≤ val vs) := ⟨val_nonneg wx, val_nonneg wu, val_nonneg wy, val_nonneg wv⟩
  have HPL : Hid (val xs * val vs < 4294967296 ^ 4096 ∧ val us * val ys < 4294967296 ^ 4096 ∧ val ys * val vs < 4294967296 ^ 4096) := ⟨mul_4096 (val_nonneg wx) (below2048 wx lx) (val_nonneg wv) (below2048 wv lv), mul_4096 (val_nonneg wu) (below2048 wu lu) (val_nonneg wy) (below2048 wy ly), mul_4096 (val_nonneg wy) (below2048 wy ly) (val_nonneg wv) (below2048 wv lv)⟩
  clear sx sy su sv tx ty tu tv hy hv wx wy wu wv
  go_enter Try.func16, Try.ntmps16
  go_wp2_with fail
  generalize (((w.alloc (.cells #[.bool n, .slice a xs.length ca, .slice b ys.length cb] 26)).alloc (.cells #[.bool m, .slice c us.length cc, .slice d vs.length cd] 26)).alloc (.cells #[.bool false, .slice none 0 0, .slice none 0 0] 26)) = X at *
  have HK : Hid (∀ V, Below X.heap.size X V → V.cell? ⟨w.heap.size, 0, none⟩ = some (.bool n) ∧ V.cell? ⟨w.heap.size, 1, none⟩ = some (.slice a xs.length ca) ∧ V.cell? ⟨w.heap.size, 2, none⟩ = some (.slice b ys.length cb) ∧ V.cell? ⟨w.heap.size + 1, 0, none⟩ = some (.bool m) ∧ V.cell? ⟨w.heap.size + 1, 1, none⟩ = some (.slice c us.length cc) ∧ V.cell? ⟨w.heap.size + 1, 2, none⟩ = some (.slice d vs.length cd)) := fun V hb => by
    obtain ⟨p0, p1, p2, _⟩ := res_box3 HN.out hb
    obtain ⟨q0, q1, q2, _⟩ := res_box3 HM.out hb
    exact ⟨p0, p1, p2, q0, q1, q2⟩
  have hs0 := HK.out _ (Below.drew (Below.refl _ X))
  have HBR := hid (Below.drew (Below.refl X.heap.size X))
  have H1 := hid (fun ww (hv : Below X.heap.size X ww) => told1_in _ HK.out ww hv (times3_any _ _ xs vs ww (HSL.out.1.later hv) (HSL.out.2.2.2.later hv) (by omega) HTT.out.1 HTT.out.2.2.2))
  have H2 := hid (fun ww (hv : Below X.heap.size X ww) => told1_in _ HK.out ww hv (times3_any _ _ us ys ww (HSL.out.2.2.1.later hv) (HSL.out.2.1.later hv) (by omega) HTT.out.2.2.1 HTT.out.2.1))
  have H3 : Hid (∀ ww, Below X.heap.size X ww → ∀ a4 z4 c4 a5 z5 c5, One X ww (.slice a4 (List.length z4) c4) z4 (val xs * val vs) → One X ww (.slice a5 (List.length z5) c5) z5 (val us * val ys) → Calls Try.prog 32 #[.bool n, .slice a4 z4.length c4, .bool m, .slice a5 z5.length c5] ww fun e w' => ∃ k a6 z6 c6, e = .returned (.tuple #[.bool k, .slice a6 (List.length z6) c6]) ∧ Hid (∃ T, One X w' (.slice a6 (List.length z6) c6) z6 T ∧ sg k T = sg n (val xs * val vs) + sg m (val us * val ys)) ∧ (w'.cell? ⟨w.heap.size, 0, none⟩ = some (.bool n) ∧ w'.cell? ⟨w.heap.size, 1, none⟩ = some (.slice a xs.length ca) ∧ w'.cell? ⟨w.heap.size, 2, none⟩ = some (.slice b ys.length cb) ∧ w'.cell? ⟨w.heap.size + 1, 0, none⟩ = some (.bool m) ∧ w'.cell? ⟨w.heap.size + 1, 1, none⟩ = some (.slice c us.length cc) ∧ w'.cell? ⟨w.heap.size + 1, 2, none⟩ = some (.slice d vs.length cd)) ∧ Below X.heap.size X w') := fun ww hv a4 z4 c4 a5 z5 c5 h4 h5 => by
    have e := signed3_any n _ z4 m _ z5 ww h4.sl h5.sl (by have := own_len h4 HPL.out.1; omega) (by have := own_len h5 HPL.out.2.1; omega) h4.2.2.1 h5.2.2.1
    rw [h4.2.2.2, h5.2.2.2] at e
    refine Calls.mono e ?_
    rintro e w' ⟨k, v, zs, rfl, o, h1, h2, h3, hb⟩
    obtain ⟨a6, c6, hs⟩ := own_slice' o
    subst hs
    exact ⟨k, a6, zs, c6, rfl, ⟨val zs, ⟨owns_base o hv.size, h1, h2, rfl⟩, h3⟩, HK.out w' (bt hv hb), bt hv hb⟩
  go_region_held3 (fun V : World => V.cell? ⟨w.heap.size, 0, none⟩ = some (.bool n) ∧ V.cell? ⟨w.heap.size, 1, none⟩ = some (.slice a xs.length ca) ∧ V.cell? ⟨w.heap.size, 2, none⟩ = some (.slice b ys.length cb) ∧ V.cell? ⟨w.heap.size + 1, 0, none⟩ = some (.bool m) ∧ V.cell? ⟨w.heap.size + 1, 1, none⟩ = some (.slice c us.length cc) ∧ V.cell? ⟨w.heap.size + 1, 2, none⟩ = some (.slice d vs.length cd)) (first | exact hs6 | exact hs5 | exact hs4 | exact hs0)
    (first
      | (go_at_call 32; with_reducible refine Calls.mono (H3.out _ hb5 _ _ _ _ _ _ (HE4.out.1.later HS5.out) HE5.out.1) ?_; rintro e w6 ⟨k6, a6, z6, c6, rfl, HE6, hs6, hb6⟩)
      | (go_at_call 33; with_reducible refine Calls.mono (H2.out _ hb4) ?_; rintro e w5 ⟨a5, z5, c5, rfl, HE5, hs5, hb5, HS5⟩)
      | (go_at_call 33; with_reducible refine Calls.mono (H1.out _ HBR.out) ?_; rintro e w4 ⟨a4, z4, c4, rfl, HE4, hs4, hb4, HS4⟩))
  all_goals
    obtain ⟨T, oT, hT⟩ := HE6.out
    have HT0 : Hid (0 ≤ T) := by rw [← oT.2.2.2]; exact val_nonneg oT.2.1
    have HTL : Hid (T < 4294967296 ^ 4097) := sum_4097 hT HT0.out (Int.mul_nonneg HNN.out.1 HNN.out.2.2.2) HPL.out.1 (Int.mul_nonneg HNN.out.2.1 HNN.out.2.2.1) HPL.out.2.1
    have HO6 := hid oT
    have HHT := hid hT
    have HB6 := hid hb6
    have l6 : z6.length ≤ 4097 := own_len oT HTL.out
    clear H1 H2 H3 HE4 HE5 HE6 HS4 HS5 hs0 hs4 hs5 hs6 hb4 hb5 oT hT HBR
    obtain ⟨r0, r1, r2, r3, r4, r5⟩ := HK.out w6 hb6
    clear hb6
    have H4 := hid (fun ww (hv : Below X.heap.size X ww) => told1_in _ HK.out ww hv (times3_any _ _ ys vs ww (HSL.out.2.1.later hv) (HSL.out.2.2.2.later hv) (by omega) HTT.out.2.1 HTT.out.2.2.2))
    have H5 : Hid (∀ ww, Below X.heap.size X ww → ∀ a7 z7 c7, One X ww (.slice a6 (List.length z6) c6) z6 T → One X ww (.slice a7 (List.length z7) c7) z7 (val ys * val vs) → Calls Try.prog 34 #[.bool k6, .slice a6 z6.length c6, .slice a7 z7.length c7] ww fun e w' => ∃ k a8 z8 c8 a9 z9 c9 code, e = .returned (.tuple #[.agg #[.bool k, .slice a8 (List.length z8) c8, .slice a9 (List.length z9) c9], .int .i64 code]) ∧ Hid (w'.ownsRow X.heap.size 36 1 (.slice a8 (List.length z8) c8) z8.length (z8.map (Value.int .u32)) ∧ w'.ownsRow X.heap.size 36 1 (.slice a9 (List.length z9) c9) z9.length (z9.map (Value.int .u32)) ∧ RTells 0 (rq n xs ys + rq m us vs) k z8 z9 code) ∧ (w'.cell? ⟨w.heap.size, 0, none⟩ = some (.bool n) ∧ w'.cell? ⟨w.heap.size, 1, none⟩ = some (.slice a xs.length ca) ∧ w'.cell? ⟨w.heap.size, 2, none⟩ = some (.slice b ys.length cb) ∧ w'.cell? ⟨w.heap.size + 1, 0, none⟩ = some (.bool m) ∧ w'.cell? ⟨w.heap.size + 1, 1, none⟩ = some (.slice c us.length cc) ∧ w'.cell? ⟨w.heap.size + 1, 2, none⟩ = some (.slice d vs.length cd)) ∧ Below X.heap.size X w') := fun ww hv a7 z7 c7 h6 h7 => by
      have hp : 0 < val ys * val vs := Int.mul_pos HP.out.1 HP.out.2
      have e := of3_any k6 a6 c6 z6 a7 c7 z7 ww h6.sl h7.sl (by omega) (by have := own_len h7 HPL.out.2.2; omega) h6.2.2.1 h7.2.2.1 (own_pos h7 hp)
      rw [h6.2.2.2, h7.2.2.2, rq_sum (n := n) (m := m) (xs := xs) (ys := ys) (us := us) (vs := vs) HP.out.1 HP.out.2 HHT.out rfl] at e
      refine Calls.mono e ?_
      rintro e w' ⟨k, v, zs, u, ds, code, rfl, o1, o2, t, hb⟩
      obtain ⟨a8, c8, hs⟩ := own_slice' o1
      subst hs
      obtain ⟨a9, c9, hs⟩ := own_slice' o2
      subst hs
      exact ⟨k, a8, zs, c8, a9, ds, c9, code, rfl, ⟨owns_base o1 hv.size, owns_base o2 hv.size, t⟩, HK.out w' (bt hv hb), bt hv hb⟩
    go_wp2_with fail
    refine Calls.mono (H4.out w6 HB6.out) ?_
    rintro e w7 ⟨a7, z7, c7, rfl, HE7, _, hb7, HS7⟩
    have H5c := hid (H5.out w7 hb7 a7 z7 c7 (HO6.out.later HS7.out) HE7.out.1)
    clear hb7 HE7 HS7 HO6 H4 H5 r0 r1 r2 r3 r4 r5
    go_wp2_with fail
    refine Calls.mono H5c.out ?_
    rintro e w9 ⟨k9, a8, z8, c8, a9, z9, c9, code, rfl, HE9, _, hb9⟩
    obtain ⟨y0, y1, y2, f0, f1, f2⟩ := res_box3 HZ.out hb9
    have HBW := hid (bt HB.out hb9)
    have HR := hid HE9.out
    clear HK HE9 hb9 H5c HB6
    go_wp2_with fail
    refine bodyPost_ret (v := .tuple #[.agg #[.bool k9, .slice a8 z8.length c8, .slice a9 z9.length c9], .int .i64 code]) (by simp [results, Try.results16, go_sem, y0, y1, y2]) rfl ?_
    exact RTold.put HR.out (w.heap.size + 1 + 1) HXS.out (by omega) HBW.out _ _ _
end Go.Proofs.Ytpehpflgfkdiaaa

/- The document's Sum of any list of fractions. -/
namespace Go.Proofs.Ytpehpflgfkdiaaa
open Go.RowKit
set_option linter.unusedVariables false

theorem al_below {a w : World} (h : Below a.heap.size a w) (o : Obj) : Below a.heap.size a (w.alloc o) := h.alloc h.size o
theorem zr1 {w V : World} (hb : Below (w.alloc (.cells #[.bool false, .slice none 0 0, .slice none 0 0] 26)).drew.heap.size (w.alloc (.cells #[.bool false, .slice none 0 0, .slice none 0 0] 26)).drew V) : Box V w.heap.size 26 #[.bool false, .slice none 0 0, .slice none 0 0] := (Box.made w 26 _).later (bt (Below.drew (Below.refl _ (w.alloc (.cells #[.bool false, .slice none 0 0, .slice none 0 0] 26)))) hb) (by simp)

/-- The next total in a box of its own. -/
def Nxt (w wr : World) (pn : Nat) (n' : Bool) (a' : Option Addr) (xs' : List Int) (c' : Nat) (b' : Option Addr) (ys' : List Int) (d' : Nat) (W : World) : Prop :=
  Box W pn 26 #[.bool n', .slice a' xs'.length c', .slice b' ys'.length d'] ∧ (W.ownsRow w.heap.size 36 1 (.slice a' xs'.length c') xs'.length (xs'.map (Value.int .u32))) ∧ (W.ownsRow w.heap.size 36 1 (.slice b' ys'.length d') ys'.length (ys'.map (Value.int .u32))) ∧ Below wr.heap.size wr W ∧ wr.heap.size ≤ pn
theorem nxt_new {w wr w2 : World} {n' : Bool} {a' : Option Addr} {xs' : List Int} {c' : Nat} {b' : Option Addr} {ys' : List Int} {d' : Nat} (oa : w2.ownsRow w.heap.size 36 1 (.slice a' xs'.length c') xs'.length (xs'.map (Value.int .u32))) (ob : w2.ownsRow w.heap.size 36 1 (.slice b' ys'.length d') ys'.length (ys'.map (Value.int .u32))) (hb : Below wr.heap.size wr w2) : Nxt w wr w2.heap.size n' a' xs' c' b' ys' d' (w2.alloc (.cells #[.bool n', .slice a' xs'.length c', .slice b' ys'.length d'] 26)) :=
  ⟨Box.made w2 _ _, owns_later oa (alloc_later _ _), owns_later ob (alloc_later _ _), bt hb (alloc_later _ _), hb.size⟩
theorem nxt_old {w wr w2 : World} {n' : Bool} {a' : Option Addr} {xs' : List Int} {c' : Nat} {b' : Option Addr} {ys' : List Int} {d' : Nat} (hz : Box w2 wr.heap.size 26 #[.bool false, .slice none 0 0, .slice none 0 0]) (oa : w2.ownsRow w.heap.size 36 1 (.slice a' xs'.length c') xs'.length (xs'.map (Value.int .u32))) (ob : w2.ownsRow w.heap.size 36 1 (.slice b' ys'.length d') ys'.length (ys'.map (Value.int .u32))) (hb : Below wr.heap.size wr w2) : Nxt w wr wr.heap.size n' a' xs' c' b' ys' d' (((w2.setCell ⟨wr.heap.size, 0, none⟩ (.bool n')).setCell ⟨wr.heap.size, 1, none⟩ (.slice a' xs'.length c')).setCell ⟨wr.heap.size, 2, none⟩ (.slice b' ys'.length d')) :=
  ⟨((hz.set 0 _).set 1 _).set 2 _, own_put3 oa _ (own_ne_box oa hz (by decide)) _ _ _, own_put3 ob _ (own_ne_box ob hz (by decide)) _ _ _, below_put3 hb _ (Nat.le_refl _) _ _ _, Nat.le_refl _⟩

set_option maxHeartbeats 3200000 in
set_option maxRecDepth 100000 in
theorem dSum_any (g o m cp : Nat) (N : Nat → Bool) (A : Nat → Option Addr) (C : Nat → Nat) (U : Nat → List Int) (B : Nat → Option Addr) (D : Nat → Nat) (Y : Nat → List Int) (w : World) (sa : Option Addr) (h : FrM w sa g o m N A C U B D Y) (hm : m ≤ 1000) (hcp : m ≤ cp) (hU : ∀ j, j < m → (U j).length ≤ 281474976710656 ∧ (Y j).length ≤ 281474976710656) :
    Calls Try.prog 6 #[.slice sa m cp] w fun x w' => ∃ n v xs u ys err loc, x = .returned (.tuple #[.agg #[.bool n, v, u], .agg #[.int .i64 err, .int .i64 loc]]) ∧ w'.ownsRow w.heap.size 36 1 v xs.length (xs.map (Value.int .u32)) ∧ w'.ownsRow w.heap.size 36 1 u ys.length (ys.map (Value.int .u32)) ∧ RSum m (fun j => rchk (N j) (U j) (Y j)) (rsums N U Y) n xs ys err loc ∧ Below w.heap.size w w' := by
  have HBX : Hid (Below w.heap.size w ((w.alloc (.cells #[.bool false, .slice none 0 0, .slice none 0 0] 26)).alloc (.cells #[.int .i64 0, .int .i64 0] 29))) := bt (alloc_later _ _) (alloc_later _ _)
  have HZ : Hid (Box ((w.alloc (.cells #[.bool false, .slice none 0 0, .slice none 0 0] 26)).alloc (.cells #[.int .i64 0, .int .i64 0] 29)) w.heap.size 26 #[.bool false, .slice none 0 0, .slice none 0 0]) := (Box.made w _ _).later (alloc_later _ _) (by simp)
  have HF : Hid (Box ((w.alloc (.cells #[.bool false, .slice none 0 0, .slice none 0 0] 26)).alloc (.cells #[.int .i64 0, .int .i64 0] 29)) (w.heap.size + 1) 29 #[.int .i64 0, .int .i64 0]) := by
    have e := Box.made (w.alloc (.cells #[.bool false, .slice none 0 0, .slice none 0 0] 26)) 29 #[.int .i64 0, .int .i64 0]
    simp at e
    exact e
  have HL := hid (h.later HBX.out)
  clear h
  go_enter Try.func6, Try.ntmps6
  go_wp2_with fail
  generalize ((w.alloc (.cells #[.bool false, .slice none 0 0, .slice none 0 0] 26)).alloc (.cells #[.int .i64 0, .int .i64 0] 29)) = X at *
  go_loopw [4] (fun t wr => ∃ k : Nat, k ≤ m ∧ t = .int .i64 k ∧ Hid ((∀ i, i < k → rchk (N i) (U i) (Y i) = 0) ∧ Below X.heap.size X wr)) (fun t _ => m - (intOf t).toNat)
  case atStart => exact ⟨0, Nat.zero_le _, rfl, fun i hi => absurd hi (Nat.not_lt_zero _), Below.refl _ _⟩
  case round =>
    obtain ⟨k, hk, rfl, HI⟩ := hrel
    by_cases hlt : k < m
    · obtain ⟨hsa, hLL⟩ := (HL.out.later HI.out.2).of hlt
      subst hsa
      have HLw := hid hLL
      clear hLL
      obtain ⟨e0, e1, e2⟩ := HLw.out.cell k hlt
      have HSx := hid (HLw.out.slx k hlt)
      have HSy := hid (HLw.out.sly k hlt)
      obtain ⟨er, her⟩ : ∃ e, rchk (N k) (U k) (Y k) = e := ⟨_, rfl⟩
      have HER := hid her
      have HC := hid (check3_any (N k) _ _ (U k) _ _ (Y k) wr HSx.out HSy.out (hU k hlt).1 (hU k hlt).2)
      rw [her] at HC
      have HB1 := hid HI.out.2
      have hk0 : (0 : Int) ≤ ↑k := by omega
      have hk1 : (↑k : Int) < ↑m := by omega
      clear her HLw HSx HSy
      by_cases hz : er = 0
      · subst hz
        go_wp2_with fail
        refine Calls.mono HC.out ?_
        rintro e w1 ⟨rfl, hb1⟩
        have HR : Hid ((∀ i, i < k + 1 → rchk (N i) (U i) (Y i) = 0) ∧ Below X.heap.size X w1) := ⟨fun i hi => by
          by_cases c : i = k
          · subst c; exact HER.out
          · exact HI.out.1 i (by omega), bt HB1.out hb1⟩
        clear hb1 HC e0 e1 e2
        go_wp2_with fail
        go_roundw
        case rel => exact ⟨k + 1, by omega, by go_num, HR⟩
        case measure => simp [intOf]; omega
      · have h1 : (er != 0) = true := bne_iff_ne.2 hz
        have h2 : (er == 0) = false := beq_eq_false_iff_ne.2 hz
        have HNZ := hid hz
        clear hz
        go_wp2_with fail
        refine Calls.mono HC.out ?_
        rintro e w1 ⟨rfl, hb1⟩
        have HBW := hid (bt HB1.out hb1)
        obtain ⟨r0, r1, r2, f0, f1, f2⟩ := res_box3 HZ.out HBW.out
        have HFw := hid (HF.out.later HBW.out HF.out.lt)
        have q0 := HFw.out.cell 0
        have q1 := HFw.out.cell 1
        have y0 := HFw.out.free 0
        have y1 := HFw.out.free 1
        have HBN := hid (bt HBX.out HBW.out)
        clear hb1 HC e0 e1 e2
        go_wp2_with fail
        refine bodyPost_ret (v := .tuple #[.agg #[.bool false, .slice none 0 0, .slice none 0 0], .agg #[.int .i64 er, .int .i64 (k : Int)]]) (by simp [results, Try.results6, go_sem, r0, r1, r2, q0, q1]) rfl ?_
        exact ⟨false, _, [], _, [], er, (k : Int), rfl, World.ownsRow_nil _ _ _ _, World.ownsRow_nil _ _ _ _, ⟨Wd.nil, Wd.nil, .inl ⟨k, hlt, HI.out.1, (fun e => HNZ.out (HER.out.symm.trans e)), rfl, rfl, rfl, HER.out.symm, rfl⟩⟩, below_put2 (below_put3 HBN.out _ (Nat.le_refl _) _ _ _) _ (Nat.le_succ _) _ _⟩
    · have hkm : k = m := by omega
      subst hkm
      have HEA := hid HI.out.1
      have HBI := hid HI.out.2
      clear HI hlt hk
      have HOO := hid (one3_any wr)
      go_wp2_with fail
      refine Calls.mono HOO.out ?_
      clear HOO
      rintro e w1 ⟨gq, rfl, ho1, hb1⟩
      have HO1 := hid ho1
      have HB1 := hid hb1
      clear ho1 hb1
      go_wp2_with fail
      have HT0 : Hid (Tot false w N U Y w1.heap.size 0 (w1.alloc (.cells #[.bool false, .slice none 0 0, .slice (some ⟨gq, 0, none⟩) 1 1] 26))) := ⟨false, none, [], 0, some ⟨gq, 0, none⟩, [1], 1, Box.made w1 _ _, World.ownsRow_nil _ _ _ _, owns_later (owns_base HO1.out (bt HBX.out HBI.out).size) (alloc_later _ _), Wd.nil, Wd.one (by decide), rchk_zero, rq_zero, fun i hi => absurd hi (Nat.not_lt_zero _), fun h => absurd h (by decide)⟩
      have HBA : Hid (Below w1.heap.size w1 (w1.alloc (.cells #[.bool false, .slice none 0 0, .slice (some ⟨gq, 0, none⟩) 1 1] 26))) := alloc_later _ _
      have HLw := hid (HL.out.later (bt HBI.out HB1.out))
      have HZw := hid (HZ.out.later (bt HBI.out HB1.out) HZ.out.lt)
      have HFw := hid (HF.out.later (bt HBI.out HB1.out) HF.out.lt)
      have HBW := hid (bt HBX.out (bt HBI.out HB1.out))
      clear HO1 HB1 HBI HBX HL HZ HF
      generalize (w1.alloc (.cells #[.bool false, .slice none 0 0, .slice (some ⟨gq, 0, none⟩) 1 1] 26)) = V1 at *
      go_loopw [7] (fun t wq => ∃ j : Nat, j ≤ k ∧ t = .int .i64 j ∧ Hid (Tot false w N U Y w1.heap.size j wq ∧ Below w1.heap.size w1 wq)) (fun t _ => k - (intOf t).toNat)
      case atStart => exact ⟨0, Nat.zero_le _, rfl, HT0.out, HBA.out⟩
      case round =>
        obtain ⟨j, hj, rfl, HI⟩ := hrel
        obtain ⟨n, qa, za, ka, qb, zb, kb, bx, oa, ob, wa, wb, hck, hq, hnl, _⟩ := HI.out.1
        have HBQ := hid HI.out.2
        have HQQ := hid (And.intro hck (And.intro hq hnl))
        have HWW := hid (And.intro wa wb)
        by_cases hlt : j < k
        · obtain ⟨hsa, hLL⟩ := (HLw.out.later HBQ.out).of hlt
          subst hsa
          have HLq := hid hLL
          clear hLL
          have HBx := hid bx
          have HK : Hid (∀ V, Below wr.heap.size wr V → V.cell? ⟨w1.heap.size, 0, none⟩ = some (.bool n) ∧ V.cell? ⟨w1.heap.size, 1, none⟩ = some (.slice qa za.length ka) ∧ V.cell? ⟨w1.heap.size, 2, none⟩ = some (.slice qb zb.length kb) ∧ V.cell? ⟨g, o + j * 3, none⟩ = some (.bool (N j)) ∧ V.cell? ⟨g, o + j * 3 + 1, none⟩ = some (.slice (A j) (U j).length (C j)) ∧ V.cell? ⟨g, o + j * 3 + 2, none⟩ = some (.slice (B j) (Y j).length (D j))) := fun V hb => by
            obtain ⟨t0, t1, t2, _⟩ := res_box3 HBx.out hb
            obtain ⟨e0, e1, e2⟩ := (HLq.out.later hb).cell j hlt
            exact ⟨t0, t1, t2, e0, e1, e2⟩
          have HC : Hid (∀ V, Below wr.heap.size wr V → Calls Try.prog 16 #[.agg #[.bool n, .slice qa za.length ka, .slice qb zb.length kb], .agg #[.bool (N j), .slice (A j) (U j).length (C j), .slice (B j) (Y j).length (D j)]] V fun e V' => ∃ n' a' xs' c' b' ys' d' code, e = .returned (.tuple #[.agg #[.bool n', .slice a' (List.length xs') c', .slice b' (List.length ys') d'], .int .i64 code]) ∧ Hid (V'.ownsRow w.heap.size 36 1 (.slice a' (List.length xs') c') xs'.length (xs'.map (Value.int .u32)) ∧ V'.ownsRow w.heap.size 36 1 (.slice b' (List.length ys') d') ys'.length (ys'.map (Value.int .u32)) ∧ RTells 0 (rsums N U Y (j + 1)) n' xs' ys' code ∧ Below V.heap.size V V' ∧ Below wr.heap.size wr V') ∧ V'.cell? ⟨w1.heap.size, 0, none⟩ = some (.bool n) ∧ V'.cell? ⟨w1.heap.size, 1, none⟩ = some (.slice qa za.length ka) ∧ V'.cell? ⟨w1.heap.size, 2, none⟩ = some (.slice qb zb.length kb) ∧ V'.cell? ⟨g, o + j * 3, none⟩ = some (.bool (N j)) ∧ V'.cell? ⟨g, o + j * 3 + 1, none⟩ = some (.slice (A j) (U j).length (C j)) ∧ V'.cell? ⟨g, o + j * 3 + 2, none⟩ = some (.slice (B j) (Y j).length (D j))) := fun V hb => by
            obtain ⟨la, lb, ta, tb, zb0, _, ga⟩ := rchk_ok hck
            obtain ⟨lu, lv, tu, tv, yv0, _, gu⟩ := rchk_ok (HEA.out j hlt)
            have sv := (HLq.out.sly j hlt).later hb
            have hC := add3_any n qa ka za qb kb zb (N j) (A j) (C j) (U j) (B j) (D j) (Y j) V ((Sl.own oa wa).later hb) ((Sl.own ob wb).later hb) ((HLq.out.slx j hlt).later hb) sv la lb lu lv ta tb tu tv (val_pos' wb tb zb0) (val_pos' sv.wd tv yv0)
            rw [hq, show rsums N U Y j + rq (N j) (U j) (Y j) = rsums N U Y (j + 1) from rfl] at hC
            refine Calls.mono hC ?_
            rintro e V' ⟨n', v', xs', u', ys', code, rfl, o', p', tt, hb'⟩
            obtain ⟨a', c', hs⟩ := own_slice' o'
            subst hs
            obtain ⟨b', d', hs⟩ := own_slice' p'
            subst hs
            have hsz := Nat.le_trans (bt HBW.out HBQ.out).size hb.size
            exact ⟨n', a', xs', c', b', ys', d', code, rfl, ⟨owns_base o' hsz, owns_base p' hsz, tt, hb', bt hb hb'⟩, HK.out V' (bt hb hb')⟩
          have hs0 := HK.out _ (Below.drew (Below.refl wr.heap.size wr))
          have HB0 := hid (Below.refl wr.heap.size wr)
          have hk0 : (0 : Int) ≤ ↑j := by omega
          have hk1 : (↑j : Int) < ↑k := by omega
          clear bx oa ob wa wb hck hq hnl HLq HI
          go_wp2_with fail
          go_region_held3 (fun V : World => V.cell? ⟨w1.heap.size, 0, none⟩ = some (.bool n) ∧ V.cell? ⟨w1.heap.size, 1, none⟩ = some (.slice qa za.length ka) ∧ V.cell? ⟨w1.heap.size, 2, none⟩ = some (.slice qb zb.length kb) ∧ V.cell? ⟨g, o + j * 3, none⟩ = some (.bool (N j)) ∧ V.cell? ⟨g, o + j * 3 + 1, none⟩ = some (.slice (A j) (U j).length (C j)) ∧ V.cell? ⟨g, o + j * 3 + 2, none⟩ = some (.slice (B j) (Y j).length (D j))) (first | exact hs1 | exact hs0 | with_reducible exact HK.out _ (al_below HE.out.2.2.2.2 _) | with_reducible exact HK.out _ (al_below HB0.out _).drew | with_reducible exact HK.out _ (below_put3 HE.out.2.2.2.2 _ (Nat.le_refl _) _ _ _) | go_keep)
            ((go_at_call 16; with_reducible refine Calls.mono (HC.out _ (by first | exact HB0.out.drew | exact (al_below HB0.out _).drew)) ?_; rintro e w2 ⟨n', a', xs', c', b', ys', d', code, rfl, HE, hs1⟩; (first | (have HZ1 := hid (zr1 HE.out.2.2.2.1); obtain ⟨y0, y1, y2, z0, z1, z2⟩ := res_box3 HZ1.out (Below.refl _ _)) | skip)))
          all_goals
            have HTT := hid HE.out.2.2.1
            first
              | (have HNx := hid (nxt_old (n' := n') HZ1.out HE.out.1 HE.out.2.1 HE.out.2.2.2.2); generalize (((w2.setCell ⟨wr.heap.size, 0, none⟩ (.bool n')).setCell ⟨wr.heap.size, 1, none⟩ (.slice a' xs'.length c')).setCell ⟨wr.heap.size, 2, none⟩ (.slice b' ys'.length d')) = W2 at *)
              | (have HNx := hid (nxt_new (n' := n') HE.out.1 HE.out.2.1 HE.out.2.2.2.2); generalize w2.alloc (.cells #[.bool n', .slice a' xs'.length c', .slice b' ys'.length d'] 26) = W2 at *)
            obtain ⟨p0, p1, p2, _, _, _⟩ := res_box3 HNx.out.1 (Below.refl _ _)
            have HBy := hid (HBx.out.later HNx.out.2.2.2.1 HBx.out.lt)
            obtain ⟨t0, t1, t2, tf0, tf1, tf2⟩ := res_box3 HBy.out (Below.refl _ _)
            have HB2 := hid (bt HBQ.out HNx.out.2.2.2.1)
            clear HK HC HE hs0 hs1
            by_cases hlg : rlong (rsums N U Y (j + 1))
            · obtain ⟨rfl, rfl, rfl, rfl⟩ := HTT.out.long rfl hlg
              have HLG := hid hlg
              clear hlg
              obtain ⟨r0, r1, r2, f0, f1, f2⟩ := res_box3 HZw.out HB2.out
              have HFq := hid (HFw.out.later HB2.out HFw.out.lt)
              have s0 := HFq.out.cell 0
              have s1 := HFq.out.cell 1
              have y3 := HFq.out.free 0
              have y4 := HFq.out.free 1
              have HBN := hid (bt HBW.out HB2.out)
              go_wp2_with fail
              refine bodyPost_ret (v := .tuple #[.agg #[.bool false, .slice none 0 0, .slice none 0 0], .agg #[.int .i64 3, .int .i64 (j : Int)]]) (by simp [results, Try.results6, go_sem, r0, r1, r2, s0, s1]) rfl ?_
              exact ⟨false, _, [], _, [], 3, (j : Int), rfl, World.ownsRow_nil _ _ _ _, World.ownsRow_nil _ _ _ _, ⟨Wd.nil, Wd.nil, .inr (.inl ⟨HEA.out, j, hlt, HQQ.out.2.2, HLG.out, rfl, rfl, rfl, rfl, rfl⟩)⟩, below_put2 (below_put3 HBN.out _ (Nat.le_refl _) _ _ _) _ (Nat.le_succ _) _ _⟩
            · obtain ⟨hc0, hck', hq'⟩ := HTT.out.good rfl hlg
              subst hc0
              have HR : Hid (Tot false w N U Y w1.heap.size (j + 1) (((W2.setCell ⟨w1.heap.size, 0, none⟩ (.bool n')).setCell ⟨w1.heap.size, 1, none⟩ (.slice a' xs'.length c')).setCell ⟨w1.heap.size, 2, none⟩ (.slice b' ys'.length d')) ∧ Below w1.heap.size w1 (((W2.setCell ⟨w1.heap.size, 0, none⟩ (.bool n')).setCell ⟨w1.heap.size, 1, none⟩ (.slice a' xs'.length c')).setCell ⟨w1.heap.size, 2, none⟩ (.slice b' ys'.length d'))) := by
                refine ⟨⟨n', a', xs', c', b', ys', d', ((HBy.out.set 0 _).set 1 _).set 2 _, own_put3 HNx.out.2.1 _ (own_ne_box HNx.out.2.1 HBy.out (by decide)) _ _ _, own_put3 HNx.out.2.2.1 _ (own_ne_box HNx.out.2.2.1 HBy.out (by decide)) _ _ _, HTT.out.wx, HTT.out.wy, hck', hq', fun i hi => ?_, fun h => absurd h (by decide)⟩, below_put3 HB2.out _ (Nat.le_refl _) _ _ _⟩
                by_cases c : i = j
                · subst c; exact hlg
                · exact HQQ.out.2.2 i (by omega)
              clear hlg hck' hq' HTT HBy HB2 HNx
              go_wp2_with fail
              go_roundw
              case rel => exact ⟨j + 1, by omega, by go_num, HR⟩
              case measure => simp [intOf]; omega
        · have hjk : j = k := by omega
          subst hjk
          obtain ⟨t0, t1, t2, tf0, tf1, tf2⟩ := res_box3 bx (Below.refl _ _)
          have hzq := HZw.out.later HBQ.out HZw.out.lt
          have hfq := HFw.out.later HBQ.out HFw.out.lt
          obtain ⟨r0, r1, r2, f0, f1, f2⟩ := res_box3 hzq (Below.refl _ _)
          have s0 := hfq.cell 0
          have s1 := hfq.cell 1
          have y0 := hfq.free 0
          have y1 := hfq.free 1
          have HOA := hid (own_put3 oa _ (own_ne_box oa hzq (by decide)) (.bool n) (.slice qa za.length ka) (.slice qb zb.length kb))
          have HOB := hid (own_put3 ob _ (own_ne_box ob hzq (by decide)) (.bool n) (.slice qa za.length ka) (.slice qb zb.length kb))
          have hfq2 := ((hfq.other ⟨w.heap.size, 0, none⟩ (.bool n) (by simp)).other ⟨w.heap.size, 1, none⟩ (.slice qa za.length ka) (by simp)).other ⟨w.heap.size, 2, none⟩ (.slice qb zb.length kb) (by simp)
          have HOA2 := hid (own_put2 HOA.out _ (own_ne_box HOA.out hfq2 (by decide)) (.int .i64 0) (.int .i64 0))
          have HOB2 := hid (own_put2 HOB.out _ (own_ne_box HOB.out hfq2 (by decide)) (.int .i64 0) (.int .i64 0))
          have HBN := hid (bt HBW.out HBQ.out)
          clear hzq hfq hfq2 HOA HOB oa ob bx
          go_wp2_with fail
          refine bodyPost_ret (v := .tuple #[.agg #[.bool n, .slice qa za.length ka, .slice qb zb.length kb], .agg #[.int .i64 0, .int .i64 0]]) (by simp [results, Try.results6, go_sem, r0, r1, r2, s0, s1]) rfl ?_
          exact ⟨n, _, za, _, zb, 0, 0, rfl, HOA2.out, HOB2.out, ⟨HWW.out.1, HWW.out.2, .inr (.inr ⟨HEA.out, HQQ.out.2.2, HQQ.out.1, HQQ.out.2.1, rfl, rfl⟩)⟩, below_put2 (below_put3 HBN.out _ (Nat.le_refl _) _ _ _) _ (Nat.le_succ _) _ _⟩

end Go.Proofs.Ytpehpflgfkdiaaa

/- A list of fractions that came in is read: each sign, each numerator, each denominator. -/
namespace Go.Proofs.Ytpehpflgfkdiaaa
open Go.RowKit Go.ChangeShapes Go.WideShapes Go.Deep
set_option linter.unusedVariables false

theorem bk_one {H : Type} (d : DataW H) : 1 ≤ Rows.uptoBulk d := by
  cases d with
  | lit l => cases l <;> simp [Rows.uptoBulk]
  | _ => simp [Rows.uptoBulk]
theorem bk_len {H : Type} (l : List (DataW H)) : l.length ≤ Rows.uptoBulkAll l := by
  induction l with
  | nil => simp
  | cons d r ih =>
    have := bk_one d
    simp only [Rows.uptoBulkAll, List.length_cons]
    omega
theorem bk_row {H : Type} (e r : List (DataW H)) : e.length + r.length ≤ Rows.uptoBulk (.slice e r) := by
  have h1 := bk_len e
  have h2 := bk_len r
  simp only [Rows.uptoBulk]
  omega
theorem bk_trip {H : Type} (x y z : DataW H) : Rows.uptoBulk y + Rows.uptoBulk z ≤ Rows.uptoBulk (.agg [x, y, z]) := by
  simp only [Rows.uptoBulk, Rows.uptoBulkAll]
  omega
theorem bk_mem {H : Type} {d : DataW H} {l : List (DataW H)} (h : d ∈ l) : Rows.uptoBulk d ≤ Rows.uptoBulkAll l := by
  induction l with
  | nil => cases h
  | cons x r ih =>
    simp only [Rows.uptoBulkAll]
    cases h with
    | head => omega
    | tail _ h => have := ih h; omega
theorem bk_elem {H : Type} {d : DataW H} {e r : List (DataW H)} (h : d ∈ e) : Rows.uptoBulk d ≤ Rows.uptoBulk (.slice e r) := by
  have := bk_mem h
  simp only [Rows.uptoBulk]
  omega

/-- A row of words that is trodden is read. -/
theorem reads_of_trod {H : Type} {enc : TypeId × Value → H} {P : Program} {w : World} {held : Bool} {t e : TypeId} {n : Nat} {v : Value} {x : DataW H × List MemPlace} (ht : P.underlying t = some (.slice e)) (he : P.underlying e = some (.int .u32)) (hc : P.cellsOf e = 1) (h : DataW.trod enc P w 0 (fun _ => true) held n t [v] = some x) :
    ∃ a len cap zs, v = .slice a len cap ∧ Reads w w.heap.size a len cap zs ∧ cap ≤ Rows.uptoBulk x.1 := by
  rcases open_ints ht he hc h with ⟨hcs, _⟩ | ⟨y, l, c, zs, hcs, _, hl, hm, hz, hx, hcell, hwz⟩
  · simp at hcs
    exact ⟨none, 0, 0, _, hcs, reads_of_row (zs := []) (.inl ⟨rfl, rfl, rfl, rfl⟩), Nat.zero_le _⟩
  · simp at hcs
    have hz' : zs.length = c := by simpa using hz
    refine ⟨some y, l, c, _, hcs, reads_of_row (zs := zs) (.inr ⟨_, rfl, hl, hm, hz', hcell, hwz⟩), ?_⟩
    rw [hx]
    have := bk_row (H := H) (lits .u32 (zs.take l)) (lits .u32 (zs.drop l))
    simp only [lits, List.length_map, List.length_take, List.length_drop] at this
    show c ≤ Rows.uptoBulk (.slice _ _)
    simp only [lits]
    omega

/-- One fraction in memory that is trodden. -/
theorem elem_of_trod {H : Type} {enc : TypeId × Value → H} {P : Program} {w : World} {held : Bool} {e tb ts tu : TypeId} {f0 f1 f2 : Field} {n : Nat} {cs : List Value} {d : DataW H} {pl : List MemPlace} (he : P.underlying e = some (.struct #[f0, f1, f2])) (ce : P.cellsOf e = 3)
    (o0 : f0.offset = 0) (o1 : f1.offset = 1) (o2 : f2.offset = 2) (c0 : P.cellsOf f0.type = 1) (c1 : P.cellsOf f1.type = 1) (c2 : P.cellsOf f2.type = 1)
    (u0 : P.underlying f0.type = some .bool) (u1 : P.underlying f1.type = some (.slice tu)) (u2 : P.underlying f2.type = some (.slice tu)) (uu : P.underlying tu = some (.int .u32)) (cu : P.cellsOf tu = 1)
    (h : DataW.trod enc P w 0 (fun _ => true) held n e cs = some (d, pl)) :
    ∃ b a1 l1 k1 z1 a2 l2 k2 z2, cs = [.bool b, .slice a1 l1 k1, .slice a2 l2 k2] ∧ Reads w w.heap.size a1 l1 k1 z1 ∧ Reads w w.heap.size a2 l2 k2 z2 ∧ k1 ≤ Rows.uptoBulk d ∧ k2 ≤ Rows.uptoBulk d := by
  obtain ⟨xs, k, hk, hxy, hcl, hxl, hf⟩ := DataW.trod_struct he h
  rw [ce] at hcl
  match xs, hxl, cs, hcl with
  | [y0, y1, y2], _, [v0, v1, v2], _ =>
    have g0 := hf 0 f0 rfl
    have g1 := hf 1 f1 rfl
    have g2 := hf 2 f2 rfl
    simp [o0, o1, o2, c0, c1, c2] at g0 g1 g2
    obtain ⟨b, hb, _⟩ := DataW.trod_bool u0 g0
    simp at hb
    obtain ⟨a1, l1, k1, z1, e1, r1, m1⟩ := reads_of_trod u1 uu cu g1
    obtain ⟨a2, l2, k2, z2, e2, r2, m2⟩ := reads_of_trod u2 uu cu g2
    simp only [Prod.mk.injEq] at hxy
    have hd : d = .agg [y0.1, y1.1, y2.1] := by simpa using hxy.1
    have hbk := bk_trip y0.1 y1.1 y2.1
    rw [← hd] at hbk
    exact ⟨b, a1, l1, k1, z1, a2, l2, k2, z2, by rw [hb, e1, e2], r1, r2, by omega, by omega⟩

/-- A list of fractions that is trodden. -/
theorem frl_of_trod {H : Type} {enc : TypeId × Value → H} {P : Program} {w : World} {held : Bool} {t e tu : TypeId} {f0 f1 f2 : Field} {n : Nat} {v : Value} {x : DataW H × List MemPlace} (ht : P.underlying t = some (.slice e)) (he : P.underlying e = some (.struct #[f0, f1, f2])) (ce : P.cellsOf e = 3)
    (o0 : f0.offset = 0) (o1 : f1.offset = 1) (o2 : f2.offset = 2) (c0 : P.cellsOf f0.type = 1) (c1 : P.cellsOf f1.type = 1) (c2 : P.cellsOf f2.type = 1)
    (u0 : P.underlying f0.type = some .bool) (u1 : P.underlying f1.type = some (.slice tu)) (u2 : P.underlying f2.type = some (.slice tu)) (uu : P.underlying tu = some (.int .u32)) (cu : P.cellsOf tu = 1)
    (h : DataW.trod enc P w 0 (fun _ => true) held n t [v] = some x) :
    ∃ a len cap, v = .slice a len cap ∧ len ≤ cap ∧ cap ≤ maxLen ∧ (len = 0 ∨ ∃ b o N A C U B D Y, a = some ⟨b, o, none⟩ ∧ FrL w b o len N A C U B D Y ∧ ∀ j, j < len → (U j).length ≤ Rows.uptoBulk x.1 ∧ (Y j).length ≤ Rows.uptoBulk x.1) := by
  rcases open_slice ht h with ⟨h0, _⟩ | ⟨a, len, cap, m, k, Dt, Pl, hcs, _, hl, hm, hmm, hx, hel⟩
  · simp at h0
    exact ⟨none, 0, 0, h0, Nat.le_refl _, Nat.zero_le _, .inl rfl⟩
  · simp at hcs
    refine ⟨some a, len, cap, hcs, hl, hm, ?_⟩
    by_cases hz : len = 0
    · exact .inl hz
    right
    rw [ce] at hel
    have hlm : len ≤ m := by rw [hmm]; split <;> omega
    have each : ∀ i, i < len → ∃ q : Bool × (Option Addr × Nat × Nat × List Int) × (Option Addr × Nat × Nat × List Int),
        w.cells? 0 (a.add (i * 3)) 3 = some [.bool q.1, .slice q.2.1.1 q.2.1.2.1 q.2.1.2.2.1, .slice q.2.2.1 q.2.2.2.1 q.2.2.2.2.1] ∧ Reads w w.heap.size q.2.1.1 q.2.1.2.1 q.2.1.2.2.1 q.2.1.2.2.2 ∧ Reads w w.heap.size q.2.2.1 q.2.2.2.1 q.2.2.2.2.1 q.2.2.2.2.2 ∧ q.2.1.2.2.1 ≤ Rows.uptoBulk x.1 ∧ q.2.2.2.2.1 ≤ Rows.uptoBulk x.1 := by
      intro i hi
      obtain ⟨cs', h1, h2⟩ := hel i (by omega)
      obtain ⟨b, a1, l1, k1, z1, a2, l2, k2, z2, e1, r1, r2, m1, m2⟩ := elem_of_trod (tb := tu) (ts := tu) he ce o0 o1 o2 c0 c1 c2 u0 u1 u2 uu cu h2
      subst e1
      have hbk : Rows.uptoBulk (Dt i) ≤ Rows.uptoBulk x.1 := by
        rw [hx]
        exact bk_elem (List.mem_map.2 ⟨i, List.mem_range.2 hi, rfl⟩)
      exact ⟨(b, (a1, l1, k1, z1), (a2, l2, k2, z2)), h1, r1, r2, by show k1 ≤ _; omega, by show k2 ≤ _; omega⟩
    obtain ⟨q, hq⟩ := choose_lt each
    obtain ⟨b, o, spot⟩ := a
    have hs : spot = none := by
      obtain ⟨_, _, hc⟩ := World.cells?_some (hq 0 (by omega)).1
      have e0 := hc 0 (by omega)
      simpa [Addr.add] using World.cell?_spot e0
    subst hs
    have cells : ∀ j, j < len → w.cell? ⟨b, o + j * 3, none⟩ = some (.bool (q j).1) ∧ w.cell? ⟨b, o + j * 3 + 1, none⟩ = some (.slice (q j).2.1.1 (q j).2.1.2.1 (q j).2.1.2.2.1) ∧ w.cell? ⟨b, o + j * 3 + 2, none⟩ = some (.slice (q j).2.2.1 (q j).2.2.2.1 (q j).2.2.2.2.1) := by
      intro j hj
      obtain ⟨_, _, hc⟩ := World.cells?_some (hq j hj).1
      have e0 := hc 0 (by omega)
      have e1 := hc 1 (by omega)
      have e2 := hc 2 (by omega)
      rw [Addr.add_add, Addr.add_lit] at e0 e1 e2
      rw [show o + (j * 3 + 1) = o + j * 3 + 1 by omega] at e1
      rw [show o + (j * 3 + 2) = o + j * 3 + 2 by omega] at e2
      exact ⟨by simpa using e0, by simpa using e1, by simpa using e2⟩
    refine ⟨b, o, fun i => (q i).1, fun i => (q i).2.1.1, fun i => (q i).2.1.2.2.1, fun i => (q i).2.1.2.2.2, fun i => (q i).2.2.1, fun i => (q i).2.2.2.2.1, fun i => (q i).2.2.2.2.2, rfl, ⟨?_, fun j hj => ?_, fun j hj => ?_, fun j hj => ?_⟩, fun j hj => ?_⟩
    · exact cell_block (cells 0 (by omega)).1
    · obtain ⟨e0, e1, e2⟩ := cells j hj
      refine ⟨e0, ?_, ?_⟩
      · rw [e1, (hq j hj).2.1.1]
      · rw [e2, (hq j hj).2.2.1.1]
    · have r := (hq j hj).2.1
      have e := r.1
      rw [← e] at r
      exact ⟨_, _, rfl, r⟩
    · have r := (hq j hj).2.2.1
      have e := r.1
      rw [← e] at r
      exact ⟨_, _, rfl, r⟩
    · have r1 := (hq j hj).2.1
      have r2 := (hq j hj).2.2.1
      have m1 := (hq j hj).2.2.2.1
      have m2 := (hq j hj).2.2.2.2
      have l1 := r1.1
      have l2 := r2.1
      have n1 := r1.2.2.2.1
      have n2 := r2.2.2.2.1
      exact ⟨by show (q j).2.1.2.2.2.length ≤ _; omega, by show (q j).2.2.2.2.2.length ≤ _; omega⟩

end Go.Proofs.Ytpehpflgfkdiaaa

/- What LentRatios leaves, as a list of fractions in memory, moved along. -/
namespace Go.Proofs.Ytpehpflgfkdiaaa
open Go.RowKit
set_option linter.unusedVariables false

/-- What was lent, as a list of fractions in memory. -/
theorem lent_frl {w0 w : World} {m gl capf lo : Nat} {N : Nat → Bool} {U Y : Nat → List Int} {G : Nat → Lt} {S : Nat → Nat} (h : LentAll w0 m N U Y (.slice (some ⟨gl, 0, none⟩) (m + 3) capf) G S lo w) (wu : ∀ j, j < m → Wd (U j)) (wy : ∀ j, j < m → Wd (Y j)) :
    FrL w gl 0 m N (fun j => some ⟨(G j).g1, 0, none⟩) (fun j => (G j).c1) U (fun j => some ⟨(G j).g2, 0, none⟩) (fun j => (G j).c2) Y := by
  refine ⟨(h.1.lt gl rfl).2, fun j hj => ?_, fun j hj => Sl.own (lent_front' (h.2.1.r1 j hj)) (wu j hj), fun j hj => Sl.own (lent_front' (h.2.1.r2 j hj)) (wy j hj)⟩
  obtain ⟨p0, p1, p2⟩ := (lent_cells h.1).1 j hj
  rw [Nat.zero_add]
  exact ⟨p0, p1, p2⟩

theorem LentAll.later {w0 w w' : World} {m lo : Nat} {N : Nat → Bool} {U Y : Nat → List Int} {v : Value} {G : Nat → Lt} {S : Nat → Nat} (h : LentAll w0 m N U Y v G S lo w) (hb : Below w.heap.size w w') : LentAll w0 m N U Y v G S lo w' :=
  ⟨owns_later3 h.1 hb, h.2.1.later hb, h.2.2.1.later hb, h.2.2.2.1, bt h.2.2.2.2 hb⟩
theorem flatL_one {f : Nat → List Value} (h : ∀ i, ∀ u ∈ f i, u.oneCell' = true) : ∀ n, ∀ u ∈ flatL f n, u.oneCell' = true
  | 0, u, hu => by cases hu
  | n + 1, u, hu => by
    rcases List.mem_append.1 hu with hu | hu
    · exact flatL_one h n u hu
    · exact h n u hu
theorem lentV_one (N : Nat → Bool) (U Y : Nat → List Int) (G : Nat → Lt) (i : Nat) : ∀ u ∈ lentV N U Y G i, u.oneCell' = true := by
  intro u hu
  simp only [lentV, List.mem_cons, List.not_mem_nil, or_false] at hu
  rcases hu with rfl | rfl | rfl <;> rfl
theorem spV_one (S : Nat → Nat) (i : Nat) : ∀ u ∈ spV S i, u.oneCell' = true := by
  intro u hu
  simp only [spV, List.mem_cons, List.not_mem_nil, or_false] at hu
  rcases hu with rfl | rfl | rfl <;> rfl

end Go.Proofs.Ytpehpflgfkdiaaa

/- The lists of a sum and of all that was lent: where each lies; that they lie apart. -/
namespace Go.Proofs.Ytpehpflgfkdiaaa
open Go.RowKit
set_option linter.unusedVariables false

/-- One of the lists: its address, its room, its words. -/
structure Ls where
  a : Option Addr
  c : Nat
  x : List Int
/-- The sum's two, then two of each that was lent, then those of the three behind. -/
def lsAt (m : Nat) (p q : Ls) (U Y : Nat → List Int) (G : Nat → Lt) (S : Nat → Nat) (j : Nat) : Ls :=
  if j = 0 then p else if j = 1 then q
  else if j < 2 * (m + 1) then (if j % 2 = 0 then ⟨some ⟨(G (j / 2 - 1)).g1, 0, none⟩, (G (j / 2 - 1)).c1, U (j / 2 - 1)⟩ else ⟨some ⟨(G (j / 2 - 1)).g2, 0, none⟩, (G (j / 2 - 1)).c2, Y (j / 2 - 1)⟩)
  else (if j % 2 = 0 then ⟨some ⟨S (j / 2 - 1 - m), 0, none⟩, 1, [77]⟩ else ⟨none, 0, []⟩)
theorem ls_cases {m j : Nat} (hj : j < 2 * (m + 4)) : j = 0 ∨ j = 1 ∨ (∃ i, i < m ∧ j = 2 * (i + 1)) ∨ (∃ i, i < m ∧ j = 2 * (i + 1) + 1) ∨ (∃ i, i < 3 ∧ j = 2 * (m + 1 + i)) ∨ (∃ i, i < 3 ∧ j = 2 * (m + 1 + i) + 1) := by
  by_cases h0 : j = 0
  · exact .inl h0
  by_cases h1 : j = 1
  · exact .inr (.inl h1)
  by_cases hm : j < 2 * (m + 1)
  · by_cases he : j % 2 = 0
    · exact .inr (.inr (.inl ⟨j / 2 - 1, by omega, by omega⟩))
    · exact .inr (.inr (.inr (.inl ⟨j / 2 - 1, by omega, by omega⟩)))
  · by_cases he : j % 2 = 0
    · exact .inr (.inr (.inr (.inr (.inl ⟨j / 2 - 1 - m, by omega, by omega⟩))))
    · exact .inr (.inr (.inr (.inr (.inr ⟨j / 2 - 1 - m, by omega, by omega⟩))))
section
variable {m : Nat} {p q : Ls} {U Y : Nat → List Int} {G : Nat → Lt} {S : Nat → Nat}
theorem ls0 : lsAt m p q U Y G S 0 = p := by simp [lsAt]
theorem ls1 : lsAt m p q U Y G S 1 = q := by simp [lsAt]
theorem ls2 {i : Nat} (hi : i < m) : lsAt m p q U Y G S (2 * (i + 1)) = ⟨some ⟨(G i).g1, 0, none⟩, (G i).c1, U i⟩ := by
  unfold lsAt
  rw [if_neg (by omega), if_neg (by omega), if_pos (by omega), if_pos (by omega), show 2 * (i + 1) / 2 - 1 = i by omega]
theorem ls3 {i : Nat} (hi : i < m) : lsAt m p q U Y G S (2 * (i + 1) + 1) = ⟨some ⟨(G i).g2, 0, none⟩, (G i).c2, Y i⟩ := by
  unfold lsAt
  rw [if_neg (by omega), if_neg (by omega), if_pos (by omega), if_neg (by omega), show (2 * (i + 1) + 1) / 2 - 1 = i by omega]
theorem ls4 {i : Nat} : lsAt m p q U Y G S (2 * (m + 1 + i)) = ⟨some ⟨S i, 0, none⟩, 1, [77]⟩ := by
  unfold lsAt
  rw [if_neg (by omega), if_neg (by omega), if_neg (by omega), if_pos (by omega), show 2 * (m + 1 + i) / 2 - 1 - m = i by omega]
theorem ls5 {i : Nat} : lsAt m p q U Y G S (2 * (m + 1 + i) + 1) = ⟨none, 0, []⟩ := by
  unfold lsAt
  rw [if_neg (by omega), if_neg (by omega), if_neg (by omega), if_neg (by omega)]
/-- Where it lies, if it has memory. -/
def lsB (l : Ls) : Option Nat := (Value.slice l.a l.x.length l.c).ownBlock
theorem lsB_some (g c : Nat) (x : List Int) : lsB ⟨some ⟨g, 0, none⟩, c, x⟩ = some g := rfl
/-- Behind the sum's two the blocks rise. -/
theorem ls_rise {w0 w : World} {lo : Nat} (hl : LtOK w0 w U Y G m) (hs : SpOK w0 w S lo 3) (hlo : ∀ j, j < m → (G j).g2 < lo) {i j x y : Nat} (hij : i < j) (h2 : 2 ≤ i) (hj : j < 2 * (m + 4)) (hx : lsB (lsAt m p q U Y G S i) = some x) (hy : lsB (lsAt m p q U Y G S j) = some y) : x < y := by
  rcases ls_cases (show i < 2 * (m + 4) by omega) with rfl | rfl | ⟨a, ha, rfl⟩ | ⟨a, ha, rfl⟩ | ⟨a, ha, rfl⟩ | ⟨a, ha, rfl⟩
  · omega
  · omega
  · rw [ls2 ha, lsB_some] at hx
    have hx' := Option.some.inj hx
    rcases ls_cases hj with rfl | rfl | ⟨b, hb, rfl⟩ | ⟨b, hb, rfl⟩ | ⟨b, hb, rfl⟩ | ⟨b, hb, rfl⟩
    · omega
    · omega
    · rw [ls2 hb, lsB_some] at hy
      have hy' := Option.some.inj hy
      have := hl.up a b (by omega) hb
      have := (hl.lt a ha).1
      omega
    · rw [ls3 hb, lsB_some] at hy
      have hy' := Option.some.inj hy
      have h1 := (hl.lt a ha).1
      have h3 := (hl.lt b hb).1
      by_cases c : a = b
      · subst c; omega
      · have := hl.up a b (by omega) hb
        omega
    · rw [ls4, lsB_some] at hy
      have hy' := Option.some.inj hy
      have h1 := (hl.lt a ha).1
      have h3 := hlo a ha
      have h4 := (hs.lt b hb).1
      omega
    · rw [ls5] at hy; cases hy
  · rw [ls3 ha, lsB_some] at hx
    have hx' := Option.some.inj hx
    rcases ls_cases hj with rfl | rfl | ⟨b, hb, rfl⟩ | ⟨b, hb, rfl⟩ | ⟨b, hb, rfl⟩ | ⟨b, hb, rfl⟩
    · omega
    · omega
    · rw [ls2 hb, lsB_some] at hy
      have hy' := Option.some.inj hy
      have := hl.up a b (by omega) hb
      omega
    · rw [ls3 hb, lsB_some] at hy
      have hy' := Option.some.inj hy
      have := hl.up a b (by omega) hb
      have := (hl.lt b hb).1
      omega
    · rw [ls4, lsB_some] at hy
      have hy' := Option.some.inj hy
      have h3 := hlo a ha
      have h4 := (hs.lt b hb).1
      omega
    · rw [ls5] at hy; cases hy
  · rw [ls4, lsB_some] at hx
    have hx' := Option.some.inj hx
    rcases ls_cases hj with rfl | rfl | ⟨b, hb, rfl⟩ | ⟨b, hb, rfl⟩ | ⟨b, hb, rfl⟩ | ⟨b, hb, rfl⟩
    · omega
    · omega
    · omega
    · omega
    · rw [ls4, lsB_some] at hy
      have hy' := Option.some.inj hy
      have := hs.up a b (by omega) hb
      omega
    · rw [ls5] at hy; cases hy
  · rw [ls5] at hx; cases hx
end

end Go.Proofs.Ytpehpflgfkdiaaa

/- The law RatioSums answers true, and writes nothing that was there: whatever list of fractions of lists that are not too long comes in. -/
namespace Go.Proofs.Ytpehpflgfkdiaaa
open Go.RowKit
set_option linter.unusedVariables false

theorem RSum.len {m : Nat} {E : Nat → Int} {q : Nat → Rat} {n : Bool} {xs ys : List Int} {e l : Int} (h : RSum m E q n xs ys e l) : xs.length ≤ 2048 ∧ ys.length ≤ 2048 := by
  rcases h.2.2 with ⟨_, _, _, _, _, rfl, rfl, _⟩ | ⟨_, _, _, _, _, _, rfl, rfl, _⟩ | ⟨_, _, hc, _⟩
  · exact ⟨Nat.zero_le _, Nat.zero_le _⟩
  · exact ⟨Nat.zero_le _, Nat.zero_le _⟩
  · obtain ⟨h1, h2, _⟩ := rchk_ok hc
    exact ⟨h1, h2⟩
theorem eqFault3 (a b : Int) (w : World) : (Op.equalIn 10000 29 (.agg #[.int .i64 a, .int .i64 b]) (.agg #[.int .i64 a, .int .i64 b])).run Try.prog w = .ok true w := by
  have u1 := Try.underlying27
  have a1 := Try.isAgg27
  have z1 := Try.sizeOf27
  have u3 := Try.underlying3
  have a3 := Try.isAgg3
  have z3 := Try.sizeOf3
  have hS : Try.prog.underlying 29 = some (.struct (Try.prog.fieldsOf 29)) := by kernel_rfl
  rw [show (10000 : Nat) = 9999 + 1 from rfl, run_equalIn_agg w 9999 29 _ _ hS (by kernel_rfl)]
  simp only [Program.fieldsOf, Try.underlying29]
  go_simp

theorem sum_cells {w6 : World} {base e gl6 cap6 m : Nat} {n : Bool} {a1 : Option Addr} {k1 : Nat} {xs : List Int} {b1 : Option Addr} {l1 : Nat} {ys : List Int} {N : Nat → Bool} {U Y : Nat → List Int} {G : Nat → Lt} {S : Nat → Nat} (o6 : w6.ownsRow base e 3 (.slice (some ⟨gl6, 0, none⟩) (1 + (m + 3)) cap6) (1 + (m + 3)) ([.bool n, .slice a1 xs.length k1, .slice b1 ys.length l1] ++ (flatL (lentV N U Y G) m ++ flatL (spV S) 3))) :
    ∀ j, j < 1 + (m + 3) → w6.cell? ⟨gl6, j * 3 + 1, none⟩ = some (.slice (lsAt m ⟨a1, k1, xs⟩ ⟨b1, l1, ys⟩ U Y G S (2 * j)).a (lsAt m ⟨a1, k1, xs⟩ ⟨b1, l1, ys⟩ U Y G S (2 * j)).x.length (lsAt m ⟨a1, k1, xs⟩ ⟨b1, l1, ys⟩ U Y G S (2 * j)).c) ∧ w6.cell? ⟨gl6, j * 3 + 2, none⟩ = some (.slice (lsAt m ⟨a1, k1, xs⟩ ⟨b1, l1, ys⟩ U Y G S (2 * j + 1)).a (lsAt m ⟨a1, k1, xs⟩ ⟨b1, l1, ys⟩ U Y G S (2 * j + 1)).x.length (lsAt m ⟨a1, k1, xs⟩ ⟨b1, l1, ys⟩ U Y G S (2 * j + 1)).c) := by
  intro j hj
  have hl := flatL_len (lentV_len N U Y G) m
  have key : ∀ t, t < 3 → w6.cell? ⟨gl6, j * 3 + t, none⟩ = ([.bool n, .slice a1 xs.length k1, .slice b1 ys.length l1] ++ (flatL (lentV N U Y G) m ++ flatL (spV S) 3))[j * 3 + t]? := fun t ht => o6.cellAt _ (by omega)
  by_cases h0 : j = 0
  · subst h0
    refine ⟨(key 1 (by omega)).trans ?_, (key 2 (by omega)).trans ?_⟩
    · rw [show 2 * 0 = 0 from rfl, ls0]; rfl
    · rw [show 2 * 0 + 1 = 1 from rfl, ls1]; rfl
  by_cases hm : j < m + 1
  · obtain ⟨i, rfl⟩ : ∃ i, j = i + 1 := ⟨j - 1, by omega⟩
    have key2 : ∀ t, t < 3 → w6.cell? ⟨gl6, (i + 1) * 3 + t, none⟩ = (lentV N U Y G i)[t]? := fun t ht => by
      rw [key t ht, List.getElem?_append_right (by simp; omega), List.getElem?_append_left (by rw [hl]; simp; omega)]
      rw [show (i + 1) * 3 + t - [Value.bool n, .slice a1 xs.length k1, .slice b1 ys.length l1].length = i * 3 + t by simp; omega]
      exact flatL_at (lentV_len N U Y G) ht m (by omega)
    refine ⟨(key2 1 (by omega)).trans ?_, (key2 2 (by omega)).trans ?_⟩
    · rw [ls2 (by omega)]; rfl
    · rw [ls3 (by omega)]; rfl
  · obtain ⟨i, rfl⟩ : ∃ i, j = m + 1 + i := ⟨j - 1 - m, by omega⟩
    have key2 : ∀ t, t < 3 → w6.cell? ⟨gl6, (m + 1 + i) * 3 + t, none⟩ = (spV S i)[t]? := fun t ht => by
      rw [key t ht, List.getElem?_append_right (by simp; omega), List.getElem?_append_right (by rw [hl]; simp; omega), hl]
      rw [show (m + 1 + i) * 3 + t - [Value.bool n, .slice a1 xs.length k1, .slice b1 ys.length l1].length - m * 3 = i * 3 + t by simp; omega]
      exact flatL_at (spV_len S) ht 3 (by omega)
    refine ⟨(key2 1 (by omega)).trans ?_, (key2 2 (by omega)).trans ?_⟩
    · rw [ls4]; rfl
    · rw [ls5]; rfl
theorem sum_apart {w0 w1 : World} {m lo : Nat} {p q : Ls} {U Y : Nat → List Int} {G : Nat → Lt} {S : Nat → Nat} (hl : LtOK w0 w1 U Y G m) (hs : SpOK w0 w1 S lo 3) (hlo : ∀ j, j < m → (G j).g2 < lo) (hp : ∀ x, lsB p = some x → w1.heap.size ≤ x) (hq : ∀ x, lsB q = some x → w1.heap.size ≤ x) (hpq : lsB p = none ∨ lsB p ≠ lsB q) :
    ∀ i j, i < 2 * (1 + (m + 3)) → j < 2 * (1 + (m + 3)) → i ≠ j → lsB (lsAt m p q U Y G S i) = none ∨ lsB (lsAt m p q U Y G S i) ≠ lsB (lsAt m p q U Y G S j) := by
  have low : ∀ j x, 2 ≤ j → j < 2 * (m + 4) → lsB (lsAt m p q U Y G S j) = some x → x < w1.heap.size := by
    intro j x h2 hj hx
    rcases ls_cases hj with rfl | rfl | ⟨a, ha, rfl⟩ | ⟨a, ha, rfl⟩ | ⟨a, ha, rfl⟩ | ⟨a, ha, rfl⟩
    · omega
    · omega
    · rw [ls2 ha, lsB_some] at hx
      have := Option.some.inj hx
      have h1 := hl.lt a ha
      omega
    · rw [ls3 ha, lsB_some] at hx
      have := Option.some.inj hx
      have h1 := hl.lt a ha
      omega
    · rw [ls4, lsB_some] at hx
      have := Option.some.inj hx
      have h1 := hs.lt a ha
      omega
    · rw [ls5] at hx; cases hx
  have high : ∀ j x, j < 2 → lsB (lsAt m p q U Y G S j) = some x → w1.heap.size ≤ x := by
    intro j x hj hx
    match j, hj with
    | 0, _ => rw [ls0] at hx; exact hp x hx
    | 1, _ => rw [ls1] at hx; exact hq x hx
  intro i j hi hj hij
  cases e1 : lsB (lsAt m p q U Y G S i) with
  | none => exact .inl rfl
  | some x =>
    right
    intro e
    have e2 := e.symm
    by_cases hi2 : 2 ≤ i
    · by_cases hj2 : 2 ≤ j
      · rcases Nat.lt_or_gt_of_ne hij with c | c
        · have := ls_rise hl hs hlo c hi2 (by omega) e1 e2
          omega
        · have := ls_rise hl hs hlo c hj2 (by omega) e2 e1
          omega
      · have h1 := low i x hi2 (by omega) e1
        have h2 := high j x (by omega) e2
        omega
    · by_cases hj2 : 2 ≤ j
      · have h1 := low j x hj2 (by omega) e2
        have h2 := high i x (by omega) e1
        omega
      · have hc : (i = 0 ∧ j = 1) ∨ (i = 1 ∧ j = 0) := by omega
        rcases hc with ⟨rfl, rfl⟩ | ⟨rfl, rfl⟩
        · rw [ls0] at e1
          rw [ls1] at e2
          rcases hpq with h | h
          · rw [h] at e1; cases e1
          · exact h (e1.trans e2.symm)
        · rw [ls1] at e1
          rw [ls0] at e2
          rcases hpq with h | h
          · rw [h] at e2; cases e2
          · exact h (e2.trans e1.symm)

set_option maxHeartbeats 6400000 in
set_option maxRecDepth 100000 in
theorem ratioSums_walk (sa : Option Addr) (g o m cp : Nat) (N : Nat → Bool) (A : Nat → Option Addr) (C : Nat → Nat) (U : Nat → List Int) (B : Nat → Option Addr) (D : Nat → Nat) (Y : Nat → List Int) (w : World) (h : FrM w sa g o m N A C U B D Y) (hcp : m ≤ cp) (hmx : cp ≤ maxLen) (hU : ∀ j, j < m → (U j).length ≤ 1048576 ∧ (Y j).length ≤ 1048576) :
    Calls Try.prog 3 #[.slice sa m cp] w fun e w' => e = .returned (.bool true) ∧ Below w.heap.size w w' := by
  have hmm : m ≤ 9223372036854775807 := by unfold maxLen at hmx; omega
  by_cases hbig : 300 < m
  · clear h hU
    go_enter Try.func3, Try.ntmps3
    go_wp2_with fail
    go_ret
    exact ⟨rfl, Below.refl _ _⟩
  obtain ⟨i0, hi, hz0, hz1, hz2⟩ := info_parts Try.infoR
  have HL := hid h
  have HU := hid hU
  have HW : Hid ((∀ j, j < m → Wd (U j)) ∧ ∀ j, j < m → Wd (Y j)) := ⟨fun j hj => ((h.of hj).2.slx j hj).wd, fun j hj => ((h.of hj).2.sly j hj).wd⟩
  have HC := hid (lentRatios_any g o m cp N A C U B D Y w sa h (by omega) hcp (fun j hj => ⟨Nat.le_trans (hU j hj).1 (by decide), Nat.le_trans (hU j hj).2 (by decide)⟩))
  clear h hU
  go_enter Try.func3, Try.ntmps3
  go_wp2_with fail
  refine Calls.mono HC.out ?_
  clear HC
  rintro e w1 ⟨v1, G, S, lo, rfl, hla⟩
  obtain ⟨gl, capf, hsh, hcf⟩ := own_shape3 hla.1 (by omega)
  subst hsh
  have HLA := hid hla
  have HF1 := hid (lent_frl hla HW.out.1 HW.out.2)
  have HS := hid (rSum_any gl 0 m capf N _ _ U _ _ Y w1 (some ⟨gl, 0, none⟩) (.inr ⟨rfl, HF1.out⟩) (by omega) (by omega))
  clear hla
  go_wp2_with fail
  refine Calls.mono HS.out ?_
  clear HS
  rintro e w2 ⟨n, v, xs, u, ys, err, loc, rfl, o1, p1, rs, hb2, hap⟩
  obtain ⟨a1, k1, hs⟩ := own_slice' o1
  subst hs
  obtain ⟨b1, l1, hs⟩ := own_slice' p1
  subst hs
  have HRS := hid rs
  have hln := rs.len
  have wx := rs.1
  have wy := rs.2.1
  have HA2 : Hid (Below w2.heap.size w2 ((w2.alloc (.cells #[.bool n, .slice a1 xs.length k1, .slice b1 ys.length l1] 26)).alloc (.cells #[.int .i64 err, .int .i64 loc] 29))) := bt (alloc_later _ _) (alloc_later _ _)
  have HBW := hid (bt hb2 HA2.out)
  have HOx := hid (And.intro (owns_later o1 HA2.out) (owns_later p1 HA2.out))
  have HBa : Hid (Box ((w2.alloc (.cells #[.bool n, .slice a1 xs.length k1, .slice b1 ys.length l1] 26)).alloc (.cells #[.int .i64 err, .int .i64 loc] 29)) w2.heap.size 26 #[.bool n, .slice a1 xs.length k1, .slice b1 ys.length l1]) := (Box.made w2 _ _).later (alloc_later _ _) (by simp)
  have HBe : Hid (Box ((w2.alloc (.cells #[.bool n, .slice a1 xs.length k1, .slice b1 ys.length l1] 26)).alloc (.cells #[.int .i64 err, .int .i64 loc] 29)) (w2.heap.size + 1) 29 #[.int .i64 err, .int .i64 loc]) := by
    have e := Box.made (w2.alloc (.cells #[.bool n, .slice a1 xs.length k1, .slice b1 ys.length l1] 26)) 29 #[.int .i64 err, .int .i64 loc]
    simp at e
    exact e
  have HD := hid (dSum_any g o m cp N A C U B D Y ((w2.alloc (.cells #[.bool n, .slice a1 xs.length k1, .slice b1 ys.length l1] 26)).alloc (.cells #[.int .i64 err, .int .i64 loc] 29)) sa (HL.out.later (bt HLA.out.2.2.2.2 HBW.out)) (by omega) hcp (fun j hj => ⟨Nat.le_trans (HU.out j hj).1 (by decide), Nat.le_trans (HU.out j hj).2 (by decide)⟩))
  clear o1 p1 rs hb2 HA2
  go_wp2_with fail
  refine Calls.mono HD.out ?_
  clear HD
  generalize ((w2.alloc (.cells #[.bool n, .slice a1 xs.length k1, .slice b1 ys.length l1] 26)).alloc (.cells #[.int .i64 err, .int .i64 loc] 29)) = V at *
  rintro e w3 ⟨n', v', xs', u', ys', err', loc', rfl, o2, p2, rs', hb3⟩
  obtain ⟨rfl, rfl, rfl, rfl, rfl⟩ := HRS.out.same rs'
  obtain ⟨a2, k2, hs⟩ := own_slice' o2
  subst hs
  obtain ⟨b2, l2, hs⟩ := own_slice' p2
  subst hs
  have HA3 : Hid (Below w3.heap.size w3 ((w3.alloc (.cells #[.bool n, .slice a2 xs.length k2, .slice b2 ys.length l2] 26)).alloc (.cells #[.int .i64 err, .int .i64 loc] 29))) := bt (alloc_later _ _) (alloc_later _ _)
  have HB3 := hid (bt hb3 HA3.out)
  have HBb : Hid (Box ((w3.alloc (.cells #[.bool n, .slice a2 xs.length k2, .slice b2 ys.length l2] 26)).alloc (.cells #[.int .i64 err, .int .i64 loc] 29)) w3.heap.size 26 #[.bool n, .slice a2 xs.length k2, .slice b2 ys.length l2]) := (Box.made w3 _ _).later (alloc_later _ _) (by simp)
  have HBf : Hid (Box ((w3.alloc (.cells #[.bool n, .slice a2 xs.length k2, .slice b2 ys.length l2] 26)).alloc (.cells #[.int .i64 err, .int .i64 loc] 29)) (w3.heap.size + 1) 29 #[.int .i64 err, .int .i64 loc]) := by
    have e := Box.made (w3.alloc (.cells #[.bool n, .slice a2 xs.length k2, .slice b2 ys.length l2] 26)) 29 #[.int .i64 err, .int .i64 loc]
    simp at e
    exact e
  replace HBa := hid (HBa.out.later HB3.out HBa.out.lt)
  replace HBe := hid (HBe.out.later HB3.out HBe.out.lt)
  replace HOx := hid (And.intro (owns_later HOx.out.1 HB3.out) (owns_later HOx.out.2 HB3.out))
  have HBW3 := hid (bt HBW.out HB3.out)
  have HSm := hid (sameRatio_eq n _ _ _ _ xs ys ((w3.alloc (.cells #[.bool n, .slice a2 xs.length k2, .slice b2 ys.length l2] 26)).alloc (.cells #[.int .i64 err, .int .i64 loc] 29)) (Sl.own HOx.out.1 wx) (Sl.own HOx.out.2 wy) (Sl.own (owns_later o2 HA3.out) wx) (Sl.own (owns_later p2 HA3.out) wy) (by omega) (by omega))
  obtain ⟨p0, p1, p2', _, _, _⟩ := res_box3 HBa.out (Below.refl _ _)
  obtain ⟨q0, q1, q2, _, _, _⟩ := res_box3 HBb.out (Below.refl _ _)
  have e0 := HBe.out.cell 0
  have e1 := HBe.out.cell 1
  have f0 := HBf.out.cell 0
  have f1 := HBf.out.cell 1
  have hEQ := eqFault3 err loc
  clear o2 p2 rs' hb3 HA3 HB3 HBW HRS HBb HBf HBe
  go_wp2_with fail
  refine Calls.mono HSm.out ?_
  clear HSm
  generalize ((w3.alloc (.cells #[.bool n, .slice a2 xs.length k2, .slice b2 ys.length l2] 26)).alloc (.cells #[.int .i64 err, .int .i64 loc] 29)) = V3 at *
  rintro e w4 ⟨rfl, hb4⟩
  have HB4 := hid (bt HBW3.out hb4)
  have HKp := hid (keptRatios_any g o m cp N A C U B D Y gl capf G S lo w w4 sa (HL.out.later (bt HLA.out.2.2.2.2 HB4.out)) (by omega) hcp (fun j hj => ⟨Nat.le_trans (HU.out j hj).1 (by decide), Nat.le_trans (HU.out j hj).2 (by decide)⟩) (HLA.out.later HB4.out) hcf)
  replace HBa := hid (HBa.out.later hb4 HBa.out.lt)
  replace HOx := hid (And.intro (owns_later HOx.out.1 hb4) (owns_later HOx.out.2 hb4))
  clear hb4 p0 p1 p2' q0 q1 q2 e0 e1 f0 f1 HBW3
  go_wp2_with fail
  refine Calls.mono HKp.out ?_
  clear HKp
  rintro e w5 ⟨rfl, hb5⟩
  have HB5 := hid (bt HB4.out hb5)
  replace HBa := hid (HBa.out.later hb5 HBa.out.lt)
  replace HOx := hid (And.intro (owns_later HOx.out.1 hb5) (owns_later HOx.out.2 hb5))
  obtain ⟨p0, p1, p2', _, _, _⟩ := res_box3 HBa.out (Below.refl _ _)
  clear hb5 HB4
  have hszw := (bt HLA.out.2.2.2.2 HB5.out).size
  have hs5 := HB5.out.size
  have HLit : Hid ((w5.alloc (.cells #[.bool n, .slice a1 xs.length k1, .slice b1 ys.length l1] 26)).ownsRow w.heap.size 26 3 (.slice (some ⟨w5.heap.size, 0, none⟩) 1 1) 1 [.bool n, .slice a1 xs.length k1, .slice b1 ys.length l1]) := World.ownsRow_lit (base := w.heap.size) (size := 3) (e := 26) w5 #[.bool n, .slice a1 xs.length k1, .slice b1 ys.length l1] 1 hszw (by unfold maxLen; omega) rfl
  have HA5 := hid (bt HB5.out (alloc_later w5 (.cells #[.bool n, .slice a1 xs.length k1, .slice b1 ys.length l1] 26)))
  have HFu := hid (owns_later3 HLA.out.1 HA5.out)
  have HOne : Hid (∀ u ∈ flatL (lentV N U Y G) m ++ flatL (spV S) 3, u.oneCell' = true) := fun u hu => (List.mem_append.1 hu).elim (flatL_one (lentV_one N U Y G) m u) (flatL_one (spV_one S) 3 u)
  obtain ⟨FL, hFL⟩ : ∃ l, l = flatL (lentV N U Y G) m ++ flatL (spV S) 3 := ⟨_, rfl⟩
  rw [← hFL] at HFu HOne
  have HFL := hid hFL
  have HLen : Hid (FL.length = (m + 3) * 3) := HFu.out.1
  have HNews : Hid (∀ j u, FL[j]? = some u → (w5.alloc (.cells #[.bool n, .slice a1 xs.length k1, .slice b1 ys.length l1] 26)).cell? ((⟨gl, 0, none⟩ : Addr).add j) = some u) := fun j u hj => by
    have hjl := (List.getElem?_eq_some_iff.1 hj).1
    rw [HLen.out] at hjl
    rw [Addr.add_lit, Nat.zero_add, HFu.out.cellAt j hjl]
    exact hj
  clear hFL
  go_wp2_with (at_builtin; refine wpList_append_own_g (by rfl) _ _ 22 rfl w.heap.size 26 i0 (.agg #[.bool false, .slice none 0 0, .slice none 0 0]) 3 56 Try.underlying22 hi hz0 hz1 hz2 rfl (by decide) _ 1 [.bool n, .slice a1 xs.length k1, .slice b1 ys.length l1] rfl HLit.out ⟨gl, 0, none⟩ (m + 3) capf FL rfl HLen.out HNews.out HOne.out (by unfold maxLen; omega) (by omega) (by simp; omega) ?_)
  intro v6 w6 o6 hg6 _
  obtain ⟨gl6, cap6, hsh6, hcap6⟩ := own_shape3 o6 (by omega)
  subst hsh6
  rw [HFL.out] at o6
  have HCel := hid (sum_cells o6)
  have HLt6 := hid ((HLA.out.2.1.later HA5.out).grown HLit.out hg6)
  have HSp6 := hid ((HLA.out.2.2.1.later HA5.out).grown HLit.out hg6)
  have hAx := owns_later HOx.out.1 (alloc_later w5 (.cells #[.bool n, .slice a1 xs.length k1, .slice b1 ys.length l1] 26))
  have hAy := owns_later HOx.out.2 (alloc_later w5 (.cells #[.bool n, .slice a1 xs.length k1, .slice b1 ys.length l1] 26))
  have HX6 := hid (World.ownsRow.kept hAx hg6 (own_unlike3 hAx HLit.out (by decide)))
  have HY6 := hid (World.ownsRow.kept hAy hg6 (own_unlike3 hAy HLit.out (by decide)))
  have HB6 : Hid (Below w.heap.size w w6) := ((bt HLA.out.2.2.2.2 HB5.out).alloc hszw _).grown hg6 (by simp; omega) (fun k hk => (HLit.out.lt k hk).1)
  have hw1 := HLA.out.2.2.2.2.size
  have hgl6 := own_lt3 o6
  have HALL : Hid (∀ j, j < 2 * (1 + (m + 3)) → Wd (lsAt m ⟨a1, k1, xs⟩ ⟨b1, l1, ys⟩ U Y G S j).x ∧ (lsAt m ⟨a1, k1, xs⟩ ⟨b1, l1, ys⟩ U Y G S j).x.length ≤ 1099511627776 ∧ w6.ownsRow w.heap.size 36 1 (.slice (lsAt m ⟨a1, k1, xs⟩ ⟨b1, l1, ys⟩ U Y G S j).a (lsAt m ⟨a1, k1, xs⟩ ⟨b1, l1, ys⟩ U Y G S j).x.length (lsAt m ⟨a1, k1, xs⟩ ⟨b1, l1, ys⟩ U Y G S j).c) (lsAt m ⟨a1, k1, xs⟩ ⟨b1, l1, ys⟩ U Y G S j).x.length ((lsAt m ⟨a1, k1, xs⟩ ⟨b1, l1, ys⟩ U Y G S j).x.map (Value.int .u32))) := fun j hj => by
    rcases ls_cases (show j < 2 * (m + 4) by omega) with rfl | rfl | ⟨i, hi', rfl⟩ | ⟨i, hi', rfl⟩ | ⟨i, hi', rfl⟩ | ⟨i, hi', rfl⟩
    · rw [ls0]; exact ⟨wx, by show xs.length ≤ _; omega, owns_base HX6.out hw1⟩
    · rw [ls1]; exact ⟨wy, by show ys.length ≤ _; omega, owns_base HY6.out hw1⟩
    · rw [ls2 hi']; exact ⟨HW.out.1 i hi', Nat.le_trans (HU.out i hi').1 (by decide), lent_front' (HLt6.out.r1 i hi')⟩
    · rw [ls3 hi']; exact ⟨HW.out.2 i hi', Nat.le_trans (HU.out i hi').2 (by decide), lent_front' (HLt6.out.r2 i hi')⟩
    · rw [ls4]; exact ⟨Wd.one (by decide), by show 1 ≤ _; omega, HSp6.out.r i hi'⟩
    · rw [ls5]; exact ⟨Wd.nil, Nat.zero_le _, World.ownsRow_nil _ _ _ _⟩
  have HPA := hid (sum_apart (p := ⟨a1, k1, xs⟩) (q := ⟨b1, l1, ys⟩) HLA.out.2.1 HLA.out.2.2.1 HLA.out.2.2.2.1 (fun x hx => (HX6.out.lt x hx).1) (fun x hx => (HY6.out.lt x hx).1) hap.out)
  have HAP := hid (apartRatios_any w.heap.size (1 + (m + 3)) cap6 gl6 (fun j => (lsAt m ⟨a1, k1, xs⟩ ⟨b1, l1, ys⟩ U Y G S j).a) (fun j => (lsAt m ⟨a1, k1, xs⟩ ⟨b1, l1, ys⟩ U Y G S j).c) (fun j => (lsAt m ⟨a1, k1, xs⟩ ⟨b1, l1, ys⟩ U Y G S j).x) w6 (by omega) (by omega) hcap6 hgl6 HB6.out.size HCel.out (fun j hj => (HALL.out j hj).1) (fun j hj => (HALL.out j hj).2.1) (fun j hj => (HALL.out j hj).2.2) HPA.out)
  clear HALL HPA HCel HLt6 HSp6 hAx hAy HX6 HY6 o6 hg6 HLit HA5 HFu HOne HFL HLen HNews HOx HBa HB5 p0 p1 p2'
  go_wp2_with fail
  refine Calls.mono HAP.out ?_
  rintro e wE ⟨rfl, hbE⟩
  have HBE := hid (HB6.out.trans hbE)
  clear hbE HAP
  go_wp2_with fail
  go_ret
  exact ⟨rfl, HBE.out⟩

end Go.Proofs.Ytpehpflgfkdiaaa

