/- My texts on the way to CleanMerge, one behind the other: contracts of the program and of the document's answers. -/
import Derived.Test.YtmigdomlakflfaaJ1
import Derived.Test.YtmigdomlakflfaaJ2
import Derived.Deep.RegionHeld3
import Derived.Test.YtmigdomlakflfaaIterShelf
/- package clean: heightsByTick, of any lists. -/
namespace Go.Proofs.Ytmigdomlakflfaa
open Go.RowKit Go.Maps
set_option linter.unusedVariables false
set_option linter.unusedSimpArgs false

theorem HbAt.drew {W : World} {mb : Nat} {F : List (Int × Nat)} {D : DataW Value} {G : Int → Value} (h : HbAt W mb F D G) : HbAt W.drew mb F D G := ⟨h.own, h.has, h.at_, h.row, h.apart⟩
theorem hzeroR (w : World) : (zeroValue 37).run Try.prog w = .ok (.slice none 0 0) w := by kernel_rfl
theorem vh_mk (v : Value) : vhElem v = some (.held v, []) := rfl
theorem HbAt.look {W : World} {mb : Nat} {F : List (Int × Nat)} {D : DataW Value} {G : Int → Value} (h : HbAt W mb F D G) {t : Int} (ht : I64 t) : (Instr.lookup 57 (.map (some mb)) (.int .i64 t) false).run Try.prog W = .ok (G t) W := by
  obtain ⟨v, ps, hrun, hv⟩ := h.own.lookup ykeys Try.underlying57 (hzeroR W) (vh_mk (.slice none 0 0)) (ykey ht)
  have e : DataW.held v = D.atKey (.int .i64 t) (.held hnil) := congrArg Prod.fst (Option.some.inj hv)
  rw [hrun, DataW.held.inj (e.trans (h.at_ t))]
/-- One more height: what an append and a store leave. -/
theorem HbAt.put {W W1 : World} {mb : Nat} {F : List (Int × Nat)} {D : DataW Value} {G : Int → Value} (h : HbAt W mb F D G) {t : Int} {b : Nat} {v' : Value} (ht : I64 t) (hone : isone b = true) (hsz : F.length < 1000000) (hg1 : W.grownBy W1 (G t).ownBlock)
    (hr : W1.ownsRow (mb + 1) 22 1 v' ((hgtAt t F).length + 1) ((hgtAt t F).map (Value.float .f64) ++ [.float .f64 b])) (hloc : v'.ownBlock = (G t).ownBlock ∨ v'.ownBlock = some W.heap.size) :
    ∃ W5, (Instr.mapUpdate 57 (.map (some mb)) (.int .i64 t) v').run Try.prog W1 = .ok () W5 ∧ HbAt W5 mb (F ++ [(t, b)]) (D.put (.int .i64 t) (.held v')) (fun u => if u = t then v' else G u) ∧ W1.grownBy W5 (some mb) := by
  have hne : some mb ≠ (G t).ownBlock := fun e => by have := ((h.row t).lt mb e.symm).1; omega
  obtain ⟨W5, hu, hown, hg5⟩ := (h.own.kept hg1 hne).update ykeys Try.underlying57 (by unfold maxLen; omega) (ykey ht) (vh_mk v')
  exact ⟨W5, hu, h.more hone h.own.lt hg1 hr (hloc.imp id (fun e => ⟨_, e, Nat.le_refl _⟩)) hown hg5, hg5⟩
/-- What heightsByTick tells. -/
def HbT (w : World) (F : List (Int × Nat)) (e : Ending) (w' : World) : Prop := ∃ D G, e = .returned (.map (some w.heap.size)) ∧ Hid (HbAt w' w.heap.size F D G) ∧ Below w.heap.size w w'
set_option maxHeartbeats 3200000 in
set_option maxRecDepth 100000 in
theorem eheights_any (a : Option Addr) (n cap : Nat) (ls : List LsI) (w : World) (hn : n ≤ 100000) (hm : (flatS ls).length < 1000000) (hl : ls.length = n) (h : RdL w a ls) :
    Calls Try.prog 25 #[.slice a n cap] w (HbT w (flatS ls)) := by
  obtain ⟨i0, hi0, hz0, hz1, hz2⟩ := info_parts Try.infoF
  have HX := hid h
  have HL := hid hl
  have hmm := @run_makeMap Try.prog
  clear h hl
  go_enter Try.func25, Try.ntmps25
  go_wp2_with fail
  obtain ⟨V0, hV0⟩ : ∃ V0, w.alloc (.map #[] 0) = V0 := ⟨_, rfl⟩
  have HV : Hid (HbAt V0 w.heap.size [] (.map []) (fun _ => hnil) ∧ Below w.heap.size w V0) := by
    rw [← hV0]
    exact ⟨HbAt.made w, (Below.refl _ _).alloc (Nat.le_refl _) _⟩
  rw [hV0]
  clear hV0 hmm
  go_loopw [11] (fun x wr => ∃ (i : Nat) (D : DataW Value) (G : Int → Value), i ≤ n ∧ x = .int .i64 (i : Int) ∧ Hid (HbAt wr w.heap.size (flatS (ls.take i)) D G ∧ Below w.heap.size w wr)) (fun x _ => n - (intOf x).toNat)
  case atStart => exact ⟨0, _, _, Nat.zero_le _, rfl, HV⟩
  case round =>
    clear HV
    obtain ⟨i, D, G, hi, rfl, HH⟩ := hrel
    by_cases hlt : i < n
    · have hkx : i < ls.length := by have := HL.out; omega
      have hj : ls[i]? = some ls[i] := List.getElem?_eq_getElem hkx
      obtain ⟨hrs, hnz, h64⟩ := HX.out.2 _ (List.getElem_mem hkx)
      have HT2 := hid (flatS_take hkx)
      have HP2 := hid (flatS_pre ls (i + 1))
      rcases HX.out.1 with h0 | ⟨g, o, rfl, hg, hx⟩
      · rw [h0] at hkx; exact absurd hkx (by simp)
      have hc0 := hx i _ hj
      clear hx hj
      generalize ls[i] = q at *
      obtain ⟨qa, qc, qx⟩ := q
      dsimp only at hc0 hrs hnz h64 HT2
      have hbig : (flatS (ls.take i)).length + qx.length < 1000000 := by
        have q1 := HP2.out
        rw [HT2.out, List.length_append] at q1
        omega
      have HC0 := hid hc0
      have HRS := hid hrs
      have H64 := hid h64
      have hk1 : (i : Int) < (n : Int) := by omega
      have c0 := (HH.out.2.cell (p := ⟨g, o + i, none⟩) hg).trans HC0.out
      clear hc0 hrs hnz h64 HP2
      generalize hFi : flatS (ls.take i) = Fi at *
      have HFi := hid hFi
      clear hFi
      go_wp2_with fail
      clear c0
      go_loopw [17] (fun x wq => ∃ (k : Nat) (D : DataW Value) (G : Int → Value), k ≤ qx.length ∧ x = .int .i64 (k : Int) ∧ Hid (HbAt wq w.heap.size (Fi ++ qx.take k) D G ∧ Below w.heap.size w wq)) (fun x _ => qx.length - (intOf x).toNat)
      case atStart =>
        refine ⟨0, D, G, Nat.zero_le _, rfl, ?_⟩
        rw [List.take_zero, List.append_nil]
        exact HH
      case round =>
        clear HH D G
        obtain ⟨k, D, G, hk, rfl, HH⟩ := hrel
        by_cases hl2 : k < qx.length
        · have hj : qx[k]? = some qx[k] := List.getElem?_eq_getElem hl2
          have H6 := hid (H64.out _ (List.getElem_mem hl2))
          have HN := hid (show Fi ++ qx.take (k + 1) = (Fi ++ qx.take k) ++ [qx[k]] by rw [List.take_succ_eq_append_getElem hl2, ← List.append_assoc])
          have hql : (Fi ++ qx.take k).length < 1000000 := by
            rw [List.length_append, List.length_take]
            omega
          rcases HRS.out with h0 | ⟨g2, o2, rfl, hg2, hx2⟩
          · rw [h0] at hl2; exact absurd hl2 (by simp)
          obtain ⟨e0, e1⟩ := hx2 k _ hj
          have d0 := (HH.out.2.cell (p := ⟨g2, o2 + k * 2, none⟩) hg2).trans e0
          have d1 := (HH.out.2.cell (p := ⟨g2, o2 + k * 2 + 1, none⟩) hg2).trans e1
          clear hx2 e0 e1 hj
          generalize qx[k] = u at *
          obtain ⟨pt, pb⟩ := u
          dsimp only at d0 d1 H6 HN
          generalize Fi ++ qx.take k = Q at *
          have hk2 : (k : Int) < (qx.length : Int) := by omega
          have sF : ∀ (W : World) (p : Addr) (y : Nat) (md : Mode), (store p (.float .f64 y) md).run Try.prog W = stored Try.prog W p (.float .f64 y) md := fun W p y md => run_store Try.prog W p _ md rfl
          go_wp2_with fail
          obtain ⟨W1, hW1⟩ : ∃ W1, wr.alloc (.cells #[.int .i64 pt, .float .f64 pb] 32) = W1 := ⟨_, rfl⟩
          have HX1 : Hid (FBox W1 wr.heap.size 32 #[.int .i64 pt, .float .f64 pb] ∧ HbAt W1 w.heap.size Q D G ∧ Below w.heap.size w W1) := by
            rw [← hW1]
            exact ⟨FBox.made _ _ _, HH.out.1.later (World.grownBy_alloc wr _ none), HH.out.2.alloc (Nat.le_of_lt HH.out.1.own.lt) _⟩
          have HR : Hid (∀ t g, (G t).ownBlock = some g → g < wr.heap.size) := fun t g e => ((HH.out.1.row t).lt g e).2
          have hmb : w.heap.size < wr.heap.size := HH.out.1.own.lt
          rw [hW1]
          clear hW1 sF d0 d1 HH
          have b0 : W1.cell? ⟨wr.heap.size, 0, none⟩ = some (.int .i64 pt) := HX1.out.1.cell 0
          have b1 : W1.cell? ⟨wr.heap.size, 1, none⟩ = some (.float .f64 pb) := HX1.out.1.cell 1
          go_wp2_with fail
          refine Calls.mono (eisone_any pb W1 H6.out.2) ?_
          rintro e' w2 ⟨rfl, hw2⟩
          rw [hw2]
          clear hw2 w2
          cases hone : isone pb with
          | true =>
            have HO := hid hone
            have hpt : I64 pt := H6.out.1
            have HA : Hid (HbAt (W1.alloc (.cells #[.float .f64 pb] 22)).drew w.heap.size Q D G) := (HX1.out.2.1.later (World.grownBy_alloc _ _ none)).drew
            have l0 := HX1.out.2.1.drew.look hpt
            have l1 := HA.out.look hpt
            have hs0 : W1.drew.cell? ⟨wr.heap.size, 0, none⟩ = some (.int .i64 pt) ∧ W1.drew.cell? ⟨wr.heap.size, 1, none⟩ = some (.float .f64 pb) := ⟨b0, b1⟩
            have HXA : Hid (FBox (W1.alloc (.cells #[.float .f64 pb] 22)).drew wr.heap.size 32 #[.int .i64 pt, .float .f64 pb]) := FBox.later (w := W1) (w' := W1.alloc (.cells #[.float .f64 pb] 22)) HX1.out.1 ((Below.refl _ _).alloc (Nat.le_refl _) _) HX1.out.1.lt
            have hs1 : (W1.alloc (.cells #[.float .f64 pb] 22)).drew.cell? ⟨wr.heap.size, 0, none⟩ = some (.int .i64 pt) ∧ (W1.alloc (.cells #[.float .f64 pb] 22)).drew.cell? ⟨wr.heap.size, 1, none⟩ = some (.float .f64 pb) := ⟨HXA.out.cell 0, HXA.out.cell 1⟩
            have HBA : Hid (Below w.heap.size w (W1.alloc (.cells #[.float .f64 pb] 22)).drew) := Below.drew (Below.alloc HX1.out.2.2 HX1.out.2.2.size _)
            have HSZ : w.heap.size + 1 ≤ (W1.alloc (.cells #[.float .f64 pb] 22)).drew.heap.size := HA.out.own.lt
            have hlen : (hgtAt pt Q).length < 1000000 := Nat.lt_of_le_of_lt (hgtAt_len pt Q) hql
            have HU : Hid (∀ v1 W4, W4.ownsRow (w.heap.size + 1) 22 1 v1 ((hgtAt pt Q).length + 1) ((hgtAt pt Q).map (Value.float .f64) ++ [.float .f64 pb]) → (W1.alloc (.cells #[.float .f64 pb] 22)).drew.grownBy W4 (G pt).ownBlock → (v1.ownBlock = (G pt).ownBlock ∨ v1.ownBlock = some (W1.alloc (.cells #[.float .f64 pb] 22)).drew.heap.size) →
                (W4.cell? ⟨wr.heap.size, 0, none⟩ = some (.int .i64 pt) ∧ W4.cell? ⟨wr.heap.size, 1, none⟩ = some (.float .f64 pb)) ∧ ∃ W5, (Instr.mapUpdate 57 (.map (some w.heap.size)) (.int .i64 pt) v1).run Try.prog W4 = .ok () W5 ∧ (W5.cell? ⟨wr.heap.size, 0, none⟩ = some (.int .i64 pt) ∧ W5.cell? ⟨wr.heap.size, 1, none⟩ = some (.float .f64 pb)) ∧ Hid (HbAt W5 w.heap.size (Q ++ [(pt, pb)]) (D.put (.int .i64 pt) (.held v1)) (fun u => if u = pt then v1 else G u) ∧ Below w.heap.size w W5)) := by
              intro v1 W4 o1 g1 a1
              obtain ⟨W5, hu, hH, g5⟩ := HA.out.put hpt HO.out hql g1 o1 a1
              have B4 : FBox W4 wr.heap.size 32 #[.int .i64 pt, .float .f64 pb] := HXA.out.gby g1 (fun e => by have := HR.out _ _ e; omega)
              have B5 : FBox W5 wr.heap.size 32 #[.int .i64 pt, .float .f64 pb] := B4.gby g5 (fun e => by injection e with e; omega)
              exact ⟨⟨B4.cell 0, B4.cell 1⟩, W5, hu, ⟨B5.cell 0, B5.cell 1⟩, hH, (HBA.out.grown g1 HBA.out.size (fun g e => by have := ((HA.out.row pt).lt g e).1; omega)).grown g5 (Nat.le_trans HBA.out.size g1.size) (fun g e => by cases e; exact Nat.le_refl _)⟩
            have HROW := hid (HA.out.row pt)
            clear HA HX1 b0 b1 HXA HBA hpt HR hmb hone
            generalize hgtAt pt Q = hq at *
            go_wp2_with fail
            go_region_held3 (fun V : World => V.cell? ⟨wr.heap.size, 0, none⟩ = some (.int .i64 pt) ∧ V.cell? ⟨wr.heap.size, 1, none⟩ = some (.float .f64 pb)) (first | exact hs0 | exact hs1 | exact hs4 | exact hs5 | go_keep)
              (first
                | (refine step_append_own_at rfl (.tmp 30) (.tmp 33) 37 rfl (w.heap.size + 1) 22 i0 (.float .f64 0) 1 8 Try.underlying37 hi0 hz0 hz1 hz2 rfl (by decide) (G pt) hq.length (hq.map (Value.float .f64)) rfl HROW.out ⟨W1.heap.size, 0, none⟩ 1 1 [.float .f64 pb] rfl rfl (cell_one_new _ _ _) (by simp [Value.oneCell']) (by unfold maxLen; omega) (by omega) HSZ ?_; intro v1 W4 o1 gr1 at1; obtain ⟨hs4, W5, hu, hs5, HB5⟩ := HU.out v1 W4 o1 gr1 at1))
            all_goals (
              have HO5 : Hid (HbAt W5 w.heap.size (Fi ++ qx.take (k + 1)) (D.put (.int .i64 pt) (.held v1)) (fun u => if u = pt then v1 else G u) ∧ Below w.heap.size w W5) := by
                show _ ∧ _
                rw [HN.out]
                exact HB5.out
              clear hs0 hs1 hs4 hs5 l0 l1 HU HROW
              go_wp2_with fail
              have hwr : IntKind.i64.wrap ((k : Int) + 1) = (k : Int) + 1 := by rw [IntKind.wrap_i64]; omega
              exact ⟨⟨k + 1, _, _, by omega, by go_num, HO5⟩, by simp [intOf]; omega⟩)
          | false =>
            have HO5 : Hid (HbAt W1 w.heap.size (Fi ++ qx.take (k + 1)) D G ∧ Below w.heap.size w W1) := by
              show _ ∧ _
              rw [HN.out]
              exact ⟨HX1.out.2.1.skip hone, HX1.out.2.2⟩
            go_wp2_with fail
            exact ⟨⟨k + 1, D, G, by omega, by go_num, HO5⟩, by simp [intOf]; omega⟩
        · have hkk : k = qx.length := by omega
          subst hkk
          have HO5 : Hid (HbAt wr w.heap.size (flatS (ls.take (i + 1))) D G ∧ Below w.heap.size w wr) := by
            have q := HH.out
            rw [List.take_length] at q
            show _ ∧ _
            rw [HT2.out]
            exact q
          go_wp2_with fail
          exact ⟨⟨i + 1, D, G, by omega, by go_num, HO5⟩, by simp [intOf]; omega⟩
    · obtain rfl : i = n := by omega
      have hkk : ¬ (i : Int) < (i : Int) := by omega
      have HE : Hid (HbAt wr w.heap.size (flatS ls) D G ∧ Below w.heap.size w wr) := by
        have q := HH.out
        rw [List.take_of_length_le (by have := HL.out; omega)] at q
        exact q
      go_wp2_with fail
      go_ret
      exact ⟨D, G, rfl, HE.out.1, HE.out.2⟩
end Go.Proofs.Ytmigdomlakflfaa

/- package clean: Sorted of the keys of the map of heights. -/
namespace Go.Proofs.Ytmigdomlakflfaa
open Go.RowKit
set_option linter.unusedVariables false
set_option linter.unusedSimpArgs false

/-- The ticks at which a sample is one, rising. -/
structure HbK (F : List (Int × Nat)) (K : List Int) : Prop where
  rise : K.Pairwise (fun x y => x < y)
  mem : ∀ t, t ∈ K ↔ ∃ p ∈ F, isone p.2 = true ∧ p.1 = t
theorem hgtAt_some (t : Int) (F : List (Int × Nat)) : (!(hgtAt t F).isEmpty) = true ↔ ∃ p ∈ F, isone p.2 = true ∧ p.1 = t := by
  unfold hgtAt
  rw [Bool.not_eq_true', List.isEmpty_eq_false_iff_exists_mem]
  constructor
  · rintro ⟨x, hx⟩
    obtain ⟨p, hp, rfl⟩ := List.mem_map.1 hx
    obtain ⟨h1, h2⟩ := List.mem_filter.1 hp
    simp at h2
    exact ⟨p, h1, h2.2, h2.1⟩
  · rintro ⟨p, hp, h1, h2⟩
    exact ⟨p.2, List.mem_map.2 ⟨p, List.mem_filter.2 ⟨hp, by simp [h1, h2]⟩, rfl⟩⟩
theorem intKeys_of {w : World} {mb n : Nat} {D : DataW Value} (hown : w.ownsMap Try.prog 3 vhElem mb n D) : (intKeys D).Nodup ∧ ∀ x, x ∈ intKeys D ↔ Maps.has D (.int .i64 x) = true := by
  obtain ⟨es, hD, hpw, _⟩ := hown.entries ykeys
  obtain ⟨es', hD', hko⟩ := hown.keysOf
  obtain rfl : es = es' := by rw [hD] at hD'; simpa using hD'
  subst hD
  have hk : ∀ p ∈ es, ∃ x, p.1 = .int .i64 x := fun p hp => by obtain ⟨v, hv⟩ := hko p hp; obtain ⟨x, _, hx, _⟩ := Maps.keyOf_i64 Try.underlying3 hv; exact ⟨x, hx⟩
  constructor
  · show (es.map fun p => Go.intOf p.1).Nodup
    refine List.pairwise_map.2 (hpw.imp_of_mem fun {p q} hp' hq' hne e => hne ?_)
    obtain ⟨a, ha⟩ := hk p hp'
    obtain ⟨b, hb⟩ := hk q hq'
    rw [ha, hb] at e ⊢
    exact congrArg _ e
  · intro x
    rw [Maps.has_eq, List.any_eq_true]
    show x ∈ es.map (fun p => Go.intOf p.1) ↔ _
    rw [List.mem_map]
    constructor
    · rintro ⟨p, hp', rfl⟩
      obtain ⟨a, ha⟩ := hk p hp'
      exact ⟨p, hp', by rw [ha]; simp [Lit.sameKey, Go.intOf]⟩
    · rintro ⟨p, hp', hs⟩
      obtain ⟨a, ha⟩ := hk p hp'
      rw [ha] at hs
      exact ⟨p, hp', by rw [ha]; simpa [Lit.sameKey, Go.intOf] using hs⟩
theorem HbK.of {W : World} {mb : Nat} {F : List (Int × Nat)} {D : DataW Value} {G : Int → Value} (h : HbAt W mb F D G) {ss : List Int} (hp : ss.Perm (intKeys D)) : HbK F (ss.mergeSort (fun x y => decide (x ≤ y))) := by
  obtain ⟨hn, hm⟩ := intKeys_of h.own
  have hp2 := (List.mergeSort_perm ss (fun x y => decide (x ≤ y))).trans hp
  have h1 := List.pairwise_mergeSort (le := fun x y : Int => decide (x ≤ y)) (by intro a b c; simp; omega) (by intro a b; simp; omega) ss
  have h2 := hp2.nodup_iff.2 hn
  refine ⟨(h1.and h2).imp (fun {a b} q => ?_), fun t => ?_⟩
  · have q1 : a ≤ b := by simpa using q.1
    have q2 : a ≠ b := q.2
    omega
  · rw [hp2.mem_iff, hm t, h.has t]
    exact hgtAt_some t F
/-- What Sorted tells of these keys. -/
def SrtT (W : World) (F : List (Int × Nat)) (e : Ending) (w' : World) : Prop := ∃ (v : Value) (K : List Int), e = .returned v ∧ Hid (HbK F K ∧ K.length ≤ F.length) ∧ Hid (w'.ownsRow W.heap.size 3 1 v K.length (K.map (Value.int .i64))) ∧ Below W.heap.size W w'
theorem esorted_any {W : World} {mb : Nat} {F : List (Int × Nat)} {D : DataW Value} {G : Int → Value} (h : HbAt W mb F D G) (hF : F.length ≤ 1000000) :
    Calls Try.prog 26 #[.func (.func 48) #[] #[.pointer (some ⟨W.heap.size, 0, none⟩)]] (W.alloc (.cells #[.map (some mb)] 57)) (SrtT W F) := by
  have hsz : Maps.size D ≤ F.length := h.own.size_le
  refine Calls.mono ((callsIn_wide (n := 5)).1 (Try.slices_Sorted_keys_26_27 mb F.length D vhElem W h.own (by unfold maxLen; omega) (by omega))) ?_
  rintro e w' ⟨v, ss, rfl, hS, hrow, hnil, hb⟩
  have hl : (ss.mergeSort (fun x y => decide (x ≤ y))).length = ss.length := List.length_mergeSort _
  have hl2 : ss.length ≤ F.length := by
    rw [hS.length_eq]
    obtain ⟨es, hD, _⟩ := h.own.entries ykeys
    subst hD
    simpa [intKeys, Maps.size] using hsz
  refine ⟨v, ss.mergeSort (fun x y => decide (x ≤ y)), rfl, ⟨HbK.of h hS, by rw [hl]; exact hl2⟩, ?_, ?_⟩
  · rw [hl]
    exact yowns_base hrow (by simp)
  · exact ((Below.refl _ W).alloc (Nat.le_refl _) _).trans (hb.mono (by simp))
theorem ekeys_any (mb : Nat) (W : World) : Calls Try.prog 27 #[.map (some mb)] W fun e w' => e = .returned (.func (.func 48) #[] #[.pointer (some ⟨W.heap.size, 0, none⟩)]) ∧ w' = W.alloc (.cells #[.map (some mb)] 57) := (callsIn_wide (n := 5)).1 (Try.maps_Keys_27 (some mb) W)
end Go.Proofs.Ytmigdomlakflfaa

/- The document's Merge: of any lists of samples. -/
namespace Go.Proofs.Ytmigdomlakflfaa
open Go.RowKit
set_option linter.unusedVariables false
set_option linter.unusedSimpArgs false

/-- What Merge tells: what is refused of the lists; a mean that is refused; too much; what was gathered. -/
def MgC (ls : List LsI) (er ix : Int) (v : Value) (Q : List (Int × Nat) → Prop) : Prop :=
  (chkL ls ≠ (0, 0) ∧ (er, ix) = chkL ls ∧ v = .slice none 0 0) ∨
  (chkL ls = (0, 0) ∧ MrX (flatS ls) ∧ er = 9 ∧ ix = -1 ∧ v = .slice none 0 0) ∨
  (chkL ls = (0, 0) ∧ ∃ O, MrA (flatS ls) O ∧ ((4096 < O.length ∧ er = 3 ∧ ix = -1 ∧ v = .slice none 0 0) ∨ (O.length ≤ 4096 ∧ er = 0 ∧ ix = 0 ∧ Q O)))
def MgT (w : World) (ls : List LsI) (e : Ending) (w' : World) : Prop := ∃ v er ix, e = .returned (.tuple #[v, .agg #[.int .i64 er, .int .i64 ix]]) ∧ Hid (MgC ls er ix v (fun O => w'.ownsRow w.heap.size 32 2 v O.length (smC O))) ∧ Below w.heap.size w w'
/-- How much is left. -/
def mgM (x s : Value) : Nat := match s with
  | .bool true => 1048578 - (intOf x).toNat
  | _ => 0
theorem chkF_ok : ∀ (ls : List LsI) (i : Nat), chkF i ls = (0, 0) → ∀ p ∈ ls, p.xs.length ≤ 4096 ∧ anyNo p.xs = false
  | [], _, _ => by simp
  | q :: r, i, h => by
    unfold chkF at h
    by_cases h1 : 4096 < q.xs.length
    · rw [if_pos h1] at h; cases h
    · rw [if_neg h1] at h
      by_cases h2 : anyNo q.xs = true
      · rw [if_pos h2] at h; cases h
      · rw [if_neg h2] at h
        intro p hp
        rcases List.mem_cons.1 hp with rfl | hp
        · exact ⟨by omega, by simpa using h2⟩
        · exact chkF_ok r (i + 1) h p hp
theorem flatS_len : ∀ (ls : List LsI), (∀ p ∈ ls, p.xs.length ≤ 4096) → (flatS ls).length ≤ ls.length * 4096
  | [], _ => by simp [flatS]
  | q :: r, h => by
    have i1 := flatS_len r (fun p hp => h p (List.mem_cons_of_mem _ hp))
    have i2 := h q (List.mem_cons_self ..)
    have e : flatS (q :: r) = q.xs ++ flatS r := rfl
    rw [e, List.length_append, List.length_cons]
    omega
theorem flatS_tick {ls : List LsI} (h : ∀ p ∈ ls, anyNo p.xs = false) : ∀ p ∈ flatS ls, 0 ≤ p.1 ∧ p.1 ≤ 1048576 := by
  intro p hp
  obtain ⟨q, hq, hpq⟩ := List.mem_flatMap.1 hp
  have e := h q hq
  unfold anyNo at e
  have e2 := List.any_eq_false.1 e p hpq
  unfold noT at e2
  simp only [decide_eq_true_eq] at e2
  omega
set_option maxHeartbeats 6400000 in
set_option maxRecDepth 100000 in
theorem rmerge_any (a : Option Addr) (n cap : Nat) (ls : List LsI) (w : World) (hl : ls.length = n) (h : RdL w a ls) :
    Calls Try.prog 18 #[.slice a n cap] w (MgT w ls) := by
  obtain ⟨i0, hi0, hz0, hz1, hz2⟩ := info_parts Try.yinfoS
  have HX := hid h
  have HL := hid hl
  clear h hl
  by_cases hn : 16 < n
  · have HK : Hid (chkL ls = (3, -1)) := if_pos (by have := HL.out; omega)
    go_enter Try.func18, Try.ntmps18
    go_wp2_with fail
    have HX1 : Hid (FBox (w.alloc (.cells #[.int .i64 3, .int .i64 (-1)] 28)) w.heap.size 28 #[.int .i64 3, .int .i64 (-1)] ∧ Below w.heap.size w (w.alloc (.cells #[.int .i64 3, .int .i64 (-1)] 28))) := ⟨FBox.made _ _ _, (Below.refl _ _).alloc (Nat.le_refl _) _⟩
    generalize w.alloc (.cells #[.int .i64 3, .int .i64 (-1)] 28) = X at *
    have f0 : X.cell? ⟨w.heap.size, 0, none⟩ = some (.int .i64 3) := HX1.out.1.cell 0
    have f1 : X.cell? ⟨w.heap.size, 1, none⟩ = some (.int .i64 (-1)) := HX1.out.1.cell 1
    (try simp only [Exit.inBlock, Exit.then])
    refine bodyPost_ret (by simp [results, Try.results18, go_sem, f0, f1]; try rfl) rfl ?_
    exact ⟨_, 3, -1, rfl, .inl ⟨by rw [HK.out]; decide, HK.out.symm, rfl⟩, HX1.out.2⟩
  have HK : Hid (chkL ls = chkF 0 ls) := if_neg (by have := HL.out; omega)
  go_enter Try.func18, Try.ntmps18
  go_wp2_with fail
  obtain ⟨V0, hV0⟩ : ∃ V0, w.alloc (.cells #[.int .i64 0, .int .i64 0] 28) = V0 := ⟨_, rfl⟩
  have HV : Hid (FBox V0 w.heap.size 28 #[.int .i64 0, .int .i64 0] ∧ Below w.heap.size w V0) := by
    rw [← hV0]
    exact ⟨FBox.made _ _ _, (Below.refl _ _).alloc (Nat.le_refl _) _⟩
  rw [hV0]
  clear hV0
  have HSet : Hid (∀ (V : World) (z : Int), FBox V w.heap.size 28 #[.int .i64 0, .int .i64 0] → (V.setCell ⟨w.heap.size, 0, none⟩ (.int .i64 z)).cell? ⟨w.heap.size, 1, none⟩ = some (.int .i64 0) ∧ (V.setCell ⟨w.heap.size, 0, none⟩ (.int .i64 z)).frozen? ⟨w.heap.size, 1, none⟩ = false) := fun V z hb => ⟨(hb.set 0 _).cell 1, (hb.set 0 _).free 1⟩
  go_loopw [4] (fun x wr => ∃ i : Nat, i ≤ n ∧ x = .int .i64 (i : Int) ∧ Hid (FBox wr w.heap.size 28 #[.int .i64 0, .int .i64 0] ∧ Below w.heap.size w wr) ∧ Hid (chkF 0 ls = chkF i (ls.drop i))) (fun x _ => n - (intOf x).toNat)
  case atStart => exact ⟨0, Nat.zero_le _, rfl, HV.out, (show chkF 0 ls = chkF 0 (ls.drop 0) from rfl)⟩
  case round =>
    clear HV
    obtain ⟨i, hi, rfl, HB, HE⟩ := hrel
    have k0 : wr.cell? ⟨w.heap.size, 0, none⟩ = some (.int .i64 0) := HB.out.1.cell 0
    have k1 : wr.frozen? ⟨w.heap.size, 0, none⟩ = false := HB.out.1.free 0
    by_cases hlt : i < n
    · have hkx : i < ls.length := by have := HL.out; omega
      have hj : ls[i]? = some ls[i] := List.getElem?_eq_getElem hkx
      obtain ⟨hrs, hnz, h64⟩ := HX.out.2 _ (List.getElem_mem hkx)
      have HE2 := hid (HE.out.trans (chkF_at hkx))
      rcases HX.out.1 with h0 | ⟨g, o, rfl, hg, hx⟩
      · rw [h0] at hkx; exact absurd hkx (by simp)
      have hc0 := hx i _ hj
      clear hx hj
      generalize ls[i] = q at *
      obtain ⟨qa, qc, qx⟩ := q
      dsimp only at hc0 hrs hnz h64 HE2
      have HC0 := hid hc0
      have HRS := hid hrs
      have hk1 : (i : Int) < (n : Int) := by omega
      have c0 := (HB.out.2.cell (p := ⟨g, o + i, none⟩) hg).trans HC0.out
      clear hc0 hrs hnz h64 HE
      by_cases h4 : 4096 < qx.length
      · have HE3 : Hid (chkF 0 ls = (3, (i : Int))) := HE2.out.trans (if_pos h4)
        obtain ⟨s1, s2⟩ := HSet.out wr 3 HB.out.1
        clear HE2
        go_wp2_with fail
        have HF2 : Hid (FBox ((wr.setCell ⟨w.heap.size, 0, none⟩ (.int .i64 3)).setCell ⟨w.heap.size, 1, none⟩ (.int .i64 (i : Int))) w.heap.size 28 #[.int .i64 3, .int .i64 (i : Int)] ∧ Below w.heap.size w ((wr.setCell ⟨w.heap.size, 0, none⟩ (.int .i64 3)).setCell ⟨w.heap.size, 1, none⟩ (.int .i64 (i : Int)))) := ⟨(HB.out.1.set 0 (.int .i64 3)).set 1 (.int .i64 (i : Int)), (HB.out.2.setCell (p := ⟨w.heap.size, 0, none⟩) (Nat.le_refl _) _).setCell (p := ⟨w.heap.size, 1, none⟩) (Nat.le_refl _) _⟩
        generalize (wr.setCell ⟨w.heap.size, 0, none⟩ (.int .i64 3)).setCell ⟨w.heap.size, 1, none⟩ (.int .i64 (i : Int)) = X at HF2 ⊢
        have f0 : X.cell? ⟨w.heap.size, 0, none⟩ = some (.int .i64 3) := HF2.out.1.cell 0
        have f1 : X.cell? ⟨w.heap.size, 1, none⟩ = some (.int .i64 (i : Int)) := HF2.out.1.cell 1
        (try simp only [Exit.inBlock, Exit.then])
        refine bodyPost_ret (by simp [results, Try.results18, go_sem, f0, f1]; try rfl) rfl ?_
        exact ⟨_, 3, (i : Int), rfl, .inl ⟨(by rw [HK.out, HE3.out]; intro e; cases e), by rw [HK.out, HE3.out], rfl⟩, HF2.out.2⟩
      · have HE4 : Hid (chkF 0 ls = if anyNo qx = true then (2, (i : Int)) else chkF (i + 1) (ls.drop (i + 1))) := HE2.out.trans (if_neg h4)
        have h4i : ¬ (4096 : Int) < (qx.length : Int) := by omega
        clear HE2
        go_wp2_with fail
        clear k0 k1 c0
        go_loopw [5] (fun x wr => ∃ k : Nat, k ≤ qx.length ∧ x = .int .i64 (k : Int) ∧ Hid (FBox wr w.heap.size 28 #[.int .i64 0, .int .i64 0] ∧ Below w.heap.size w wr) ∧ Hid (anyNo (qx.take k) = false)) (fun x _ => qx.length - (intOf x).toNat)
        case atStart => exact ⟨0, Nat.zero_le _, rfl, HB, anyNo_nil⟩
        case round =>
          clear HB
          obtain ⟨k, hk, rfl, HB, HT⟩ := hrel
          have c0 := (HB.out.2.cell (p := ⟨g, o + i, none⟩) hg).trans HC0.out
          have k0 : wr.cell? ⟨w.heap.size, 0, none⟩ = some (.int .i64 0) := HB.out.1.cell 0
          have k1 : wr.frozen? ⟨w.heap.size, 0, none⟩ = false := HB.out.1.free 0
          by_cases hl2 : k < qx.length
          · have hj : qx[k]? = some qx[k] := List.getElem?_eq_getElem hl2
            have HS := hid (anyNo_step hl2)
            have HM := hid (fun h => anyNo_mem (k := k) hl2 h)
            rcases HRS.out with h0 | ⟨g2, o2, rfl, hg2, hx2⟩
            · rw [h0] at hl2; exact absurd hl2 (by simp)
            obtain ⟨e0, e1⟩ := hx2 k _ hj
            have d0 := (HB.out.2.cell (p := ⟨g2, o2 + k * 2, none⟩) hg2).trans e0
            clear hx2 e0 e1 hj
            generalize qx[k] = u at *
            obtain ⟨pt, pb⟩ := u
            dsimp only at d0 HS HM
            have hk2 : (k : Int) < (qx.length : Int) := by omega
            by_cases h1 : pt < 0
            · have HE3 : Hid (chkF 0 ls = (2, (i : Int))) := HE4.out.trans (if_pos (HM.out (decide_eq_true (.inl h1))))
              obtain ⟨s1, s2⟩ := HSet.out wr 2 HB.out.1
              go_wp2_with fail
              have HF2 : Hid (FBox ((wr.setCell ⟨w.heap.size, 0, none⟩ (.int .i64 2)).setCell ⟨w.heap.size, 1, none⟩ (.int .i64 (i : Int))) w.heap.size 28 #[.int .i64 2, .int .i64 (i : Int)] ∧ Below w.heap.size w ((wr.setCell ⟨w.heap.size, 0, none⟩ (.int .i64 2)).setCell ⟨w.heap.size, 1, none⟩ (.int .i64 (i : Int)))) := ⟨(HB.out.1.set 0 (.int .i64 2)).set 1 (.int .i64 (i : Int)), (HB.out.2.setCell (p := ⟨w.heap.size, 0, none⟩) (Nat.le_refl _) _).setCell (p := ⟨w.heap.size, 1, none⟩) (Nat.le_refl _) _⟩
              generalize (wr.setCell ⟨w.heap.size, 0, none⟩ (.int .i64 2)).setCell ⟨w.heap.size, 1, none⟩ (.int .i64 (i : Int)) = X at HF2 ⊢
              have f0 : X.cell? ⟨w.heap.size, 0, none⟩ = some (.int .i64 2) := HF2.out.1.cell 0
              have f1 : X.cell? ⟨w.heap.size, 1, none⟩ = some (.int .i64 (i : Int)) := HF2.out.1.cell 1
              (try simp only [Exit.inBlock, Exit.then])
              refine bodyPost_ret (by simp [results, Try.results18, go_sem, f0, f1]; try rfl) rfl ?_
              exact ⟨_, 2, (i : Int), rfl, .inl ⟨(by rw [HK.out, HE3.out]; intro e; cases e), by rw [HK.out, HE3.out], rfl⟩, HF2.out.2⟩
            · by_cases h2 : 1048576 < pt
              · have HE3 : Hid (chkF 0 ls = (2, (i : Int))) := HE4.out.trans (if_pos (HM.out (decide_eq_true (.inr h2))))
                obtain ⟨s1, s2⟩ := HSet.out wr 2 HB.out.1
                go_wp2_with fail
                have HF2 : Hid (FBox ((wr.setCell ⟨w.heap.size, 0, none⟩ (.int .i64 2)).setCell ⟨w.heap.size, 1, none⟩ (.int .i64 (i : Int))) w.heap.size 28 #[.int .i64 2, .int .i64 (i : Int)] ∧ Below w.heap.size w ((wr.setCell ⟨w.heap.size, 0, none⟩ (.int .i64 2)).setCell ⟨w.heap.size, 1, none⟩ (.int .i64 (i : Int)))) := ⟨(HB.out.1.set 0 (.int .i64 2)).set 1 (.int .i64 (i : Int)), (HB.out.2.setCell (p := ⟨w.heap.size, 0, none⟩) (Nat.le_refl _) _).setCell (p := ⟨w.heap.size, 1, none⟩) (Nat.le_refl _) _⟩
                generalize (wr.setCell ⟨w.heap.size, 0, none⟩ (.int .i64 2)).setCell ⟨w.heap.size, 1, none⟩ (.int .i64 (i : Int)) = X at HF2 ⊢
                have f0 : X.cell? ⟨w.heap.size, 0, none⟩ = some (.int .i64 2) := HF2.out.1.cell 0
                have f1 : X.cell? ⟨w.heap.size, 1, none⟩ = some (.int .i64 (i : Int)) := HF2.out.1.cell 1
                (try simp only [Exit.inBlock, Exit.then])
                refine bodyPost_ret (by simp [results, Try.results18, go_sem, f0, f1]; try rfl) rfl ?_
                exact ⟨_, 2, (i : Int), rfl, .inl ⟨(by rw [HK.out, HE3.out]; intro e; cases e), by rw [HK.out, HE3.out], rfl⟩, HF2.out.2⟩
              · have HT2 : Hid (anyNo (qx.take (k + 1)) = false) := by
                  have q := HS.out
                  rw [HT.out, show noT pt = false from decide_eq_false (fun h => h.elim h1 h2)] at q
                  exact q
                go_wp2_with fail
                first | exact ⟨⟨k + 1, by omega, by go_num, HB, HT2⟩, by simp [intOf]; omega⟩ | (go_roundw; (case rel => exact ⟨k + 1, by omega, by go_num, HB, HT2⟩); (case measure => simp [intOf]; omega))
          · have hkk : k = qx.length := by omega
            subst hkk
            have HE3 : Hid (chkF 0 ls = chkF (i + 1) (ls.drop (i + 1))) := HE4.out.trans (if_neg (by
              have q := HT.out
              rw [List.take_length] at q
              rw [q]; decide))
            go_wp2_with fail
            first | exact ⟨⟨i + 1, by omega, by go_num, HB, HE3⟩, by simp [intOf]; omega⟩ | (go_roundw; (case rel => exact ⟨i + 1, by omega, by go_num, HB, HE3⟩); (case measure => simp [intOf]; omega))
    · obtain rfl : i = n := by omega
      have hkk : ¬ (i : Int) < (i : Int) := by omega
      have HE3 : Hid (chkF 0 ls = (0, 0)) := HE.out.trans (by rw [List.drop_of_length_le (by have := HL.out; omega)]; rfl)
      have HOk := hid (chkF_ok ls 0 HE3.out)
      have HF1 := hid (flatS_len ls (fun p hp => (HOk.out p hp).1))
      have HF2 := hid (flatS_tick (fun p hp => (HOk.out p hp).2))
      have hfl : (flatS ls).length ≤ 65536 := by have := HF1.out; have := HL.out; omega
      have HNx : Hid (∀ (t : Int) (V : World), I64 t → Below w.heap.size w V → Calls Try.prog 39 #[.slice a i cap, .int .i64 t] V fun e w' => e = .returned (.tuple #[.int .i64 (nxtF t (flatS ls)).1, .bool (nxtF t (flatS ls)).2]) ∧ Below V.heap.size V w') := fun t V ht hV => rnext_any a i cap ls t V (by omega) (fun p hp => by have := (HOk.out p hp).1; omega) HL.out (HX.out.later hV) ht
      have HAt : Hid (∀ (t : Int) (V : World), I64 t → Below w.heap.size w V → Calls Try.prog 41 #[.slice a i cap, .int .i64 t] V fun e w' => ∃ v : Value, e = .returned v ∧ Hid (w'.ownsRow V.heap.size 22 1 v (hgtAt t (flatS ls)).length ((hgtAt t (flatS ls)).map (Value.float .f64))) ∧ Below V.heap.size V w') := fun t V ht hV => rat_any a i cap ls t V (by omega) (by omega) HL.out (HX.out.later hV) ht
      go_wp2_with fail
      refine Calls.mono (HNx.out (-1) wr (by constructor <;> omega) HB.out.2) ?_
      rintro e w2 ⟨rfl, hb2⟩
      have HB2 : Hid (FBox w2 w.heap.size 28 #[.int .i64 0, .int .i64 0] ∧ Below w.heap.size w w2) := ⟨HB.out.1.later hb2 HB.out.1.lt, ybt HB.out.2 hb2⟩
      have HP0 : Hid (MrP (flatS ls) (-1) []) := MrP.nil (fun p hp => (HF2.out p hp).1)
      clear hb2 k0 k1
      go_wp2_with fail
      have HB3 : Hid (∀ p ∈ flatS ls, p.2 < 18446744073709551616) := fun p hp => by
        obtain ⟨q, hq, hpq⟩ := List.mem_flatMap.1 hp
        exact ((HX.out.2 q hq).2.2 p hpq).2
      obtain ⟨z0, f0, hz0f⟩ : ∃ z f, nxtF (-1) (flatS ls) = (z, f) := ⟨_, _, rfl⟩
      have HN0 := hid hz0f
      rw [hz0f]
      clear hz0f HB HE hkk hlt hi
      generalize hF : flatS ls = F at *
      have HFe := hid hF
      clear hF
      go_loopw [6, 7, 8] (fun v x s wr => ∃ (tp : Int) (O : List (Int × Nat)) (z : Int) (f : Bool), x = .int .i64 z ∧ s = .bool f ∧ (O.length : Int) ≤ tp + 1 ∧ tp ≤ 1048576 ∧ Hid (FBox wr w.heap.size 28 #[.int .i64 0, .int .i64 0] ∧ Below w.heap.size w wr) ∧ Hid (wr.ownsRow (w.heap.size + 1) 32 2 v O.length (smC O)) ∧ Hid (MrP F tp O) ∧ Hid (nxtF tp F = (z, f))) (fun _ x s _ => mgM x s)
      case atStart => exact ⟨-1, [], z0, f0, rfl, rfl, by simp, by omega, HB2.out, World.ownsRow_nil _ _ _ _, HP0, HN0⟩
      case round =>
        clear HB2 HP0 HN0
        obtain ⟨tp, O, z, f, rfl, rfl, hO, htp, HB, HO, HP, HN⟩ := hrel
        have k0 : wr.cell? ⟨w.heap.size, 0, none⟩ = some (.int .i64 0) := HB.out.1.cell 0
        have k1 : wr.frozen? ⟨w.heap.size, 0, none⟩ = false := HB.out.1.free 0
        cases f with
        | false =>
          have HD : Hid (MrA F O) := HP.out.done HN.out
          obtain ⟨ao, co, rfl, _⟩ := yshape HO.out
          by_cases h4 : 4096 < O.length
          · obtain ⟨s1, s2⟩ := HSet.out wr 3 HB.out.1
            go_wp2_with fail
            have HF2 : Hid (FBox ((wr.setCell ⟨w.heap.size, 0, none⟩ (.int .i64 3)).setCell ⟨w.heap.size, 1, none⟩ (.int .i64 (-1))) w.heap.size 28 #[.int .i64 3, .int .i64 (-1)] ∧ Below w.heap.size w ((wr.setCell ⟨w.heap.size, 0, none⟩ (.int .i64 3)).setCell ⟨w.heap.size, 1, none⟩ (.int .i64 (-1)))) := ⟨(HB.out.1.set 0 (.int .i64 3)).set 1 (.int .i64 (-1)), (HB.out.2.setCell (p := ⟨w.heap.size, 0, none⟩) (Nat.le_refl _) _).setCell (p := ⟨w.heap.size, 1, none⟩) (Nat.le_refl _) _⟩
            generalize (wr.setCell ⟨w.heap.size, 0, none⟩ (.int .i64 3)).setCell ⟨w.heap.size, 1, none⟩ (.int .i64 (-1)) = X at HF2 ⊢
            have f0 : X.cell? ⟨w.heap.size, 0, none⟩ = some (.int .i64 3) := HF2.out.1.cell 0
            have f1 : X.cell? ⟨w.heap.size, 1, none⟩ = some (.int .i64 (-1)) := HF2.out.1.cell 1
            (try simp only [Exit.inBlock, Exit.then])
            refine bodyPost_ret (by simp [results, Try.results18, go_sem, f0, f1]; try rfl) rfl ?_
            exact ⟨_, 3, (-1), rfl, .inr (.inr ⟨HK.out.trans HE3.out, O, (by rw [HFe.out]; exact HD.out), .inl ⟨h4, rfl, rfl, rfl⟩⟩), HF2.out.2⟩
          · obtain ⟨s1, s2⟩ := HSet.out wr 0 HB.out.1
            have h4i : ¬ (4096 : Int) < (O.length : Int) := by omega
            have HO2 : Hid (((wr.setCell ⟨w.heap.size, 0, none⟩ (.int .i64 0)).setCell ⟨w.heap.size, 1, none⟩ (.int .i64 0)).ownsRow (w.heap.size + 1) 32 2 (.slice ao O.length co) O.length (smC O)) := yown_put (yown_put HO.out HB.out.1 (by decide) 0 _) (HB.out.1.set 0 _) (by decide) 1 _
            go_wp2_with fail
            have HF2 : Hid (FBox ((wr.setCell ⟨w.heap.size, 0, none⟩ (.int .i64 0)).setCell ⟨w.heap.size, 1, none⟩ (.int .i64 0)) w.heap.size 28 #[.int .i64 0, .int .i64 0] ∧ Below w.heap.size w ((wr.setCell ⟨w.heap.size, 0, none⟩ (.int .i64 0)).setCell ⟨w.heap.size, 1, none⟩ (.int .i64 0))) := ⟨(HB.out.1.set 0 (.int .i64 0)).set 1 (.int .i64 0), (HB.out.2.setCell (p := ⟨w.heap.size, 0, none⟩) (Nat.le_refl _) _).setCell (p := ⟨w.heap.size, 1, none⟩) (Nat.le_refl _) _⟩
            generalize (wr.setCell ⟨w.heap.size, 0, none⟩ (.int .i64 0)).setCell ⟨w.heap.size, 1, none⟩ (.int .i64 0) = X at HF2 HO2 ⊢
            have f0 : X.cell? ⟨w.heap.size, 0, none⟩ = some (.int .i64 0) := HF2.out.1.cell 0
            have f1 : X.cell? ⟨w.heap.size, 1, none⟩ = some (.int .i64 0) := HF2.out.1.cell 1
            (try simp only [Exit.inBlock, Exit.then])
            refine bodyPost_ret (by simp [results, Try.results18, go_sem, f0, f1]; try rfl) rfl ?_
            exact ⟨_, 0, 0, rfl, .inr (.inr ⟨HK.out.trans HE3.out, O, (by rw [HFe.out]; exact HD.out), .inr ⟨by omega, rfl, rfl, yowns_base HO2.out (Nat.le_succ _)⟩⟩), HF2.out.2⟩
        | true =>
          obtain ⟨hzt, hpz, hz0', hz1'⟩ : tp < z ∧ (∃ p ∈ F, isone p.2 = true ∧ p.1 = z) ∧ 0 ≤ z ∧ z ≤ 1048576 := by
            rcases nxtF_spec tp F with ⟨_, q2, q3, _⟩ | ⟨q1, _⟩
            · rw [HN.out] at q2 q3
              obtain ⟨p, hp, h5, h6⟩ := q3
              have := HF2.out p hp
              dsimp only at h6 q2
              exact ⟨q2, ⟨p, hp, h5, h6⟩, by omega, by omega⟩
            · rw [HN.out] at q1; cases q1
          have HPz := hid hpz
          have hi64 : I64 z := by constructor <;> omega
          clear hpz
          go_wp2_with fail
          refine Calls.mono (HAt.out z wr hi64 HB.out.2) ?_
          rintro e w3 ⟨v3, rfl, ho3, hb3⟩
          obtain ⟨a3, c3, rfl, hr3⟩ := yshape ho3.out
          have HB3' : Hid (FBox w3 w.heap.size 28 #[.int .i64 0, .int .i64 0] ∧ Below w.heap.size w w3) := ⟨HB.out.1.later hb3 HB.out.1.lt, ybt HB.out.2 hb3⟩
          have HO3 := hid (yowns_later HO.out hb3)
          clear k0 k1 HB HO hb3
          go_wp2_with fail
          have hbl : ∀ x ∈ hgtAt z F, x < 18446744073709551616 := fun x hx => by
            obtain ⟨p, hp, rfl⟩ := List.mem_map.1 hx
            exact HB3.out p (List.mem_filter.1 hp).1
          refine Calls.mono (rmean_any a3 (hgtAt z F).length c3 (hgtAt z F) w3 (by have := hgtAt_len z F; omega) rfl hbl (RdH.of hr3)) ?_
          rintro e w4 ⟨r, ov, rfl, hm4, hb4⟩
          have HM4 := hm4
          have HB4 : Hid (FBox w4 w.heap.size 28 #[.int .i64 0, .int .i64 0] ∧ Below w.heap.size w w4) := ⟨HB3'.out.1.later hb4 HB3'.out.1.lt, ybt HB3'.out.2 hb4⟩
          have HO4 := hid (yowns_later HO3.out hb4)
          have hov : ov = 0 ∨ ov = 9 := by
            rcases hm4.out with ⟨_, _, q⟩ | ⟨_, m, _, ⟨_, _, q⟩ | ⟨_, _, q⟩⟩
            · exact .inl q
            · exact .inl q
            · exact .inr q
          clear hbl hr3 ho3 hb4 hm4 HB3' HO3
          have k0 : w4.cell? ⟨w.heap.size, 0, none⟩ = some (.int .i64 0) := HB4.out.1.cell 0
          have k1 : w4.frozen? ⟨w.heap.size, 0, none⟩ = false := HB4.out.1.free 0
          rcases hov with rfl | rfl
          · have HP4 : Hid (MrP F z (O ++ [(z, r)])) := HP.out.more HN.out HM4.out
            have ho := HO4.out
            have hOl : O.length ≤ 1048577 := by omega
            have hsz := HB4.out.2.size
            have hlt4 := HB4.out.1.lt
            clear k0 k1 HP HN
            go_wp2_with (first
              | (at_builtin; refine wpList_append_own _ rfl _ _ 25 rfl (w.heap.size + 1) 32 i0 (.agg #[.int .i64 0, .float .f64 0]) 2 16 Try.underlying25 hi0 hz0 hz1 hz2 rfl (by decide) _ _ _ rfl (ho.alloc _) ⟨w4.heap.size, 0, none⟩ 1 1 [.int .i64 z, .float .f64 r] rfl rfl (ycell2 _ _ _ _) (smC_one (z, r)) (by unfold maxLen; omega) (by omega) (by simp; omega) ?_; intro v' w5 ho5 hg5 _)
              | fail)
            have HB5 : Hid (FBox w5 w.heap.size 28 #[.int .i64 0, .int .i64 0] ∧ Below w.heap.size w w5) := ⟨(HB4.out.1.later ((Below.refl _ _).alloc (Nat.le_refl _) _) hlt4).gby hg5 (fun e => by have := (ho.lt _ e).1; omega), (HB4.out.2.alloc (by omega) _).grown hg5 (by simp; omega) (fun g hg => by have := (ho.lt g hg).1; omega)⟩
            have HO5 := hid ho5
            clear hg5 ho5 ho
            refine Calls.mono (HNx.out z w5 hi64 HB5.out.2) ?_
            rintro e w6 ⟨rfl, hb6⟩
            have HS6 := hid (nxtF_spec z F)
            obtain ⟨z2, f2, hzf⟩ : ∃ z' f, nxtF z F = (z', f) := ⟨_, _, rfl⟩
            have HMs : Hid (mgM (.int .i64 z2) (.bool f2) < mgM (.int .i64 z) (.bool true)) := by
              have q := HS6.out
              rw [hzf] at q
              cases f2 with
              | false => show 0 < 1048578 - (intOf (.int .i64 z)).toNat; simp [intOf]; omega
              | true =>
                rcases q with ⟨_, q2, _⟩ | ⟨q1, _⟩
                · show 1048578 - (intOf (.int .i64 z2)).toNat < 1048578 - (intOf (.int .i64 z)).toNat
                  dsimp only at q2
                  simp [intOf]
                  omega
                · cases q1
            have HN6 := hid hzf
            rw [hzf]
            clear hzf HS6
            have HB6 : Hid (FBox w6 w.heap.size 28 #[.int .i64 0, .int .i64 0] ∧ Below w.heap.size w w6) := ⟨HB5.out.1.later hb6 HB5.out.1.lt, ybt HB5.out.2 hb6⟩
            have HO6 : Hid (w6.ownsRow (w.heap.size + 1) 32 2 v' (O ++ [(z, r)]).length (smC (O ++ [(z, r)]))) := by
              show w6.ownsRow _ _ _ _ _ _
              rw [smC_append, List.length_append]
              exact yowns_later HO5.out hb6
            have hOn : ((O ++ [(z, r)]).length : Int) ≤ z + 1 := by rw [List.length_append]; simp; omega
            clear hb6 HB5 HO5 HB4 HO4
            go_wp2_with fail
            first | exact ⟨⟨z, O ++ [(z, r)], z2, f2, rfl, rfl, hOn, by omega, HB6, HO6, HP4, HN6⟩, HMs.out⟩ | (go_roundw; (case rel => exact ⟨z, O ++ [(z, r)], z2, f2, rfl, rfl, hOn, by omega, HB6, HO6, HP4, HN6⟩); (case measure => exact HMs.out))
          · obtain ⟨s1, s2⟩ := HSet.out w4 9 HB4.out.1
            have HXX : Hid (MrX (flatS ls)) := by
              obtain ⟨p, hp, h5, h6⟩ := HPz.out
              show MrX _
              rw [HFe.out]
              exact ⟨p, hp, h5, r, by rw [h6]; exact HM4.out⟩
            go_wp2_with fail
            have HF2 : Hid (FBox ((w4.setCell ⟨w.heap.size, 0, none⟩ (.int .i64 9)).setCell ⟨w.heap.size, 1, none⟩ (.int .i64 (-1))) w.heap.size 28 #[.int .i64 9, .int .i64 (-1)] ∧ Below w.heap.size w ((w4.setCell ⟨w.heap.size, 0, none⟩ (.int .i64 9)).setCell ⟨w.heap.size, 1, none⟩ (.int .i64 (-1)))) := ⟨(HB4.out.1.set 0 (.int .i64 9)).set 1 (.int .i64 (-1)), (HB4.out.2.setCell (p := ⟨w.heap.size, 0, none⟩) (Nat.le_refl _) _).setCell (p := ⟨w.heap.size, 1, none⟩) (Nat.le_refl _) _⟩
            generalize (w4.setCell ⟨w.heap.size, 0, none⟩ (.int .i64 9)).setCell ⟨w.heap.size, 1, none⟩ (.int .i64 (-1)) = X at HF2 ⊢
            have f0 : X.cell? ⟨w.heap.size, 0, none⟩ = some (.int .i64 9) := HF2.out.1.cell 0
            have f1 : X.cell? ⟨w.heap.size, 1, none⟩ = some (.int .i64 (-1)) := HF2.out.1.cell 1
            (try simp only [Exit.inBlock, Exit.then])
            refine bodyPost_ret (by simp [results, Try.results18, go_sem, f0, f1]; try rfl) rfl ?_
            exact ⟨_, 9, (-1), rfl, .inr (.inl ⟨HK.out.trans HE3.out, HXX.out, rfl, rfl, rfl⟩), HF2.out.2⟩
end Go.Proofs.Ytmigdomlakflfaa

/- Some lists of samples that came in. -/
namespace Go.Proofs.Ytmigdomlakflfaa
open Go.RowKit Go.ChangeShapes Go.WideShapes Go.Deep Go.Joins
set_option linter.unusedVariables false

instance : Inhabited LsI := ⟨⟨none, 0, []⟩⟩
end Go.Proofs.Ytmigdomlakflfaa

/- package clean: Merge, of any lists. -/
namespace Go.Proofs.Ytmigdomlakflfaa
open Go.RowKit
set_option linter.unusedVariables false
set_option linter.unusedSimpArgs false

theorem cfault_eq (w : World) : (Op.equalIn 10000 28 (.agg #[.int .i64 0, .int .i64 0]) (.agg #[.int .i64 0, .int .i64 0])).run Try.prog w = .ok true w := by
  have u1 := Try.underlying3
  have u2 := Try.underlying26
  have hS : Try.prog.underlying 28 = some (.struct (Try.prog.fieldsOf 28)) := by kernel_rfl
  rw [show (10000 : Nat) = 9999 + 1 from rfl, run_equalIn_agg w 9999 28 _ _ hS (by kernel_rfl)]
  simp only [Program.fieldsOf, Try.underlying28]
  go_simp
theorem cfault_ne {e i : Int} (h : (e, i) ≠ (0, 0)) (w : World) : (Op.equalIn 10000 28 (.agg #[.int .i64 e, .int .i64 i]) (.agg #[.int .i64 0, .int .i64 0])).run Try.prog w = .ok false w := by
  have u1 := Try.underlying3
  have u2 := Try.underlying26
  have hS : Try.prog.underlying 28 = some (.struct (Try.prog.fieldsOf 28)) := by kernel_rfl
  by_cases h1 : e = 0
  · subst h1
    have h2 : i ≠ 0 := fun h2 => h (by rw [h2])
    rw [show (10000 : Nat) = 9999 + 1 from rfl, run_equalIn_agg w 9999 28 _ _ hS (by kernel_rfl)]
    simp only [Program.fieldsOf, Try.underlying28]
    go_simp
  · rw [show (10000 : Nat) = 9999 + 1 from rfl, run_equalIn_agg w 9999 28 _ _ hS (by kernel_rfl)]
    simp only [Program.fieldsOf, Try.underlying28]
    go_simp
/-- What is gathered of the first ticks. -/
structure KP (F : List (Int × Nat)) (K : List Int) (k : Nat) (O : List (Int × Nat)) : Prop where
  len : O.length = k
  fst : O.map (·.1) = K.take k
  mean : ∀ q ∈ O, MeanT (srtF (hgtAt q.1 F)) q.2 0
theorem KP.nil (F : List (Int × Nat)) (K : List Int) : KP F K 0 [] := ⟨rfl, rfl, by simp⟩
theorem KP.more {F : List (Int × Nat)} {K : List Int} {k : Nat} {O : List (Int × Nat)} (h : KP F K k O) {t : Int} {m : Nat} (hk : K[k]? = some t) (hm : MeanT (srtF (hgtAt t F)) m 0) : KP F K (k + 1) (O ++ [(t, m)]) := by
  refine ⟨by rw [List.length_append, h.len]; rfl, ?_, fun q hq => ?_⟩
  · rw [List.map_append, h.fst, List.take_add_one, hk]
    rfl
  · rcases List.mem_append.1 hq with hq | hq
    · exact h.mean q hq
    · rw [List.mem_singleton.1 hq]; exact hm
theorem KP.done {F : List (Int × Nat)} {K : List Int} {O : List (Int × Nat)} (h : KP F K K.length O) (hK : HbK F K) : MrA F O := by
  have e : O.map (·.1) = K := by rw [h.fst, List.take_length]
  refine ⟨?_, fun p hp h1 => ?_, fun q hq => ?_⟩
  · have := hK.rise
    rw [← e] at this
    exact List.pairwise_map.1 this
  · have : p.1 ∈ K := (hK.mem p.1).2 ⟨p, hp, h1, rfl⟩
    rw [← e] at this
    obtain ⟨q, hq, hq1⟩ := List.mem_map.1 this
    exact ⟨q, hq, hq1⟩
  · have : q.1 ∈ K := by rw [← e]; exact List.mem_map.2 ⟨q, hq, rfl⟩
    exact ⟨(hK.mem q.1).1 this, h.mean q hq⟩
theorem chkL_ok {ls : List LsI} (h : chkL ls = (0, 0)) : ls.length ≤ 16 ∧ chkF 0 ls = (0, 0) := by
  unfold chkL at h
  by_cases h1 : 16 < ls.length
  · rw [if_pos h1] at h; cases h
  · rw [if_neg h1] at h; exact ⟨by omega, h⟩
set_option maxHeartbeats 6400000 in
set_option maxRecDepth 100000 in
theorem emerge_any (a : Option Addr) (n cap : Nat) (ls : List LsI) (w : World) (hl : ls.length = n) (h : RdL w a ls) :
    Calls Try.prog 8 #[.slice a n cap] w (MgT w ls) := by
  obtain ⟨i0, hi0, hz0, hz1, hz2⟩ := info_parts Try.yinfoS
  have HX := hid h
  have HL := hid hl
  obtain ⟨V0, hV0⟩ : ∃ V0, w.alloc (.cells #[.int .i64 0, .int .i64 0] 28) = V0 := ⟨_, rfl⟩
  have HV : Hid (FBox V0 w.heap.size 28 #[.int .i64 0, .int .i64 0] ∧ Below w.heap.size w V0) := by
    rw [← hV0]
    exact ⟨FBox.made _ _ _, (Below.refl _ _).alloc (Nat.le_refl _) _⟩
  have HSet : Hid (∀ (V : World) (z : Int), FBox V w.heap.size 28 #[.int .i64 0, .int .i64 0] → (V.setCell ⟨w.heap.size, 0, none⟩ (.int .i64 z)).cell? ⟨w.heap.size, 1, none⟩ = some (.int .i64 0) ∧ (V.setCell ⟨w.heap.size, 0, none⟩ (.int .i64 z)).frozen? ⟨w.heap.size, 1, none⟩ = false) := fun V z hb => ⟨(hb.set 0 _).cell 1, (hb.set 0 _).free 1⟩
  have HC := hid (echeckL_any a n cap ls V0 hl (h.later HV.out.2))
  obtain ⟨er, ix, hck⟩ : ∃ er ix, chkL ls = (er, ix) := ⟨_, _, rfl⟩
  have HCK := hid hck
  rw [hck] at HC
  dsimp only at HC
  clear h hl hck
  by_cases h0 : (er, ix) = (0, 0)
  case neg =>
    have hEQ := cfault_ne h0
    have HN0 := hid h0
    clear h0
    go_enter Try.func8, Try.ntmps8
    go_wp2_with fail
    refine Calls.mono HC.out ?_
    rintro e w1 ⟨rfl, hb1⟩
    clear hV0
    obtain ⟨Y, A0, A1, hY, hA0, hA1, ⟨y0, y1⟩, ⟨f0, f1⟩, ⟨z0, z1⟩, HBX⟩ := ybox2 w1 28 (.int .i64 0) (.int .i64 0) (.int .i64 er) (.int .i64 ix)
    have hw1 : w.heap.size < w1.heap.size := Nat.lt_of_lt_of_le HV.out.1.lt hb1.size
    have HB : Hid (FBox A1 w.heap.size 28 #[.int .i64 0, .int .i64 0] ∧ Below w.heap.size w A1) := ⟨(HV.out.1.later hb1 HV.out.1.lt).later HBX.out.2 hw1, ybt (ybt HV.out.2 hb1) HBX.out.2⟩
    go_wp2_with fail
    clear hY hA0 hA1 y0 y1 f0 f1
    have k0 : A1.cell? ⟨w.heap.size, 0, none⟩ = some (.int .i64 0) := HB.out.1.cell 0
    have k1 : A1.frozen? ⟨w.heap.size, 0, none⟩ = false := HB.out.1.free 0
    obtain ⟨s1, s2⟩ := HSet.out A1 er HB.out.1
    go_region
    all_goals (go_wp2_with fail)
    have HF2 : Hid (FBox ((A1.setCell ⟨w.heap.size, 0, none⟩ (.int .i64 er)).setCell ⟨w.heap.size, 1, none⟩ (.int .i64 ix)) w.heap.size 28 #[.int .i64 er, .int .i64 ix] ∧ Below w.heap.size w ((A1.setCell ⟨w.heap.size, 0, none⟩ (.int .i64 er)).setCell ⟨w.heap.size, 1, none⟩ (.int .i64 ix))) := ⟨(HB.out.1.set 0 (.int .i64 er)).set 1 (.int .i64 ix), (HB.out.2.setCell (p := ⟨w.heap.size, 0, none⟩) (Nat.le_refl _) _).setCell (p := ⟨w.heap.size, 1, none⟩) (Nat.le_refl _) _⟩
    generalize (A1.setCell ⟨w.heap.size, 0, none⟩ (.int .i64 er)).setCell ⟨w.heap.size, 1, none⟩ (.int .i64 ix) = X at HF2 ⊢
    have f0 : X.drew.cell? ⟨w.heap.size, 0, none⟩ = some (.int .i64 er) := HF2.out.1.cell 0
    have f1 : X.drew.cell? ⟨w.heap.size, 1, none⟩ = some (.int .i64 ix) := HF2.out.1.cell 1
    refine bodyPost_ret (by simp [results, Try.results8, go_sem, f0, f1]; try rfl) rfl ?_
    exact ⟨_, er, ix, rfl, .inl ⟨by rw [HCK.out]; exact HN0.out, HCK.out.symm, rfl⟩, HF2.out.2.drew⟩
  case pos =>
    obtain ⟨rfl, rfl⟩ : er = 0 ∧ ix = 0 := by injection h0 with h1 h2; exact ⟨h1, h2⟩
    have hEQ := cfault_eq
    clear h0
    have HOk := hid (chkF_ok ls 0 (chkL_ok HCK.out).2)
    have HF1 := hid (flatS_len ls (fun p hp => (HOk.out p hp).1))
    have HFT := hid (flatS_tick (fun p hp => (HOk.out p hp).2))
    have hfl : (flatS ls).length ≤ 65536 := by have := HF1.out; have := (chkL_ok HCK.out).1; omega
    have hn16 : n ≤ 16 := by have := (chkL_ok HCK.out).1; have := HL.out; omega
    have HB3 : Hid (∀ p ∈ flatS ls, p.2 < 18446744073709551616) := fun p hp => by
      obtain ⟨q, hq, hpq⟩ := List.mem_flatMap.1 hp
      exact ((HX.out.2 q hq).2.2 p hpq).2
    have HH : Hid (∀ V, Below w.heap.size w V → Calls Try.prog 25 #[.slice a n cap] V (HbT V (flatS ls))) := fun V hV => eheights_any a n cap ls V (by omega) (by omega) HL.out (HX.out.later hV)
    go_enter Try.func8, Try.ntmps8
    go_wp2_with fail
    refine Calls.mono HC.out ?_
    rintro e w1 ⟨rfl, hb1⟩
    clear hV0
    obtain ⟨Y, A0, A1, hY, hA0, hA1, ⟨y0, y1⟩, ⟨f0, f1⟩, ⟨z0, z1⟩, HBX⟩ := ybox2 w1 28 (.int .i64 0) (.int .i64 0) (.int .i64 0) (.int .i64 0)
    have hw1 : w.heap.size < w1.heap.size := Nat.lt_of_lt_of_le HV.out.1.lt hb1.size
    have HB : Hid (FBox A1 w.heap.size 28 #[.int .i64 0, .int .i64 0] ∧ Below w.heap.size w A1) := ⟨(HV.out.1.later hb1 HV.out.1.lt).later HBX.out.2 hw1, ybt (ybt HV.out.2 hb1) HBX.out.2⟩
    go_wp2_with fail
    clear hY hA0 hA1 y0 y1 f0 f1 hEQ z0 z1 HBX hw1 hb1 HV HC
    refine Calls.mono (HH.out A1 HB.out.2) ?_
    rintro e w2 ⟨D, G, rfl, HM, hb2⟩
    have HB2 : Hid (FBox w2 w.heap.size 28 #[.int .i64 0, .int .i64 0] ∧ Below w.heap.size w w2) := ⟨HB.out.1.later hb2 HB.out.1.lt, ybt HB.out.2 hb2⟩
    clear HB hb2 HH
    generalize hmb : A1.heap.size = mb at *
    clear hmb
    go_wp2_with fail
    refine Calls.mono (ekeys_any mb w2) ?_
    rintro e w3 ⟨rfl, hw3⟩
    rw [hw3]
    clear hw3 w3
    go_wp2_with fail
    refine Calls.mono (esorted_any HM.out (by omega)) ?_
    rintro e w4 ⟨v, K, rfl, HK, HO, hb4⟩
    obtain ⟨ka, kc, rfl, hkv⟩ := yshape HO.out
    have HKV := hid hkv
    have HM4 : Hid (HbAt w4 mb (flatS ls) D G) := HM.out.later (grownBy_of_below hb4)
    have HB4 : Hid (FBox w4 w.heap.size 28 #[.int .i64 0, .int .i64 0] ∧ Below w.heap.size w w4) := ⟨HB2.out.1.later hb4 HB2.out.1.lt, ybt HB2.out.2 hb4⟩
    have hKl : K.length ≤ 65536 := by have := HK.out.2; omega
    have HK1 := hid HK.out.1
    have HT64 : Hid (∀ t ∈ K, I64 t) := fun t ht => by
      obtain ⟨p, hp, _, rfl⟩ := (HK1.out.mem t).1 ht
      have := HFT.out p hp
      constructor <;> omega
    clear hkv HO HM HB2 hb4 HK HFT
    generalize hF : flatS ls = F at *
    have HFe := hid hF
    clear hF
    go_wp2_with fail
    go_loopw [6, 23] (fun v x wr => ∃ (k : Nat) (O : List (Int × Nat)), k ≤ K.length ∧ x = .int .i64 (k : Int) ∧ Hid (Below w4.heap.size w4 wr) ∧ Hid (wr.ownsRow w4.heap.size 32 2 v O.length (smC O)) ∧ Hid (KP F K k O)) (fun _ x _ => K.length - (Go.RowKit.intOf x).toNat)
    case atStart => exact ⟨0, [], Nat.zero_le _, rfl, Below.refl _ _, World.ownsRow_nil _ _ _ _, KP.nil F K⟩
    case round =>
      obtain ⟨k, O, hk, rfl, HW, HO, HP⟩ := hrel
      have HB : Hid (FBox wr w.heap.size 28 #[.int .i64 0, .int .i64 0] ∧ Below w.heap.size w wr) := ⟨HB4.out.1.later HW.out HB4.out.1.lt, ybt HB4.out.2 HW.out⟩
      have hOl : O.length = k := HP.out.len
      have k0 : wr.cell? ⟨w.heap.size, 0, none⟩ = some (.int .i64 0) := HB.out.1.cell 0
      have k1 : wr.frozen? ⟨w.heap.size, 0, none⟩ = false := HB.out.1.free 0
      by_cases hlt : k < K.length
      · have hj : K[k]? = some K[k] := List.getElem?_eq_getElem hlt
        have ht64 := HT64.out _ (List.getElem_mem hlt)
        rcases HKV.out with h0 | ⟨g, rfl, hg, hx⟩
        · rw [List.map_eq_nil_iff] at h0
          rw [h0] at hlt
          exact absurd hlt (by simp)
        have c0 := (HW.out.cell (p := ⟨g, k, none⟩) hg).trans (hx k (.int .i64 K[k]) (by rw [List.getElem?_map, hj]; rfl))
        have HJ := hid hj
        clear hx hj
        generalize K[k] = t at *
        have HMr : Hid (HbAt wr mb F D G) := HM4.out.later (grownBy_of_below HW.out)
        have l0 := HMr.out.look ht64
        obtain ⟨a3, c3, hG, hr3⟩ := yshape (HMr.out.row t)
        rw [hG] at l0
        have hbl : ∀ x ∈ hgtAt t F, x < 18446744073709551616 := fun x hx => by
          obtain ⟨p, hp, rfl⟩ := List.mem_map.1 hx
          exact HB3.out p (List.mem_filter.1 hp).1
        have HMn := hid (emean_any a3 (hgtAt t F).length c3 (hgtAt t F) wr (by have := hgtAt_len t F; omega) rfl hbl (RdH.of hr3))
        have hk1 : (k : Int) < (K.length : Int) := by omega
        have HTk := hid ht64
        clear hbl hr3 hG ht64 HMr
        generalize (hgtAt t F).length = hL at *
        go_wp2_with fail
        refine Calls.mono HMn.out ?_
        rintro e w5 ⟨r, ov, rfl, HM5, hb5⟩
        have HB5 : Hid (FBox w5 w.heap.size 28 #[.int .i64 0, .int .i64 0] ∧ Below w.heap.size w w5) := ⟨HB.out.1.later hb5 HB.out.1.lt, ybt HB.out.2 hb5⟩
        have HW5 : Hid (Below w4.heap.size w4 w5) := ybt HW.out hb5
        have HO5 := hid (yowns_later HO.out hb5)
        have hov : ov = 0 ∨ ov = 9 := by
          rcases HM5.out with ⟨_, _, q⟩ | ⟨_, m, _, ⟨_, _, q⟩ | ⟨_, _, q⟩⟩
          · exact .inl q
          · exact .inl q
          · exact .inr q
        clear HMn l0 k0 k1 c0 hb5 HO HW HB
        have k0 : w5.cell? ⟨w.heap.size, 0, none⟩ = some (.int .i64 0) := HB5.out.1.cell 0
        have k1 : w5.frozen? ⟨w.heap.size, 0, none⟩ = false := HB5.out.1.free 0
        rcases hov with rfl | rfl
        · have HP4 : Hid (KP F K (k + 1) (O ++ [(t, r)])) := HP.out.more HJ.out HM5.out
          have ho := HO5.out
          have hsz := HW5.out.size
          clear k0 k1 HP
          go_wp2_with (first
            | (at_builtin; refine wpList_append_own _ rfl _ _ 25 rfl w4.heap.size 32 i0 (.agg #[.int .i64 0, .float .f64 0]) 2 16 Try.underlying25 hi0 hz0 hz1 hz2 rfl (by decide) _ _ _ rfl (ho.alloc _) ⟨w5.heap.size, 0, none⟩ 1 1 [.int .i64 t, .float .f64 r] rfl rfl (ycell2 _ _ _ _) (smC_one (t, r)) (by unfold maxLen; omega) (by omega) (by simp; omega) ?_; intro v' w6 ho6 hg6 _)
            | fail)
          have HW6 : Hid (Below w4.heap.size w4 w6) := (HW5.out.alloc hsz _).grown hg6 (by simp; omega) (fun g hg => (ho.lt g hg).1)
          have HO6 : Hid (w6.ownsRow w4.heap.size 32 2 v' (O ++ [(t, r)]).length (smC (O ++ [(t, r)]))) := by
            show w6.ownsRow _ _ _ _ _ _
            rw [smC_append, List.length_append]
            exact ho6
          clear hg6 ho6 ho
          go_wp2_with fail
          first | exact ⟨⟨k + 1, O ++ [(t, r)], by omega, by go_num, HW6, HO6, HP4⟩, by simp [Go.RowKit.intOf]; omega⟩ | (go_roundw; (case rel => exact ⟨k + 1, O ++ [(t, r)], by omega, by go_num, HW6, HO6, HP4⟩); (case measure => simp [Go.RowKit.intOf]; omega))
        · obtain ⟨s1, s2⟩ := HSet.out w5 9 HB5.out.1
          have HXX : Hid (MrX (flatS ls)) := by
            obtain ⟨p, hp, h5, h6⟩ := (HK1.out.mem t).1 (List.mem_of_getElem? HJ.out)
            show MrX _
            rw [HFe.out]
            exact ⟨p, hp, h5, r, by rw [h6]; exact HM5.out⟩
          go_wp2_with fail
          have HF2 : Hid (FBox ((w5.setCell ⟨w.heap.size, 0, none⟩ (.int .i64 9)).setCell ⟨w.heap.size, 1, none⟩ (.int .i64 (-1))) w.heap.size 28 #[.int .i64 9, .int .i64 (-1)] ∧ Below w.heap.size w ((w5.setCell ⟨w.heap.size, 0, none⟩ (.int .i64 9)).setCell ⟨w.heap.size, 1, none⟩ (.int .i64 (-1)))) := ⟨(HB5.out.1.set 0 (.int .i64 9)).set 1 (.int .i64 (-1)), (HB5.out.2.setCell (p := ⟨w.heap.size, 0, none⟩) (Nat.le_refl _) _).setCell (p := ⟨w.heap.size, 1, none⟩) (Nat.le_refl _) _⟩
          generalize (w5.setCell ⟨w.heap.size, 0, none⟩ (.int .i64 9)).setCell ⟨w.heap.size, 1, none⟩ (.int .i64 (-1)) = X at HF2 ⊢
          have f0 : X.cell? ⟨w.heap.size, 0, none⟩ = some (.int .i64 9) := HF2.out.1.cell 0
          have f1 : X.cell? ⟨w.heap.size, 1, none⟩ = some (.int .i64 (-1)) := HF2.out.1.cell 1
          (try simp only [Exit.inBlock, Exit.then])
          refine bodyPost_ret (by simp [results, Try.results8, go_sem, f0, f1]; try rfl) rfl ?_
          exact ⟨_, 9, (-1), rfl, .inr (.inl ⟨HCK.out, HXX.out, rfl, rfl, rfl⟩), HF2.out.2⟩
      · clear hOl
        obtain rfl : k = K.length := by omega
        have hkk : ¬ (K.length : Int) < (K.length : Int) := by omega
        have HD : Hid (MrA F O) := HP.out.done HK1.out
        obtain ⟨ao, co, rfl, _⟩ := yshape HO.out
        by_cases h4 : 4096 < O.length
        · obtain ⟨s1, s2⟩ := HSet.out wr 3 HB.out.1
          go_wp2_with fail
          have HF2 : Hid (FBox ((wr.setCell ⟨w.heap.size, 0, none⟩ (.int .i64 3)).setCell ⟨w.heap.size, 1, none⟩ (.int .i64 (-1))) w.heap.size 28 #[.int .i64 3, .int .i64 (-1)] ∧ Below w.heap.size w ((wr.setCell ⟨w.heap.size, 0, none⟩ (.int .i64 3)).setCell ⟨w.heap.size, 1, none⟩ (.int .i64 (-1)))) := ⟨(HB.out.1.set 0 (.int .i64 3)).set 1 (.int .i64 (-1)), (HB.out.2.setCell (p := ⟨w.heap.size, 0, none⟩) (Nat.le_refl _) _).setCell (p := ⟨w.heap.size, 1, none⟩) (Nat.le_refl _) _⟩
          generalize (wr.setCell ⟨w.heap.size, 0, none⟩ (.int .i64 3)).setCell ⟨w.heap.size, 1, none⟩ (.int .i64 (-1)) = X at HF2 ⊢
          have f0 : X.cell? ⟨w.heap.size, 0, none⟩ = some (.int .i64 3) := HF2.out.1.cell 0
          have f1 : X.cell? ⟨w.heap.size, 1, none⟩ = some (.int .i64 (-1)) := HF2.out.1.cell 1
          (try simp only [Exit.inBlock, Exit.then])
          refine bodyPost_ret (by simp [results, Try.results8, go_sem, f0, f1]; try rfl) rfl ?_
          exact ⟨_, 3, (-1), rfl, .inr (.inr ⟨HCK.out, O, (by rw [HFe.out]; exact HD.out), .inl ⟨h4, rfl, rfl, rfl⟩⟩), HF2.out.2⟩
        · obtain ⟨s1, s2⟩ := HSet.out wr 0 HB.out.1
          have h4i : ¬ (4096 : Int) < (O.length : Int) := by omega
          have HO2 : Hid (((wr.setCell ⟨w.heap.size, 0, none⟩ (.int .i64 0)).setCell ⟨w.heap.size, 1, none⟩ (.int .i64 0)).ownsRow w4.heap.size 32 2 (.slice ao O.length co) O.length (smC O)) := yown_put (yown_put HO.out HB.out.1 (by decide) 0 _) (HB.out.1.set 0 _) (by decide) 1 _
          go_wp2_with fail
          have HF2 : Hid (FBox ((wr.setCell ⟨w.heap.size, 0, none⟩ (.int .i64 0)).setCell ⟨w.heap.size, 1, none⟩ (.int .i64 0)) w.heap.size 28 #[.int .i64 0, .int .i64 0] ∧ Below w.heap.size w ((wr.setCell ⟨w.heap.size, 0, none⟩ (.int .i64 0)).setCell ⟨w.heap.size, 1, none⟩ (.int .i64 0))) := ⟨(HB.out.1.set 0 (.int .i64 0)).set 1 (.int .i64 0), (HB.out.2.setCell (p := ⟨w.heap.size, 0, none⟩) (Nat.le_refl _) _).setCell (p := ⟨w.heap.size, 1, none⟩) (Nat.le_refl _) _⟩
          generalize (wr.setCell ⟨w.heap.size, 0, none⟩ (.int .i64 0)).setCell ⟨w.heap.size, 1, none⟩ (.int .i64 0) = X at HF2 HO2 ⊢
          have f0 : X.cell? ⟨w.heap.size, 0, none⟩ = some (.int .i64 0) := HF2.out.1.cell 0
          have f1 : X.cell? ⟨w.heap.size, 1, none⟩ = some (.int .i64 0) := HF2.out.1.cell 1
          (try simp only [Exit.inBlock, Exit.then])
          refine bodyPost_ret (by simp [results, Try.results8, go_sem, f0, f1]; try rfl) rfl ?_
          exact ⟨_, 0, 0, rfl, .inr (.inr ⟨HCK.out, O, (by rw [HFe.out]; exact HD.out), .inr ⟨by omega, rfl, rfl, yowns_base HO2.out HB4.out.2.size⟩⟩), HF2.out.2⟩
end Go.Proofs.Ytmigdomlakflfaa

/- The law CleanFill answers true, whatever samples and places come in. -/
namespace Go.Proofs.Ytmigdomlakflfaa
open Go.RowKit
set_option linter.unusedVariables false
set_option linter.unusedSimpArgs false

theorem eshape {w : World} {base e s : Nat} {v : Value} {n : Nat} {xs : List Value} (h : w.ownsRow base e s v n xs) : ∃ a cap, v = .slice a n cap ∧ RdV w a xs ∧ (a = none → cap = 0 ∧ n = 0) ∧ ∀ g, a = some ⟨g, 0, none⟩ → base ≤ g ∧ g < w.heap.size := by
  obtain ⟨a, cap, hv, hV⟩ := yshape h
  refine ⟨a, cap, hv, hV, fun e => ?_, fun g e => ?_⟩
  · rcases h.2 with ⟨h1, h0⟩ | ⟨g, cap', cur, h1, _⟩
    · rw [hv] at h1
      injection h1 with _ h2 h3
      exact ⟨h3, h2⟩
    · rw [hv, e] at h1
      cases h1
  · exact h.lt g (by rw [hv, e]; rfl)
theorem WoC.rows {zs : List Int} {n m : Nat} {e f : Int} {v u : Value} {W V : World} {b1 b2 : Nat} {xs : List (Int × Nat)} (h : WoC zs n m e v (W.ownsRow b1 32 2 v (woL xs zs n).length (smC (woL xs zs n)))) (g : WoC zs n m f u (V.ownsRow b2 32 2 u (woL xs zs n).length (smC (woL xs zs n)))) :
    e = f ∧ ∃ M : List (Int × Nat), M.length ≤ 4096 ∧ W.ownsRow b1 32 2 v M.length (smC M) ∧ V.ownsRow b2 32 2 u M.length (smC M) := by
  have nil : ∀ (X : World) (b : Nat), X.ownsRow b 32 2 (.slice none 0 0) ([] : List (Int × Nat)).length (smC []) := fun X b => World.ownsRow_nil _ _ _ _
  rcases h with ⟨h0, h1, h2⟩ | ⟨h0, h3, h4, h1, h2⟩ | ⟨h0, h3, h4, h1, h2⟩
  · rcases g with ⟨g0, g1, g2⟩ | ⟨g0, g3, g4, g1, g2⟩ | ⟨g0, g3, g4, g1, g2⟩
    · exact ⟨by rw [h1, g1], [], by simp, by rw [h2]; exact nil _ _, by rw [g2]; exact nil _ _⟩
    · omega
    · omega
  · rcases g with ⟨g0, g1, g2⟩ | ⟨g0, g3, g4, g1, g2⟩ | ⟨g0, g3, g4, g1, g2⟩
    · omega
    · exact ⟨by rw [h1, g1], [], by simp, by rw [h2]; exact nil _ _, by rw [g2]; exact nil _ _⟩
    · exact absurd g4 h4
  · rcases g with ⟨g0, g1, g2⟩ | ⟨g0, g3, g4, g1, g2⟩ | ⟨g0, g3, g4, g1, g2⟩
    · omega
    · exact absurd h4 g4
    · exact ⟨by rw [h1, g1], _, Nat.le_trans (woL_len xs zs n) h0, h2, g2⟩
theorem FilC.rows {xs : List (Int × Nat)} {e f : Int} {v u : Value} {W V : World} {b1 b2 : Nat} (hx : ∀ p ∈ xs, p.2 < 18446744073709551616) (h : FilC xs e v (fun F => W.ownsRow b1 32 2 v F.length (smC F))) (g : FilC xs f u (fun F => V.ownsRow b2 32 2 u F.length (smC F))) :
    e = f ∧ ∃ M : List (Int × Nat), M.length ≤ 4096 ∧ (∀ p ∈ M, isone p.2 = true ∧ p.2 < 18446744073709551616) ∧ W.ownsRow b1 32 2 v M.length (smC M) ∧ V.ownsRow b2 32 2 u M.length (smC M) := by
  have nil : ∀ (X : World) (b : Nat), X.ownsRow b 32 2 (.slice none 0 0) ([] : List (Int × Nat)).length (smC []) := fun X b => World.ownsRow_nil _ _ _ _
  obtain ⟨he, hc⟩ := h.both g
  refine ⟨he, ?_⟩
  rcases hc with ⟨h1, h2⟩ | ⟨F, h1, h2, h3, h4, h5⟩
  · exact ⟨[], by simp, (fun p hp => (by cases hp)), (by rw [h1]; exact nil _ _), (by rw [h2]; exact nil _ _)⟩
  · exact ⟨F, h2, fun p hp => ⟨h1 p hp, h3.lt (fun q hq => hx q (List.mem_filter.1 hq).1) p hp⟩, h4, h5⟩
theorem Blk.gby {W W' : World} {o : Option Nat} {g sz : Nat} (h : Blk W g sz) (hg : W.grownBy W' o) (ho : o ≠ some g) : Blk W' g sz := by
  obtain ⟨cur, hc, hs⟩ := h
  exact ⟨cur, (hg.block g (Array.getElem?_eq_some_iff.1 hc).1 (fun e => ho e.symm)).trans hc, hs⟩
theorem Ovr.gby {W W' : World} {v : Value} {o o' : Option Nat} (h : Ovr W v o) (hg : W.grownBy W' o') (ho : ∀ g, o = some g → o' ≠ some g) : Ovr W' v o := by
  rcases h with h | ⟨g, n, cap, h1, h2, h3, h4, h5⟩
  · exact .inl h
  · exact .inr ⟨g, n, cap, h1, h2, h3, h4, h5.gby hg (ho g h2)⟩
theorem Ovr.later {W W' : World} {v : Value} {o : Option Nat} (h : Ovr W v o) (hb : Below W.heap.size W W') : Ovr W' v o := h.gby (o' := none) (gby_of hb) (fun g _ e => by cases e)
end Go.Proofs.Ytmigdomlakflfaa

/- Lists of lists of samples of one's own; what two Merges tell of lists that are alike. -/
namespace Go.Proofs.Ytmigdomlakflfaa
open Go.RowKit
set_option linter.unusedVariables false
set_option linter.unusedSimpArgs false

theorem own_unlike {w : World} {b1 b2 e1 e2 s1 s2 n1 n2 : Nat} {v1 v2 : Value} {x1 x2 : List Value} (h : w.ownsRow b1 e1 s1 v1 n1 x1) (g : w.ownsRow b2 e2 s2 v2 n2 x2) (hne : e1 ≠ e2) : v1.ownBlock = none ∨ v1.ownBlock ≠ v2.ownBlock := by
  rcases h.2 with ⟨rfl, _⟩ | ⟨g1, c1, cur1, rfl, _, hh1, _⟩
  · exact .inl rfl
  · rcases g.2 with ⟨rfl, _⟩ | ⟨g2, c2, cur2, rfl, _, hh2, _⟩
    · exact .inr (by simp [Value.ownBlock])
    · refine .inr (fun e => ?_)
      simp only [Value.ownBlock, Option.some.injEq] at e
      subst e
      rw [hh1] at hh2
      injection hh2 with hh2
      injection hh2 with _ h3
      exact hne h3
/-- Lists of one's own, each with so much behind it. -/
def CqO (W : World) (B : Nat) (m : List (Int × Nat)) (Q : List LsI) : Prop := ∀ q ∈ Q, W.ownsRow B 32 2 (.slice q.a (q.xs.length + m.length) q.cap) (q.xs.length + m.length) (smC (q.xs ++ m))
theorem CqO.later {W W' : World} {B : Nat} {m : List (Int × Nat)} {Q : List LsI} (h : CqO W B m Q) (hb : Below W.heap.size W W') : CqO W' B m Q := fun q hq => yowns_later (h q hq) hb
theorem CqO.kept {W W' : World} {B b e s n : Nat} {m : List (Int × Nat)} {Q : List LsI} {v : Value} {xs : List Value} (h : CqO W B m Q) (hv : W.ownsRow b e s v n xs) (he : 32 ≠ e) (hg : W.grownBy W' v.ownBlock) : CqO W' B m Q := fun q hq => (h q hq).kept hg (own_unlike (h q hq) hv he)
/-- The values of lists of one's own: whole, and cut. -/
def fullV (Q : List LsI) : List Value := Q.map fun q => .slice q.a (q.xs.length + 3) q.cap
def cutV (Q : List LsI) : List Value := Q.map fun q => .slice q.a q.xs.length q.cap
theorem fullV_snoc (Q : List LsI) (q : LsI) : fullV (Q ++ [q]) = fullV Q ++ [.slice q.a (q.xs.length + 3) q.cap] := by unfold fullV; rw [List.map_append]; rfl
theorem cutV_snoc (Q : List LsI) (q : LsI) : cutV (Q ++ [q]) = cutV Q ++ [.slice q.a q.xs.length q.cap] := by unfold cutV; rw [List.map_append]; rfl
theorem cutV_at {Q : List LsI} {k : Nat} (h : k < Q.length) : (cutV Q)[k]? = some (.slice (Q[k]).a (Q[k]).xs.length (Q[k]).cap) := by
  unfold cutV
  rw [List.getElem?_map, List.getElem?_eq_getElem h]; rfl
theorem fullV_at {Q : List LsI} {k : Nat} (h : k < Q.length) : (fullV Q)[k]? = some (.slice (Q[k]).a ((Q[k]).xs.length + 3) (Q[k]).cap) := by
  unfold fullV
  rw [List.getElem?_map, List.getElem?_eq_getElem h]; rfl
theorem cutV_len (Q : List LsI) : (cutV Q).length = Q.length := List.length_map ..
/-- Two rows of lists that grow side by side, and the lists themselves. -/
structure CqS (w : World) (Q0 Q1 Q2 : List LsI) (v u : Value) (W : World) : Prop where
  bel : Below w.heap.size w W
  own : CqO W w.heap.size (smarks 3) Q0
  fst : W.ownsRow w.heap.size 25 1 v Q1.length (fullV Q1)
  snd : W.ownsRow w.heap.size 25 1 u Q2.length (cutV Q2)
  ne : v.ownBlock = none ∨ v.ownBlock ≠ u.ownBlock
theorem CqS.nil (w : World) {W : World} (h : Below w.heap.size w W) : CqS w [] [] [] (.slice none 0 0) (.slice none 0 0) W := ⟨h, (fun q hq => by cases hq), World.ownsRow_nil _ _ _ _, World.ownsRow_nil _ _ _ _, .inl rfl⟩
theorem CqS.later {w W W' : World} {Q0 Q1 Q2 : List LsI} {v u : Value} (h : CqS w Q0 Q1 Q2 v u W) (hb : Below W.heap.size W W') : CqS w Q0 Q1 Q2 v u W' := ⟨ybt' h.bel hb, h.own.later hb, yowns_later h.fst hb, yowns_later h.snd hb, h.ne⟩
theorem CqS.add {w W W' : World} {Q0 Q1 Q2 : List LsI} {v u : Value} (h : CqS w Q0 Q1 Q2 v u W) (hb : Below W.heap.size W W') {q : LsI} (hq : W'.ownsRow W.heap.size 32 2 (.slice q.a (q.xs.length + 3) q.cap) (q.xs.length + 3) (smC (q.xs ++ smarks 3))) : CqS w (Q0 ++ [q]) Q1 Q2 v u W' := by
  have h2 := h.later hb
  refine ⟨h2.bel, fun p hp => ?_, h2.fst, h2.snd, h2.ne⟩
  rcases List.mem_append.1 hp with hp | hp
  · exact h2.own p hp
  · rw [List.mem_singleton.1 hp]
    exact yowns_base hq h.bel.size
theorem CqS.ne' {w W : World} {Q0 Q1 Q2 : List LsI} {v u : Value} (h : CqS w Q0 Q1 Q2 v u W) : u.ownBlock = none ∨ u.ownBlock ≠ v.ownBlock := by
  rcases h.ne with h | h
  · rw [h]
    cases u.ownBlock with
    | none => exact .inl rfl
    | some x => exact .inr (by simp)
  · exact .inr (fun e => h e.symm)
theorem CqS.one {w W W' : World} {Q0 Q1 Q2 Q3 : List LsI} {v u v' : Value} (h : CqS w Q0 Q1 Q2 v u W) (o : W'.ownsRow w.heap.size 25 1 v' Q3.length (fullV Q3)) (hg : W.grownBy W' v.ownBlock) (ha : v'.ownBlock = v.ownBlock ∨ v'.ownBlock = some W.heap.size) : CqS w Q0 Q3 Q2 v' u W' := by
  refine ⟨h.bel.grown hg h.bel.size (fun q e => (h.fst.lt q e).1), h.own.kept h.fst (by decide) hg, o, h.snd.kept hg h.ne', ?_⟩
  rcases ha with ha | ha
  · rw [ha]; exact h.ne
  · right
    rw [ha]
    intro e
    have := (h.snd.lt _ e.symm).2
    omega
theorem CqS.two {w W W' : World} {Q0 Q1 Q2 Q3 : List LsI} {v u u' : Value} (h : CqS w Q0 Q1 Q2 v u W) (o : W'.ownsRow w.heap.size 25 1 u' Q3.length (cutV Q3)) (hg : W.grownBy W' u.ownBlock) (ha : u'.ownBlock = u.ownBlock ∨ u'.ownBlock = some W.heap.size) : CqS w Q0 Q1 Q3 v u' W' := by
  refine ⟨h.bel.grown hg h.bel.size (fun q e => (h.snd.lt q e).1), h.own.kept h.snd (by decide) hg, h.fst.kept hg h.ne, o, ?_⟩
  rcases ha with ha | ha
  · rw [ha]; exact h.ne
  · right
    rw [ha]
    intro e
    have := (h.fst.lt _ e).2
    omega
/-- Lists that hold the same. -/
def CqK (ls Q : List LsI) : Prop := Q.map (·.xs) = ls.map (·.xs)
theorem chkF_same : ∀ (ls Q : List LsI) (i : Nat), CqK ls Q → chkF i Q = chkF i ls
  | [], [], _, _ => rfl
  | [], q :: r, _, h => by cases h
  | p :: s, [], _, h => by cases h
  | p :: s, q :: r, i, h => by
    unfold CqK at h
    rw [List.map_cons, List.map_cons] at h
    injection h with h1 h2
    unfold chkF
    rw [h1, chkF_same s r (i + 1) h2]
theorem chkL_same {ls Q : List LsI} (h : CqK ls Q) : chkL Q = chkL ls := by
  have hl : Q.length = ls.length := by have := congrArg List.length h; simpa using this
  unfold chkL
  rw [hl, chkF_same ls Q 0 h]
theorem flatS_same {ls Q : List LsI} (h : CqK ls Q) : flatS Q = flatS ls := by
  unfold flatS
  rw [List.flatMap_def, List.flatMap_def]
  exact congrArg List.flatten h
theorem cfault_same (e i : Int) (w : World) : (Op.equalIn 10000 28 (.agg #[.int .i64 e, .int .i64 i]) (.agg #[.int .i64 e, .int .i64 i])).run Try.prog w = .ok true w := by
  have u1 := Try.underlying3
  have u2 := Try.underlying26
  have hS : Try.prog.underlying 28 = some (.struct (Try.prog.fieldsOf 28)) := by kernel_rfl
  rw [show (10000 : Nat) = 9999 + 1 from rfl, run_equalIn_agg w 9999 28 _ _ hS (by kernel_rfl)]
  simp only [Program.fieldsOf, Try.underlying28]
  go_simp
theorem MeanT.ok {S : List Nat} {r : Nat} (h : MeanT S r 0) : isone r = true ∧ r < 18446744073709551616 := by
  rcases h with ⟨_, rfl, _⟩ | ⟨_, m, hm, ⟨h1, rfl, _⟩ | ⟨_, _, h2⟩⟩
  · exact ⟨by decide, by decide⟩
  · exact ⟨h1, hm.1⟩
  · cases h2
theorem MgC.rows {ls Q : List LsI} {e f i j : Int} {v u : Value} {W V : World} {b1 b2 : Nat} (hl : CqK ls Q) (h : MgC Q e i v (fun O => W.ownsRow b1 32 2 v O.length (smC O))) (g : MgC ls f j u (fun O => V.ownsRow b2 32 2 u O.length (smC O))) :
    e = f ∧ i = j ∧ ∃ M : List (Int × Nat), M.length ≤ 4096 ∧ (∀ p ∈ M, isone p.2 = true ∧ p.2 < 18446744073709551616) ∧ W.ownsRow b1 32 2 v M.length (smC M) ∧ V.ownsRow b2 32 2 u M.length (smC M) := by
  have nil : ∀ (X : World) (b : Nat), X.ownsRow b 32 2 (.slice none 0 0) ([] : List (Int × Nat)).length (smC []) := fun X b => World.ownsRow_nil _ _ _ _
  have none : v = .slice none 0 0 → u = .slice none 0 0 → ∃ M : List (Int × Nat), M.length ≤ 4096 ∧ (∀ p ∈ M, isone p.2 = true ∧ p.2 < 18446744073709551616) ∧ W.ownsRow b1 32 2 v M.length (smC M) ∧ V.ownsRow b2 32 2 u M.length (smC M) := fun h1 h2 => ⟨[], by simp, by simp, by rw [h1]; exact nil _ _, by rw [h2]; exact nil _ _⟩
  unfold MgC at h g
  rw [chkL_same hl, flatS_same hl] at h
  rcases h with ⟨h1, h2, h3⟩ | ⟨h1, h2, h3, h4, h5⟩ | ⟨h1, O, h2, h3⟩
  · rcases g with ⟨g1, g2, g3⟩ | ⟨g1, _⟩ | ⟨g1, _⟩
    · have q := h2.trans g2.symm
      injection q with q1 q2
      exact ⟨q1, q2, none h3 g3⟩
    · exact absurd g1 h1
    · exact absurd g1 h1
  · rcases g with ⟨g1, _⟩ | ⟨g1, g2, g3, g4, g5⟩ | ⟨g1, O2, g2, g3⟩
    · exact absurd h1 g1
    · exact ⟨by rw [h3, g3], by rw [h4, g4], none h5 g5⟩
    · exact absurd h2 (fun q => g2.no q)
  · rcases g with ⟨g1, _⟩ | ⟨g1, g2, g3, g4, g5⟩ | ⟨g1, O2, g2, g3⟩
    · exact absurd h1 g1
    · exact absurd g2 (fun q => h2.no q)
    · have e1 : O = O2 := h2.one g2
      subst e1
      rcases h3 with ⟨h3, h4, h5, h6⟩ | ⟨h3, h4, h5, h6⟩
      · rcases g3 with ⟨g3, g4, g5, g6⟩ | ⟨g3, g4, g5, g6⟩
        · exact ⟨by rw [h4, g4], by rw [h5, g5], none h6 g6⟩
        · omega
      · rcases g3 with ⟨g3, g4, g5, g6⟩ | ⟨g3, g4, g5, g6⟩
        · omega
        · exact ⟨by rw [h4, g4], by rw [h5, g5], O, h3, fun p hp => (h2.mean p hp).2.ok, h6, g6⟩
end Go.Proofs.Ytmigdomlakflfaa

/- The law's apart, of any lists: an answer is written over, all others stay. -/
namespace Go.Proofs.Ytmigdomlakflfaa
open Go.RowKit
set_option linter.unusedVariables false
set_option linter.unusedSimpArgs false

/-- Copies of the first lists, and their row. -/
structure CqP (w1 : World) (k : Nat) (v : Value) (P : List LsI) (W : World) : Prop where
  bel : Below w1.heap.size w1 W
  len : P.length = k
  own : CqO W w1.heap.size [] P
  row : W.ownsRow w1.heap.size 25 1 v k (cutV P)
theorem CqP.nil (w1 : World) : CqP w1 0 (.slice none 0 0) [] w1 := ⟨Below.refl _ _, rfl, (fun q hq => by cases hq), World.ownsRow_nil _ _ _ _⟩
theorem CqP.more {w1 W W2 W3 : World} {k : Nat} {v v3 : Value} {P : List LsI} (h : CqP w1 k v P W) (hb : Below W.heap.size W W2) {q : LsI} (hq : W2.ownsRow W.heap.size 32 2 (.slice q.a q.xs.length q.cap) q.xs.length (smC q.xs)) {o : Obj}
    (hr : W3.ownsRow w1.heap.size 25 1 v3 (k + 1) (cutV P ++ [.slice q.a q.xs.length q.cap])) (hg : (W2.alloc o).grownBy W3 v.ownBlock) : CqP w1 (k + 1) v3 (P ++ [q]) W3 := by
  have hA : Below W2.heap.size W2 (W2.alloc o) := (Below.refl _ _).alloc (Nat.le_refl _) _
  have hbA := ybt' hb hA
  have hrow := yowns_later h.row hbA
  refine ⟨?_, by rw [List.length_append, h.len]; rfl, fun p hp => ?_, by rw [cutV_snoc]; exact hr⟩
  · exact (ybt' h.bel hbA).grown hg (ybt' h.bel hbA).size (fun g e => (hrow.lt g e).1)
  · have key : ∀ r : LsI, (W2.alloc o).ownsRow w1.heap.size 32 2 (.slice r.a (r.xs.length + ([] : List (Int × Nat)).length) r.cap) (r.xs.length + ([] : List (Int × Nat)).length) (smC (r.xs ++ [])) → W3.ownsRow w1.heap.size 32 2 (.slice r.a (r.xs.length + ([] : List (Int × Nat)).length) r.cap) (r.xs.length + ([] : List (Int × Nat)).length) (smC (r.xs ++ [])) := fun r hr2 => hr2.kept hg (own_unlike hr2 hrow (by decide))
    rcases List.mem_append.1 hp with hp | hp
    · exact key p (yowns_later (h.own p hp) hbA)
    · rw [List.mem_singleton.1 hp]
      refine key q ?_
      rw [List.append_nil]
      exact yowns_base (yowns_later hq hA) h.bel.size
theorem CqP.get {w1 W : World} {k : Nat} {v : Value} {P : List LsI} (h : CqP w1 k v P W) {q : LsI} (hq : q ∈ P) : RdV W q.a (smC q.xs) ∧ ∀ g, q.a = some ⟨g, 0, none⟩ → w1.heap.size ≤ g ∧ g < W.heap.size := by
  have hr := h.own q hq
  rw [List.append_nil] at hr
  obtain ⟨a, c, e, hv, _, hg⟩ := eshape hr
  injection e with e1 _ _
  rw [e1]
  exact ⟨hv, hg⟩
set_option maxHeartbeats 12800000 in
set_option maxRecDepth 100000 in
theorem eapartN_any (va : Value) (o : Option Nat) (b : Option Addr) (nb cb : Nat) (G : List (Int × Nat)) (aL : Option Addr) (nL cL : Nat) (Q : List LsI) (w : World)
    (hA : Ovr w va o) (hb : RdV w b (smC G)) (hbl : G.length = nb) (hbn : nb ≤ 1048576) (hbz : b = none → cb = 0 ∧ nb = 0) (hbo : ∀ g, b = some ⟨g, 0, none⟩ → o ≠ some g)
    (hL : RdV w aL (cutV Q)) (hLo : ∀ g, aL = some ⟨g, 0, none⟩ → o ≠ some g) (hLn : Q.length = nL) (hn : nL ≤ 1000)
    (hQ : ∀ q ∈ Q, RdV w q.a (smC q.xs) ∧ q.xs.length ≤ 1048576 ∧ (q.a = none → q.cap = 0 ∧ q.xs.length = 0) ∧ ∀ g, q.a = some ⟨g, 0, none⟩ → o ≠ some g) :
    Calls Try.prog 20 #[va, .slice b nb cb, .slice aL nL cL] w fun e w' => e = .returned (.bool true) ∧ w.grownBy w' o := by
  obtain ⟨i0, hi, hz0, hz1, hz2⟩ := info_parts Try.yinfoSS
  have HC := hid (ecopyS_any b nb cb G w (by omega) hbl hbz (RdS.of hb))
  have HBv := hid hb
  have HLv := hid hL
  have HLn := hid hLn
  have HQ := hid hQ
  have HO := hid (And.intro hbo hLo)
  have HA := hid hA
  clear hb hL hbo hLo hbz hA hQ hLn
  go_enter Try.func20, Try.ntmps20
  go_wp2_with fail
  refine Calls.mono HC.out ?_
  rintro e w1 ⟨v1, rfl, ho1, hb1⟩
  obtain ⟨a1, cp1, rfl, hV1⟩ := yshape ho1
  have HW1 : Hid (RdV w1 a1 (smC G) ∧ (∀ g, a1 = some ⟨g, 0, none⟩ → w.heap.size ≤ g) ∧ Below w.heap.size w w1) := by
    refine ⟨hV1, fun g e => ?_, hb1⟩
    have := (ho1.lt g (by rw [e]; rfl)).1
    exact this
  clear HC ho1 hb1 hV1
  go_wp2_with fail
  go_loopw [8, 9] (fun v x wr => ∃ (k : Nat) (P : List LsI), k ≤ nL ∧ x = .int .i64 (k : Int) ∧ Hid (CqP w1 k v P wr) ∧ Hid (CqK (Q.take k) P)) (fun _ x _ => nL - (intOf x).toNat)
  case atStart => exact ⟨0, [], Nat.zero_le _, rfl, CqP.nil w1, rfl⟩
  case round =>
    obtain ⟨k, P, hk, rfl, HP, HK⟩ := hrel
    by_cases hlt : k < nL
    · have hkx : k < Q.length := by have := HLn.out; omega
      obtain ⟨hq1, hq2, hq3, hq4⟩ := HQ.out _ (List.getElem_mem hkx)
      have HAt := hid (cutV_at hkx)
      have HTk : Hid (Q.take (k + 1) = Q.take k ++ [Q[k]]) := List.take_succ_eq_append_getElem hkx
      have hwr : Below w.heap.size w wr := ybt' HW1.out.2.2 HP.out.bel
      rcases HLv.out with h0 | ⟨g, rfl, hg, hx⟩
      · have h1 : Q.length = 0 := by rw [← cutV_len, h0]; rfl
        omega
      have c0 := (hwr.cell (p := ⟨g, k, none⟩) hg).trans (hx k _ HAt.out)
      generalize Q[k] = q at *
      obtain ⟨qa, qc, qx⟩ := q
      dsimp only at c0 hq1 hq2 hq3 hq4 HTk
      have HCq := hid (ecopyS_any qa qx.length qc qx wr (by omega) rfl hq3 (RdS.of (hq1.later hwr)))
      have hk1 : (k : Int) < (nL : Int) := by omega
      clear hq1 hq3 hq4 hx hwr
      go_wp2_with fail
      refine Calls.mono HCq.out ?_
      rintro e w2 ⟨v2, rfl, ho2, hb2⟩
      obtain ⟨a2, cp2, rfl⟩ : ∃ a2 cp2, v2 = .slice a2 qx.length cp2 := by obtain ⟨a, c, e, _⟩ := yshape ho2; exact ⟨a, c, e⟩
      have HO2 := hid ho2
      have HB2 := hid hb2
      have hrow := yowns_later HP.out.row hb2
      have hsz : w1.heap.size ≤ w2.heap.size := Nat.le_trans HP.out.bel.size hb2.size
      clear ho2 hb2 HCq c0
      go_wp2_with (first
        | (at_builtin; refine wpList_append_own _ rfl _ _ 33 rfl w1.heap.size 25 i0 (.slice none 0 0) 1 24 Try.underlying33 hi hz0 hz1 hz2 rfl (by decide) _ _ _ rfl (hrow.alloc _) ⟨w2.heap.size, 0, none⟩ 1 1 [.slice a2 qx.length cp2] rfl rfl (cell_one_new _ _ _) (by simp [Value.oneCell']) (by unfold maxLen; omega) (by omega) (by simp; omega) ?_; intro v3 w3 ho3 hg3 _)
        | fail)
      have HP3 : Hid (CqP w1 (k + 1) v3 (P ++ [⟨a2, cp2, qx⟩]) w3) := HP.out.more HB2.out (q := ⟨a2, cp2, qx⟩) HO2.out ho3 hg3
      have HK3 : Hid (CqK (Q.take (k + 1)) (P ++ [⟨a2, cp2, qx⟩])) := by
        show _ = _
        rw [HTk.out, List.map_append, List.map_append, show P.map (·.xs) = (Q.take k).map (·.xs) from HK.out]
        rfl
      clear ho3 hg3 hrow HO2 HB2 HP HK
      go_wp2_with fail
      first | exact ⟨⟨k + 1, _, by omega, by go_num, HP3, HK3⟩, by simp [intOf]; omega⟩ | (go_roundw; (case rel => exact ⟨k + 1, _, by omega, by go_num, HP3, HK3⟩); (case measure => simp [intOf]; omega))
    · obtain rfl : k = nL := by omega
      have hkk : ¬ (k : Int) < (k : Int) := by omega
      have HKQ : Hid (CqK Q P) := by
        have q := HK.out
        rw [List.take_of_length_le (by have := HLn.out; omega)] at q
        exact q
      obtain ⟨a3, cp3, rfl, hv3, _, hg3⟩ := eshape HP.out.row
      have HV3 := hid (And.intro hv3 hg3)
      have HB3 : Hid (Below w.heap.size w wr) := ybt' HW1.out.2.2 HP.out.bel
      have HA3 : Hid (Ovr wr va o) := HA.out.later HB3.out
      have HLo : Hid (∀ g, o = some g → g < w.heap.size) := fun g e => by
        rcases HA.out with h | ⟨g', n, cap, h1, h2, h3, h4, cur, hc, hs⟩
        · rw [h.2] at e; cases e
        · rw [h2] at e
          injection e with e
          rw [← e]
          exact (Array.getElem?_eq_some_iff.1 hc).1
      clear hv3 hg3 HK
      generalize hw3 : wr = w3 at *
      clear hw3
      rcases HA3.out with ⟨rfl, h02⟩ | ⟨g, n9, cap, rfl, h02, hnc, hcm, hblk⟩
      · have HGo : Hid (w3.grownBy w3 o) := gby_of (Below.refl _ _)
        clear HA3
        go_wp2_with fail
        refine wp_loop_rounds 1 ?_
        rw [rounds_succ]
        go_wp2_with fail
        have HTL : Hid (RdV w3 aL (cutV Q)) := (HLv.out.later HB3.out).gby HGo.out HO.out.2
        have HTb : Hid (RdV w3 b (smC G)) := (HBv.out.later HB3.out).gby HGo.out HO.out.1
        have HT1 : Hid (RdV w3 a1 (smC G)) := (HW1.out.1.later HP.out.bel).gby HGo.out (fun g e q => by have := HLo.out g q; have := HW1.out.2.1 g e; omega)
        have HTi : Hid (RdV w3 a3 (cutV P)) := HV3.out.1.gby HGo.out (fun g e q => by have := HLo.out g q; have := (HV3.out.2 g e).1; have := HW1.out.2.2.size; omega)
        have HTQ : Hid (∀ q ∈ Q, RdV w3 q.a (smC q.xs)) := fun q hq => ((HQ.out q hq).1.later HB3.out).gby HGo.out (HQ.out q hq).2.2.2
        have HTP : Hid (∀ p ∈ P, RdV w3 p.a (smC p.xs)) := fun p hp => (HP.out.get hp).1.gby HGo.out (fun g e q => by have := HLo.out g q; have := ((HP.out.get hp).2 g e).1; have := HW1.out.2.2.size; omega)
        have HGw : Hid (w.grownBy w3 o) := gby_trans (gby_of HB3.out) HGo.out
        have HPl : Hid (P.length = k) := HP.out.len
        clear HGo
        go_loopw [12] (fun x ws => ∃ m : Nat, m ≤ k ∧ x = .int .i64 (m : Int) ∧ Hid (Below w3.heap.size w3 ws)) (fun x _ => k - (intOf x).toNat)
        case atStart => exact ⟨0, Nat.zero_le _, rfl, Below.refl _ _⟩
        case round =>
          obtain ⟨m, hm, rfl, HS⟩ := hrel
          generalize hws : wr = ws at *
          clear hws
          by_cases hlm : m < k
          · have hq1 : m < Q.length := by have := HLn.out; omega
            have hp1 : m < P.length := by have := HPl.out; omega
            have hxs : (P[m]).xs = (Q[m]).xs := by
              have q := congrArg (fun l : List (List (Int × Nat)) => l[m]?) HKQ.out
              rw [List.getElem?_map, List.getElem?_map, List.getElem?_eq_getElem hq1, List.getElem?_eq_getElem hp1] at q
              simpa using q
            have hqa := cutV_at hq1
            have hpa := cutV_at hp1
            rw [hxs] at hpa
            have hq2 := HTQ.out _ (List.getElem_mem hq1)
            have hp2 := HTP.out _ (List.getElem_mem hp1)
            rw [hxs] at hp2
            have hqn := (HQ.out _ (List.getElem_mem hq1)).2.1
            rcases HTL.out with h0 | ⟨gL, rfl, hgL, hxL⟩
            · have h1 : Q.length = 0 := by rw [← cutV_len, h0]; rfl
              omega
            rcases HTi.out with h0 | ⟨gI, rfl, hgI, hxI⟩
            · have h1 : P.length = 0 := by rw [← cutV_len, h0]; rfl
              omega
            have i0c := (HS.out.cell (p := ⟨gI, m, none⟩) hgI).trans (hxI m _ hpa)
            have g0c := (HS.out.cell (p := ⟨gL, m, none⟩) hgL).trans (hxL m _ hqa)
            clear hxs hqa hpa hxL hxI
            generalize (P[m]).a = pa at *
            generalize (P[m]).cap = pc at *
            generalize (Q[m]).a = qa at *
            generalize (Q[m]).cap = qc at *
            generalize (Q[m]).xs = qx at *
            have hs9 : ws.drew.cell? ⟨gI, m, none⟩ = some (.slice pa qx.length pc) ∧ ws.drew.cell? ⟨gL, m, none⟩ = some (.slice qa qx.length qc) := ⟨i0c, g0c⟩
            have HSm : Hid (Calls Try.prog 42 #[.slice pa qx.length pc, .slice qa qx.length qc] ws.drew fun e w' => e = .returned (.bool true) ∧ Below ws.drew.heap.size ws.drew w') := esameS_any pa qa pc qc qx ws.drew (by omega) ((hp2.later HS.out).later ((Below.refl _ _).drew)) ((hq2.later HS.out).later ((Below.refl _ _).drew))
            have HGs : Hid (gI < ws.heap.size ∧ gL < ws.heap.size) := ⟨Nat.lt_of_lt_of_le hgI HS.out.size, Nat.lt_of_lt_of_le hgL HS.out.size⟩
            have hk1 : (m : Int) < (k : Int) := by omega
            clear hp2 hq2 hqn
            go_wp2_with fail
            go_region_held3 (fun V : World => V.cell? ⟨gI, m, none⟩ = some (.slice pa qx.length pc) ∧ V.cell? ⟨gL, m, none⟩ = some (.slice qa qx.length qc)) (first | exact hs9 | exact hs10)
              ((go_at_call 42; (with_reducible refine Calls.mono HSm.out ?_); rintro e w7 ⟨rfl, hb7⟩; have hb7' : Below ws.heap.size ws w7 := (Below.refl ws.heap.size ws).drew.trans hb7; have HB7 := hid hb7'; have hs10 : w7.cell? ⟨gI, m, none⟩ = some (.slice pa qx.length pc) ∧ w7.cell? ⟨gL, m, none⟩ = some (.slice qa qx.length qc) := ⟨(hb7'.cell (p := ⟨gI, m, none⟩) HGs.out.1).trans i0c, (hb7'.cell (p := ⟨gL, m, none⟩) HGs.out.2).trans g0c⟩))
            all_goals (
              have HS7 : Hid (Below w3.heap.size w3 w7) := ybt' HS.out HB7.out
              clear hs9 hs10 hb7 hb7' i0c g0c HSm
              go_wp2_with fail
              first | exact ⟨⟨m + 1, by omega, by go_num, HS7⟩, by simp [intOf]; omega⟩ | (go_roundw; (case rel => exact ⟨m + 1, by omega, by go_num, HS7⟩); (case measure => simp [intOf]; omega)))
          · obtain rfl : m = k := by omega
            have hkm : ¬ (m : Int) < (m : Int) := by omega
            have HSn : Hid (Calls Try.prog 42 #[.slice a1 nb cp1, .slice b nb cb] ws fun e w' => e = .returned (.bool true) ∧ Below ws.heap.size ws w') := by
              have q := esameS_any a1 b cp1 cb G ws (by omega) (HT1.out.later HS.out) (HTb.out.later HS.out)
              rw [hbl] at q
              exact q
            go_wp2_with fail
            refine Calls.mono HSn.out ?_
            rintro e w8 ⟨rfl, hb8⟩
            have HB8 := hid (gby_trans HGw.out (gby_of (o := o) (ybt' HS.out hb8)))
            clear hb8 HSn
            go_wp2_with fail
            go_ret
            exact ⟨rfl, HB8.out⟩
      · have hcap : cap ≤ 9223372036854775807 := by unfold maxLen at hcm; omega
        have HBk := hid hblk
        have HOo := hid h02
        have sF : ∀ (W : World) (p : Addr) (y : Nat) (md : Mode), (store p (.float .f64 y) md).run Try.prog W = stored Try.prog W p (.float .f64 y) md := fun W p y md => rstore_flt Try.prog W p .f64 y md
        clear HA3 hblk h02
        go_wp2_with fail
        go_loopw [11] (fun x wr => ∃ k : Nat, k ≤ cap ∧ x = .int .i64 (k : Int) ∧ Hid (w3.grownBy wr (some g)) ∧ Hid (Blk wr g (cap * 2))) (fun x _ => cap - (intOf x).toNat)
        case atStart => exact ⟨0, Nat.zero_le _, rfl, gby_of (Below.refl _ _), HBk.out⟩
        case round =>
          obtain ⟨j, hj, rfl, HGr, HBl⟩ := hrel
          generalize hw4 : wr = w4 at *
          clear hw4
          by_cases hlj : j < cap
          · have hkc : (j : Int) < (cap : Int) := by omega
            have hk0 : (0 : Int) ≤ (j : Int) := by omega
            obtain ⟨u0, y0, f0⟩ := HBl.out.cell (j := j * 2) (by omega)
            obtain ⟨A0, hA0⟩ : ∃ A0, w4.setCell ⟨g, j * 2, none⟩ (.int .i64 (-5)) = A0 := ⟨_, rfl⟩
            have HBl0 : Hid (Blk A0 g (cap * 2)) := by rw [← hA0]; exact HBl.out.set _ _
            obtain ⟨u1, y1, f1⟩ := HBl0.out.cell (j := j * 2 + 1) (by omega)
            obtain ⟨A1, hA1⟩ : ∃ A1, A0.setCell ⟨g, j * 2 + 1, none⟩ (.float .f64 4617315517961601024) = A1 := ⟨_, rfl⟩
            have HBl1 : Hid (Blk A1 g (cap * 2)) := by rw [← hA1]; exact HBl0.out.set _ _
            have HG1 : Hid (w3.grownBy A1 (some g)) := by rw [← hA1, ← hA0]; exact gby_set (gby_set HGr.out _ _) _ _
            go_wp2_with fail
            exact ⟨⟨j + 1, by omega, by go_num, HG1.out, HBl1.out⟩, by simp [intOf]; omega⟩
          · obtain rfl : j = cap := by omega
            have hkj : ¬ (j : Int) < (j : Int) := by omega
            have HGo : Hid (w3.grownBy w4 o) := by rw [HOo.out]; exact HGr.out
            clear sF
            go_wp2_with fail
            have HTL : Hid (RdV w4 aL (cutV Q)) := (HLv.out.later HB3.out).gby HGo.out HO.out.2
            have HTb : Hid (RdV w4 b (smC G)) := (HBv.out.later HB3.out).gby HGo.out HO.out.1
            have HT1 : Hid (RdV w4 a1 (smC G)) := (HW1.out.1.later HP.out.bel).gby HGo.out (fun g e q => by have := HLo.out g q; have := HW1.out.2.1 g e; omega)
            have HTi : Hid (RdV w4 a3 (cutV P)) := HV3.out.1.gby HGo.out (fun g e q => by have := HLo.out g q; have := (HV3.out.2 g e).1; have := HW1.out.2.2.size; omega)
            have HTQ : Hid (∀ q ∈ Q, RdV w4 q.a (smC q.xs)) := fun q hq => ((HQ.out q hq).1.later HB3.out).gby HGo.out (HQ.out q hq).2.2.2
            have HTP : Hid (∀ p ∈ P, RdV w4 p.a (smC p.xs)) := fun p hp => (HP.out.get hp).1.gby HGo.out (fun g e q => by have := HLo.out g q; have := ((HP.out.get hp).2 g e).1; have := HW1.out.2.2.size; omega)
            have HGw : Hid (w.grownBy w4 o) := gby_trans (gby_of HB3.out) HGo.out
            have HPl : Hid (P.length = k) := HP.out.len
            clear HGo
            go_loopw [12] (fun x ws => ∃ m : Nat, m ≤ k ∧ x = .int .i64 (m : Int) ∧ Hid (Below w4.heap.size w4 ws)) (fun x _ => k - (intOf x).toNat)
            case atStart => exact ⟨0, Nat.zero_le _, rfl, Below.refl _ _⟩
            case round =>
              obtain ⟨m, hm, rfl, HS⟩ := hrel
              generalize hws : wr = ws at *
              clear hws
              by_cases hlm : m < k
              · have hq1 : m < Q.length := by have := HLn.out; omega
                have hp1 : m < P.length := by have := HPl.out; omega
                have hxs : (P[m]).xs = (Q[m]).xs := by
                  have q := congrArg (fun l : List (List (Int × Nat)) => l[m]?) HKQ.out
                  rw [List.getElem?_map, List.getElem?_map, List.getElem?_eq_getElem hq1, List.getElem?_eq_getElem hp1] at q
                  simpa using q
                have hqa := cutV_at hq1
                have hpa := cutV_at hp1
                rw [hxs] at hpa
                have hq2 := HTQ.out _ (List.getElem_mem hq1)
                have hp2 := HTP.out _ (List.getElem_mem hp1)
                rw [hxs] at hp2
                have hqn := (HQ.out _ (List.getElem_mem hq1)).2.1
                rcases HTL.out with h0 | ⟨gL, rfl, hgL, hxL⟩
                · have h1 : Q.length = 0 := by rw [← cutV_len, h0]; rfl
                  omega
                rcases HTi.out with h0 | ⟨gI, rfl, hgI, hxI⟩
                · have h1 : P.length = 0 := by rw [← cutV_len, h0]; rfl
                  omega
                have i0c := (HS.out.cell (p := ⟨gI, m, none⟩) hgI).trans (hxI m _ hpa)
                have g0c := (HS.out.cell (p := ⟨gL, m, none⟩) hgL).trans (hxL m _ hqa)
                clear hxs hqa hpa hxL hxI
                generalize (P[m]).a = pa at *
                generalize (P[m]).cap = pc at *
                generalize (Q[m]).a = qa at *
                generalize (Q[m]).cap = qc at *
                generalize (Q[m]).xs = qx at *
                have hs9 : ws.drew.cell? ⟨gI, m, none⟩ = some (.slice pa qx.length pc) ∧ ws.drew.cell? ⟨gL, m, none⟩ = some (.slice qa qx.length qc) := ⟨i0c, g0c⟩
                have HSm : Hid (Calls Try.prog 42 #[.slice pa qx.length pc, .slice qa qx.length qc] ws.drew fun e w' => e = .returned (.bool true) ∧ Below ws.drew.heap.size ws.drew w') := esameS_any pa qa pc qc qx ws.drew (by omega) ((hp2.later HS.out).later ((Below.refl _ _).drew)) ((hq2.later HS.out).later ((Below.refl _ _).drew))
                have HGs : Hid (gI < ws.heap.size ∧ gL < ws.heap.size) := ⟨Nat.lt_of_lt_of_le hgI HS.out.size, Nat.lt_of_lt_of_le hgL HS.out.size⟩
                have hk1 : (m : Int) < (k : Int) := by omega
                clear hp2 hq2 hqn
                go_wp2_with fail
                go_region_held3 (fun V : World => V.cell? ⟨gI, m, none⟩ = some (.slice pa qx.length pc) ∧ V.cell? ⟨gL, m, none⟩ = some (.slice qa qx.length qc)) (first | exact hs9 | exact hs10)
                  ((go_at_call 42; (with_reducible refine Calls.mono HSm.out ?_); rintro e w7 ⟨rfl, hb7⟩; have hb7' : Below ws.heap.size ws w7 := (Below.refl ws.heap.size ws).drew.trans hb7; have HB7 := hid hb7'; have hs10 : w7.cell? ⟨gI, m, none⟩ = some (.slice pa qx.length pc) ∧ w7.cell? ⟨gL, m, none⟩ = some (.slice qa qx.length qc) := ⟨(hb7'.cell (p := ⟨gI, m, none⟩) HGs.out.1).trans i0c, (hb7'.cell (p := ⟨gL, m, none⟩) HGs.out.2).trans g0c⟩))
                all_goals (
                  have HS7 : Hid (Below w4.heap.size w4 w7) := ybt' HS.out HB7.out
                  clear hs9 hs10 hb7 hb7' i0c g0c HSm
                  go_wp2_with fail
                  first | exact ⟨⟨m + 1, by omega, by go_num, HS7⟩, by simp [intOf]; omega⟩ | (go_roundw; (case rel => exact ⟨m + 1, by omega, by go_num, HS7⟩); (case measure => simp [intOf]; omega)))
              · obtain rfl : m = k := by omega
                have hkm : ¬ (m : Int) < (m : Int) := by omega
                have HSn : Hid (Calls Try.prog 42 #[.slice a1 nb cp1, .slice b nb cb] ws fun e w' => e = .returned (.bool true) ∧ Below ws.heap.size ws w') := by
                  have q := esameS_any a1 b cp1 cb G ws (by omega) (HT1.out.later HS.out) (HTb.out.later HS.out)
                  rw [hbl] at q
                  exact q
                go_wp2_with fail
                refine Calls.mono HSn.out ?_
                rintro e w8 ⟨rfl, hb8⟩
                have HB8 := hid (gby_trans HGw.out (gby_of (o := o) (ybt' HS.out hb8)))
                clear hb8 HSn
                go_wp2_with fail
                go_ret
                exact ⟨rfl, HB8.out⟩
end Go.Proofs.Ytmigdomlakflfaa

/- Some lists of samples that came in: each no longer than the bulk. -/
namespace Go.Proofs.Ytmigdomlakflfaa
open Go.RowKit Go.ChangeShapes Go.WideShapes Go.Deep Go.Joins
set_option linter.unusedVariables false

theorem many_of_trod_b {H : Type} {enc : TypeId × Value → H} {P : Program} {w : World} {held : Bool} {t s e : TypeId} {f0 f1 : Field} {n : Nat} {v : Value} {x : DataW H × List MemPlace} (ht : P.underlying t = some (.slice s)) (cs1 : P.cellsOf s = 1) (hs : P.underlying s = some (.slice e)) (he : P.underlying e = some (.struct #[f0, f1])) (ce : P.cellsOf e = 2)
    (o0 : f0.offset = 0) (o1 : f1.offset = 1) (c0 : P.cellsOf f0.type = 1) (c1 : P.cellsOf f1.type = 1) (u0 : P.underlying f0.type = some (.int .i64)) (u1 : P.underlying f1.type = some (.float .f64))
    (h : DataW.trod enc P w 0 (fun _ => true) held n t [v] = some x) :
    ∃ a len cap ls, v = .slice a len cap ∧ len ≤ cap ∧ cap ≤ maxLen ∧ (a = none → len = 0 ∧ cap = 0) ∧ ls.length = len ∧ RdL w a ls ∧ ∀ f : DataW H → Nat, (∀ ds rs, ds.length ≤ f (.slice ds rs)) → (∀ ds rs d, d ∈ ds → f d ≤ f (.slice ds rs)) → ∀ p ∈ ls, p.xs.length ≤ f x.1 := by
  rcases open_slice ht h with ⟨h0, _⟩ | ⟨a, len, cap, m, k, Dt, Pl, hcs, _, hl, hm, hmm, hx, hel⟩
  · simp at h0
    exact ⟨none, 0, 0, [], h0, Nat.le_refl _, Nat.zero_le _, fun _ => ⟨rfl, rfl⟩, rfl, ⟨.inl rfl, by simp⟩, by simp⟩
  · simp at hcs
    rw [cs1] at hel
    have hlm : len ≤ m := by rw [hmm]; split <;> omega
    have each : ∀ i, i < len → ∃ q : LsI, w.cells? 0 (a.add (i * 1)) 1 = some [.slice q.a q.xs.length q.cap] ∧ RdS w q.a q.xs ∧ (q.a = none → q.cap = 0 ∧ q.xs.length = 0) ∧ (∀ p ∈ q.xs, I64 p.1 ∧ p.2 < 18446744073709551616) ∧ ∀ f : DataW H → Nat, (∀ ds rs, ds.length ≤ f (.slice ds rs)) → q.xs.length ≤ f (Dt i) := by
      intro i hi
      obtain ⟨cs, h1, h2⟩ := hel i (by omega)
      have hlen : cs.length = 1 := (World.cells?_some h1).2.1
      match cs, hlen with
      | [v0], _ =>
        obtain ⟨a1, len1, cap1, xs, rfl, _, _, hz, hxl, h64, hrd, hbk⟩ := sample_of_trod_b hs he ce o0 o1 c0 c1 u0 u1 h2
        subst hxl
        exact ⟨⟨a1, cap1, xs⟩, h1, hrd, fun e => ⟨(hz e).2, (hz e).1⟩, h64, hbk⟩
    obtain ⟨q, hq⟩ := yl_choose each
    have hxo : ∀ j p, ((List.range len).map q)[j]? = some p → j < len ∧ p = q j := fun j p hj => by
      rw [List.getElem?_map] at hj
      by_cases hlt : j < len
      · rw [List.getElem?_range hlt] at hj
        simp at hj
        exact ⟨hlt, hj.symm⟩
      · rw [List.getElem?_eq_none (by simp; omega)] at hj
        simp at hj
    refine ⟨some a, len, cap, (List.range len).map q, hcs, hl, hm, (fun h => by cases h), by simp, ⟨?_, fun p hp => ?_⟩, fun f hf hg p hp => ?_⟩
    · by_cases hz : len = 0
      · subst hz
        exact .inl rfl
      right
      obtain ⟨b, o, spot⟩ := a
      have hs : spot = none := by
        obtain ⟨_, _, hc⟩ := World.cells?_some (hq 0 (by omega)).1
        have e0 := hc 0 (by omega)
        simpa [Addr.add] using World.cell?_spot e0
      subst hs
      have cells : ∀ j, j < len → w.cell? ⟨b, o + j, none⟩ = some (.slice (q j).a (q j).xs.length (q j).cap) := by
        intro j hj
        obtain ⟨_, _, hc⟩ := World.cells?_some (hq j hj).1
        have e0 := hc 0 (by omega)
        rw [Addr.add_add, Addr.add_lit] at e0
        simpa using e0
      refine ⟨b, o, rfl, yl_cell_block (cells 0 (by omega)), fun j p hj => ?_⟩
      obtain ⟨hlt, rfl⟩ := hxo j p hj
      exact cells j hlt
    · obtain ⟨j, hj⟩ := List.getElem?_of_mem hp
      obtain ⟨hlt, rfl⟩ := hxo j p hj
      exact ⟨(hq j hlt).2.1, (hq j hlt).2.2.1, (hq j hlt).2.2.2.1⟩
    · obtain ⟨j, hj⟩ := List.getElem?_of_mem hp
      obtain ⟨hlt, rfl⟩ := hxo j p hj
      refine Nat.le_trans ((hq j hlt).2.2.2.2 f hf) ?_
      rw [hx]
      exact hg _ _ _ (List.mem_map.2 ⟨j, List.mem_range.2 hlt, rfl⟩)
end Go.Proofs.Ytmigdomlakflfaa

/- The law CleanMerge answers true, whatever lists come in. -/
namespace Go.Proofs.Ytmigdomlakflfaa
open Go.RowKit
set_option linter.unusedVariables false
set_option linter.unusedSimpArgs false

/-- The lists that are handed in, once all are made. -/
theorem CqS.rdl {w W : World} {Q : List LsI} {v u : Value} {k : Nat} (h : CqS w Q Q Q v u W) (hk : Q.length = k) (hx : ∀ q ∈ Q, ∀ p ∈ q.xs, I64 p.1 ∧ p.2 < 18446744073709551616) : ∃ au cu av cv, u = .slice au k cu ∧ v = .slice av k cv ∧ Hid (RdL W au Q ∧ RdV W au (cutV Q) ∧ RdV W av (fullV Q)) ∧ Hid ((∀ g, au = some ⟨g, 0, none⟩ → g < W.heap.size) ∧ ∀ q ∈ Q, RdV W q.a (smC (q.xs ++ smarks 3)) ∧ (q.a = none → q.cap = 0 ∧ q.xs.length = 0) ∧ ∀ g, q.a = some ⟨g, 0, none⟩ → g < W.heap.size) := by
  subst hk
  obtain ⟨au, cu, e1, hV, _, hg⟩ := eshape h.snd
  obtain ⟨av, cv, e2, hV2, _, _⟩ := eshape h.fst
  have key : ∀ q ∈ Q, RdV W q.a (smC (q.xs ++ smarks 3)) ∧ (q.a = none → q.cap = 0 ∧ q.xs.length = 0) ∧ ∀ g, q.a = some ⟨g, 0, none⟩ → g < W.heap.size := fun q hq => by
    obtain ⟨a, c, e, hv, hz, hg⟩ := eshape (h.own q hq)
    injection e with e3 _ _
    subst e3
    exact ⟨hv, fun e => by have := (hz e).2; have : (smarks 3).length = 3 := rfl; omega, fun g e => (hg g e).2⟩
  refine ⟨au, cu, av, cv, e1, e2, ⟨⟨?_, fun q hq => ⟨?_, (key q hq).2.1, hx q hq⟩⟩, hV, hV2⟩, fun g e => (hg g e).2, key⟩
  · rcases hV with h0 | ⟨g, ha, hl, hc⟩
    · left
      have : Q.length = 0 := by rw [← cutV_len, h0]; rfl
      exact List.eq_nil_of_length_eq_zero this
    · refine .inr ⟨g, 0, ha, hl, fun j p hj => ?_⟩
      rw [Nat.zero_add]
      refine hc j _ ?_
      unfold cutV
      rw [List.getElem?_map, hj]; rfl
  · have q1 := (key q hq).1
    rw [smC_append] at q1
    exact RdS.of q1.front
theorem CqK.more {ls Q : List LsI} {k : Nat} (h : CqK (ls.take k) Q) (hk : k < ls.length) {q : LsI} (hq : q.xs = (ls[k]).xs) : CqK (ls.take (k + 1)) (Q ++ [q]) := by
  unfold CqK at h ⊢
  rw [List.take_succ_eq_append_getElem hk, List.map_append, List.map_append, h, List.map_cons, List.map_cons, hq]
theorem CqK.at {ls Q : List LsI} (h : CqK ls Q) {k : Nat} (h1 : k < ls.length) (h2 : k < Q.length) : (Q[k]).xs = (ls[k]).xs := by
  have q := congrArg (fun l : List (List (Int × Nat)) => l[k]?) h
  rw [List.getElem?_map, List.getElem?_map, List.getElem?_eq_getElem h1, List.getElem?_eq_getElem h2] at q
  simpa using q
theorem CqK.len {ls Q : List LsI} (h : CqK ls Q) : Q.length = ls.length := by have := congrArg List.length h; simpa using this
theorem CqK.all {ls Q : List LsI} (h : CqK ls Q) {P : List (Int × Nat) → Prop} (hp : ∀ p ∈ ls, P p.xs) : ∀ q ∈ Q, P q.xs := fun q hq => by
  have : q.xs ∈ Q.map (·.xs) := List.mem_map.2 ⟨q, hq, rfl⟩
  rw [h] at this
  obtain ⟨p, hpp, e⟩ := List.mem_map.1 this
  rw [← e]
  exact hp p hpp
/-- What comes of lists: the fault, and what is gathered. -/
def MgO (F : List (Int × Nat)) (c : Int × Int) (er ix : Int) (M : List (Int × Nat)) : Prop :=
  (c ≠ (0, 0) ∧ (er, ix) = c ∧ M = []) ∨ (c = (0, 0) ∧ MrX F ∧ er = 9 ∧ ix = -1 ∧ M = []) ∨
  (c = (0, 0) ∧ ∃ O, MrA F O ∧ ((4096 < O.length ∧ er = 3 ∧ ix = -1 ∧ M = []) ∨ (O.length ≤ 4096 ∧ er = 0 ∧ ix = 0 ∧ M = O)))
theorem MgO.one {F : List (Int × Nat)} {c : Int × Int} {e i f j : Int} {M N : List (Int × Nat)} (h : MgO F c e i M) (g : MgO F c f j N) : e = f ∧ i = j ∧ M = N := by
  rcases h with ⟨h1, h2, h3⟩ | ⟨h1, h2, h3, h4, h5⟩ | ⟨h1, O, h2, h3⟩
  · rcases g with ⟨g1, g2, g3⟩ | ⟨g1, _⟩ | ⟨g1, _⟩
    · have q := h2.trans g2.symm
      injection q with q1 q2
      exact ⟨q1, q2, by rw [h3, g3]⟩
    · exact absurd g1 h1
    · exact absurd g1 h1
  · rcases g with ⟨g1, _⟩ | ⟨g1, g2, g3, g4, g5⟩ | ⟨g1, O2, g2, g3⟩
    · exact absurd h1 g1
    · exact ⟨by rw [h3, g3], by rw [h4, g4], by rw [h5, g5]⟩
    · exact absurd h2 (fun q => g2.no q)
  · rcases g with ⟨g1, _⟩ | ⟨g1, g2, g3, g4, g5⟩ | ⟨g1, O2, g2, g3⟩
    · exact absurd h1 g1
    · exact absurd g2 (fun q => h2.no q)
    · have e1 : O = O2 := h2.one g2
      subst e1
      rcases h3 with ⟨h3, h4, h5, h6⟩ | ⟨h3, h4, h5, h6⟩
      · rcases g3 with ⟨g3, g4, g5, g6⟩ | ⟨g3, g4, g5, g6⟩
        · exact ⟨by rw [h4, g4], by rw [h5, g5], by rw [h6, g6]⟩
        · omega
      · rcases g3 with ⟨g3, g4, g5, g6⟩ | ⟨g3, g4, g5, g6⟩
        · omega
        · exact ⟨by rw [h4, g4], by rw [h5, g5], by rw [h6, g6]⟩
theorem MgC.of {ls : List LsI} {e i : Int} {v : Value} {W : World} {b : Nat} (h : MgC ls e i v (fun O => W.ownsRow b 32 2 v O.length (smC O))) :
    ∃ M, MgO (flatS ls) (chkL ls) e i M ∧ M.length ≤ 4096 ∧ (∀ p ∈ M, isone p.2 = true ∧ p.2 < 18446744073709551616) ∧ W.ownsRow b 32 2 v M.length (smC M) := by
  have nil : v = .slice none 0 0 → W.ownsRow b 32 2 v ([] : List (Int × Nat)).length (smC []) := fun e => by rw [e]; exact World.ownsRow_nil _ _ _ _
  rcases h with ⟨h1, h2, h3⟩ | ⟨h1, h2, h3, h4, h5⟩ | ⟨h1, O, h2, ⟨h3, h4, h5, h6⟩ | ⟨h3, h4, h5, h6⟩⟩
  · exact ⟨[], .inl ⟨h1, h2, rfl⟩, by simp, by simp, nil h3⟩
  · exact ⟨[], .inr (.inl ⟨h1, h2, h3, h4, rfl⟩), by simp, by simp, nil h5⟩
  · exact ⟨[], .inr (.inr ⟨h1, O, h2, .inl ⟨h3, h4, h5, rfl⟩⟩), by simp, by simp, nil h6⟩
  · exact ⟨O, .inr (.inr ⟨h1, O, h2, .inr ⟨h3, h4, h5, rfl⟩⟩), h3, fun p hp => (h2.mean p hp).2.ok, h6⟩
set_option maxHeartbeats 12800000 in
set_option maxRecDepth 100000 in
theorem cleanMerge_go (a : Option Addr) (n cap : Nat) (ls : List LsI) (w : World) (hl : ls.length = n) (h : RdL w a ls) (hb : ∀ p ∈ ls, p.xs.length ≤ 1048576) :
    Calls Try.prog 4 #[.slice a n cap] w fun e w' => e = .returned (.bool true) ∧ Below w.heap.size w w' := by
  obtain ⟨i0, hi, hz0, hz1, hz2⟩ := info_parts Try.yinfoSS
  have HLi := hid (elives_any w)
  have HX := hid h
  have HL := hid hl
  have HBd := hid hb
  clear h hl hb
  by_cases hn : 20 < n
  · have hni : (20 : Int) < (n : Int) := by omega
    go_enter Try.func4, Try.ntmps4
    go_wp2_with fail
    refine Calls.mono HLi.out ?_
    rintro e w1 ⟨rfl, hb1⟩
    have HB := hid hb1
    clear hb1 HLi
    go_wp2_with fail
    go_ret
    exact ⟨rfl, HB.out⟩
  have hni : ¬ (20 : Int) < (n : Int) := by omega
  go_enter Try.func4, Try.ntmps4
  go_wp2_with fail
  refine Calls.mono HLi.out ?_
  rintro e w1 ⟨rfl, hb1⟩
  have HB1 := hid hb1
  clear hb1 HLi
  go_wp2_with fail
  go_loopw [3, 4, 5] (fun u v x wr => ∃ (k : Nat) (Q : List LsI), k ≤ n ∧ x = .int .i64 (k : Int) ∧ Hid (CqS w Q Q Q v u wr) ∧ Hid (CqK (ls.take k) Q)) (fun _ _ x _ => n - (intOf x).toNat)
  case atStart => exact ⟨0, [], Nat.zero_le _, rfl, CqS.nil w HB1.out, rfl⟩
  case round =>
    obtain ⟨k, Q, hk, rfl, HS, HK⟩ := hrel
    have HKl : Hid (Q.length = k) := by have := HK.out.len; rw [List.length_take] at this; have := HL.out; show _ = _; omega
    by_cases hlt : k < n
    · have hkx : k < ls.length := by have := HL.out; omega
      have hj : ls[k]? = some ls[k] := List.getElem?_eq_getElem hkx
      obtain ⟨hrs, hnz, h64⟩ := HX.out.2 _ (List.getElem_mem hkx)
      have hbd := HBd.out _ (List.getElem_mem hkx)
      have HMo : Hid (∀ q : LsI, q.xs = (ls[k]).xs → CqK (ls.take (k + 1)) (Q ++ [q])) := fun q hq => HK.out.more hkx hq
      rcases HX.out.1 with h0 | ⟨g, o, rfl, hg, hx⟩
      · rw [h0] at hkx; exact absurd hkx (by simp)
      have c0 := (HS.out.bel.cell (p := ⟨g, o + k, none⟩) hg).trans (hx k _ hj)
      have HCe : Hid (∀ V, Below w.heap.size w V → V.cell? ⟨g, o + k, none⟩ = some (.slice (ls[k]).a (ls[k]).xs.length (ls[k]).cap)) := fun V hV => (hV.cell (p := ⟨g, o + k, none⟩) hg).trans (hx k _ hj)
      clear hx hj
      generalize ls[k] = q at *
      obtain ⟨qa, qc, qx⟩ := q
      dsimp only at c0 hrs hnz h64 hbd HMo HCe
      have hk1 : (k : Int) < (n : Int) := by omega
      have HLe := hid (elentS_any qa qx.length qc qx wr (by omega) rfl hnz (hrs.later (B := 0) HS.out.bel))
      clear hrs hnz h64 HK
      by_cases hsk : 60 < qx.length ∧ qx.length ≤ 4096
      · have h1 : (60 : Int) < (qx.length : Int) := by omega
        have h2 : (qx.length : Int) ≤ 4096 := by omega
        clear hsk
        go_wp2_with fail
        go_ret
        exact ⟨rfl, HS.out.bel⟩
      have hgd : ((60 : Int) < (qx.length : Int) ∧ ¬ (qx.length : Int) ≤ 4096) ∨ ¬ (60 : Int) < (qx.length : Int) := by omega
      clear hsk
      rcases hgd with ⟨g1, g2⟩ | g1
      all_goals (
        go_wp2_with fail
        refine Calls.mono HLe.out ?_
        rintro e w2 ⟨v2, rfl, ho2, hb2⟩
        obtain ⟨a2, c2, rfl, hV2, hz2, hg2⟩ := eshape ho2
        have hcap : qx.length + 3 ≤ c2 := by
          rcases ho2.2 with ⟨h1, h0⟩ | ⟨g, cc, cur, h1, h2, h3, h4, h5, h6⟩
          · omega
          · injection h1 with e1 e2 e3
            omega
        obtain ⟨ad, rfl⟩ : ∃ ad, a2 = some ad := by
          cases a2 with
          | none => have := (hz2 rfl).2; omega
          | some ad => exact ⟨ad, rfl⟩
        have HS2 : Hid (CqS w (Q ++ [⟨some ad, c2, qx⟩]) Q Q u4 u3 w2) := HS.out.add hb2 (q := ⟨some ad, c2, qx⟩) ho2
        have hfst := HS2.out.fst
        rw [HKl.out] at hfst
        have hsz := HS2.out.bel.size
        clear hV2 hz2 hg2 hb2 ho2 HLe c0
        have tok1 : True := trivial
        go_wp2_with (first
          | (at_builtin; have _t := tok1; refine wpList_append_own_at _ rfl _ _ 33 rfl w.heap.size 25 i0 (.slice none 0 0) 1 24 Try.underlying33 hi hz0 hz1 hz2 rfl (by decide) _ _ _ rfl (hfst.alloc _) ⟨w2.heap.size, 0, none⟩ 1 1 [.slice (some ad) (qx.length + 3) c2] rfl rfl (cell_one_new _ _ _) (by simp [Value.oneCell']) (by unfold maxLen; omega) (by omega) (by simp; omega) ?_; intro v3 w3 ho3 hg3 _ ha3; clear tok1 _t; have HS3 : Hid (CqS w (Q ++ [⟨some ad, c2, qx⟩]) (Q ++ [⟨some ad, c2, qx⟩]) Q v3 u3 w3) := (HS2.out.later ((Below.refl _ _).alloc (Nat.le_refl _) _)).one (Q3 := Q ++ [(⟨some ad, c2, qx⟩ : LsI)]) (by rw [fullV_snoc, List.length_append, HKl.out]; exact ho3) hg3 ha3; have hsnd := HS3.out.snd; rw [HKl.out] at hsnd; have hsz3 := HS3.out.bel.size; have c3 := HCe.out w3 HS3.out.bel; clear ho3 hg3 ha3 hfst)
          | (at_builtin; have _t := c3; refine wpList_append_own_at _ rfl _ _ 33 rfl w.heap.size 25 i0 (.slice none 0 0) 1 24 Try.underlying33 hi hz0 hz1 hz2 rfl (by decide) _ _ _ rfl (hsnd.alloc _) ⟨w3.heap.size, 0, none⟩ 1 1 [.slice (some ad) qx.length c2] rfl rfl (cell_one_new _ _ _) (by simp [Value.oneCell']) (by unfold maxLen; omega) (by omega) (by simp; omega) ?_; intro v4 w4 ho4 hg4 _ ha4; clear _t)
          | fail)
        have HS4 : Hid (CqS w (Q ++ [⟨some ad, c2, qx⟩]) (Q ++ [⟨some ad, c2, qx⟩]) (Q ++ [⟨some ad, c2, qx⟩]) v3 v4 w4) := (HS3.out.later ((Below.refl _ _).alloc (Nat.le_refl _) _)).two (Q3 := Q ++ [(⟨some ad, c2, qx⟩ : LsI)]) (by rw [cutV_snoc, List.length_append, HKl.out]; exact ho4) hg4 ha4
        have HK4 := hid (HMo.out ⟨some ad, c2, qx⟩ rfl)
        clear ho4 hg4 ha4 hsnd HS3 HMo c3 HS2 HS
        first | exact ⟨⟨k + 1, _, by omega, by go_num, HS4, HK4⟩, by simp [intOf]; omega⟩ | (go_roundw; (case rel => exact ⟨k + 1, _, by omega, by go_num, HS4, HK4⟩); (case measure => simp [intOf]; omega)))
    · obtain rfl : k = n := by omega
      have hkk : ¬ (k : Int) < (k : Int) := by omega
      have HKQ : Hid (CqK ls Q) := by
        have q := HK.out
        rw [List.take_of_length_le (by have := HL.out; omega)] at q
        exact q
      clear HK
      have HQx : Hid (∀ q ∈ Q, ∀ p ∈ q.xs, I64 p.1 ∧ p.2 < 18446744073709551616) := HKQ.out.all (P := fun xs => ∀ p ∈ xs, I64 p.1 ∧ p.2 < 18446744073709551616) (fun p hp => (HX.out.2 p hp).2.2)
      have HQb : Hid (∀ q ∈ Q, q.xs.length ≤ 1048576) := HKQ.out.all (P := fun xs => xs.length ≤ 1048576) (fun p hp => HBd.out p hp)
      obtain ⟨au, cu, av, cv, rfl, rfl, HR, HR2⟩ := HS.out.rdl HKl.out HQx.out
      have HBr := hid HS.out.bel
      generalize hw0 : wr = w0 at *
      clear hw0
      have M1 := hid (emerge_any au k cu Q w0 HKl.out HR.out.1)
      clear HS
      go_wp2_with fail
      refine Calls.mono M1.out ?_
      rintro e w2 ⟨va, er, ix, rfl, HM2, hb2⟩
      obtain ⟨Y2, A20, A21, hY2, hA20, hA21, ⟨y20, y21⟩, ⟨f20, f21⟩, ⟨z20, z21⟩, HBX2⟩ := ybox2 w2 28 (.int .i64 0) (.int .i64 0) (.int .i64 er) (.int .i64 ix)
      have H2 := hid hb2
      have H02 : Hid (Below w0.heap.size w0 A21) := ybt' hb2 HBX2.out.2
      have M2 := hid (emerge_any au k cu Q A21 HKl.out (HR.out.1.later H02.out))
      clear hb2 M1
      go_wp2_with fail
      clear hY2 hA20 hA21 y20 y21 f20 f21 z20 z21
      refine Calls.mono M2.out ?_
      rintro e w3 ⟨vb, er2, ix2, rfl, HM3, hb3⟩
      obtain ⟨Y3, A30, A31, hY3, hA30, hA31, ⟨y30, y31⟩, ⟨f30, f31⟩, ⟨z30, z31⟩, HBX3⟩ := ybox2 w3 28 (.int .i64 0) (.int .i64 0) (.int .i64 er2) (.int .i64 ix2)
      have H3 := hid hb3
      have H23 : Hid (Below A21.heap.size A21 A31) := ybt' hb3 HBX3.out.2
      have Hw3 : Hid (Below w.heap.size w A31) := ybt' HBr.out (ybt' H02.out H23.out)
      have M3 := hid (rmerge_any a k cap ls A31 HL.out (HX.out.later Hw3.out))
      clear hb3 M2
      go_wp2_with fail
      clear hY3 hA30 hA31 y30 y31 f30 f31 z30 z31
      refine Calls.mono M3.out ?_
      rintro e w4 ⟨vc, er3, ix3, rfl, HM4, hb4⟩
      obtain ⟨Ma, oa, hMl, hMo, rowa⟩ := HM2.out.of
      obtain ⟨Mb, ob, _, _, rowb⟩ := HM3.out.of
      obtain ⟨Mc, oc, _, _, rowc⟩ := HM4.out.of
      rw [chkL_same HKQ.out, flatS_same HKQ.out] at oa ob
      obtain ⟨q1, q2, q3⟩ := oa.one ob
      obtain ⟨q4, q5, q6⟩ := oa.one oc
      subst q1 q2 q3 q4 q5 q6
      obtain ⟨Y4, A40, A41, hY4, hA40, hA41, ⟨y40, y41⟩, ⟨f40, f41⟩, ⟨z40, z41⟩, HBX4⟩ := ybox2 w4 28 (.int .i64 0) (.int .i64 0) (.int .i64 er) (.int .i64 ix)
      have H34 : Hid (Below A31.heap.size A31 A41) := ybt' hb4 HBX4.out.2
      have H24 : Hid (Below A21.heap.size A21 A41) := ybt' H23.out H34.out
      have H04 : Hid (Below w0.heap.size w0 A41) := ybt' H02.out H24.out
      have Hw4 : Hid (Below w.heap.size w A41) := ybt' HBr.out H04.out
      obtain ⟨aa, ca, rfl, hVa, hza, hga⟩ := eshape rowa
      obtain ⟨ab, cb, rfl, hVb, hzb, hgb⟩ := eshape rowb
      obtain ⟨ac, cc, rfl, hVc, hzc, hgc⟩ := eshape rowc
      have HVa := hid (And.intro rowa (And.intro hVa hga))
      have HVb := hid (And.intro hVb (And.intro hzb hgb))
      have HVc := hid hVc
      have HMo := hid hMo
      have HMl := hid hMl
      have k80 : A41.cell? ⟨w2.heap.size, 0, none⟩ = some (.int .i64 er) := (HBX2.out.1.later H24.out HBX2.out.1.lt).cell 0
      have k81 : A41.cell? ⟨w2.heap.size, 1, none⟩ = some (.int .i64 ix) := (HBX2.out.1.later H24.out HBX2.out.1.lt).cell 1
      have k100 : A41.cell? ⟨w3.heap.size, 0, none⟩ = some (.int .i64 er) := (HBX3.out.1.later H34.out HBX3.out.1.lt).cell 0
      have k101 : A41.cell? ⟨w3.heap.size, 1, none⟩ = some (.int .i64 ix) := (HBX3.out.1.later H34.out HBX3.out.1.lt).cell 1
      have hEQ := cfault_same er ix
      have H2A : Hid (Below w2.heap.size w2 A41) := ybt' HBX2.out.2 H24.out
      have H3A : Hid (Below w3.heap.size w3 A41) := ybt' HBX3.out.2 H34.out
      have HS1 := hid (esame_any aa ac ca cc Ma A41 (by omega) hMo (hVa.later H2A.out) (hVc.later HBX4.out.2))
      clear oa ob oc rowa rowb rowc hVa hVb hVc hza hzb hzc hga hgb hgc hMo hMl hb4 M3 HM2 HM3 HM4
      go_wp2_with fail
      clear hY4 hA40 hA41 y40 y41 f40 f41 z40 z41 k80 k81 k100 k101 hEQ
      refine Calls.mono HS1.out ?_
      rintro e w5 ⟨rfl, hb5⟩
      have H5 := hid hb5
      have HS2 := hid (esame_any ab ac cb cc Ma w5 (by have := HMl.out; omega) HMo.out (HVb.out.1.later (ybt' H3A.out hb5)) (HVc.out.later (ybt' HBX4.out.2 hb5)))
      clear hb5 HS1
      go_wp2_with fail
      refine Calls.mono HS2.out ?_
      rintro e w6 ⟨rfl, hb6⟩
      have HA6 : Hid (Below A41.heap.size A41 w6) := ybt' H5.out hb6
      have H06 : Hid (Below w0.heap.size w0 w6) := ybt' H04.out HA6.out
      have H26 : Hid (Below w2.heap.size w2 w6) := ybt' H2A.out HA6.out
      have H36 : Hid (Below w3.heap.size w3 w6) := ybt' H3A.out HA6.out
      have Hw6 : Hid (Below w.heap.size w w6) := ybt' HBr.out H06.out
      have HSz : Hid (w0.heap.size ≤ w2.heap.size ∧ w2.heap.size ≤ A21.heap.size ∧ w.heap.size ≤ w0.heap.size) := ⟨H2.out.size, HBX2.out.2.size, HBr.out.size⟩
      clear hb6 HS2 H5 HBX2 HBX3 HBX4 H02 H23 H34 H24 H04 Hw4 Hw3 H2A H3A
      go_wp2_with fail
      go_loopw [13] (fun x ws => ∃ m : Nat, m ≤ k ∧ x = .int .i64 (m : Int) ∧ Hid (Below w6.heap.size w6 ws)) (fun x _ => k - (intOf x).toNat)
      case atStart => exact ⟨0, Nat.zero_le _, rfl, Below.refl _ _⟩
      case round =>
        obtain ⟨m, hm, rfl, HS⟩ := hrel
        generalize hws : wr = ws at *
        clear hws
        by_cases hlm : m < k
        · have hq1 : m < Q.length := by have := HKl.out; omega
          have hp1 : m < ls.length := by have := HL.out; omega
          have hxs := HKQ.out.at hp1 hq1
          have hqa := fullV_at hq1
          rw [hxs] at hqa
          obtain ⟨hrs, hnz, _⟩ := HX.out.2 _ (List.getElem_mem hp1)
          have hbd := HBd.out _ (List.getElem_mem hp1)
          have hq2 := (HR2.out.2 _ (List.getElem_mem hq1)).1
          rw [hxs] at hq2
          rcases HX.out.1 with h0 | ⟨gL, oL, rfl, hgL, hxL⟩
          · rw [h0] at hp1; exact absurd hp1 (by simp)
          rcases HR.out.2.2 with h0 | ⟨gI, rfl, hgI, hxI⟩
          · have h1 : Q.length = 0 := by rw [← cutV_len, show cutV Q = [] from by have := congrArg List.length h0; unfold fullV at this; rw [List.length_map] at this; rw [List.eq_nil_of_length_eq_zero this]; rfl]; rfl
            omega
          have h0s := ybt' H06.out HS.out
          have hws := ybt' Hw6.out HS.out
          have i0c := (h0s.cell (p := ⟨gI, m, none⟩) hgI).trans (hxI m _ hqa)
          have g0c := (hws.cell (p := ⟨gL, oL + m, none⟩) hgL).trans (hxL m _ (List.getElem?_eq_getElem hp1))
          have HKp : Hid (Calls Try.prog 19 #[.slice (Q[m]).a ((ls[m]).xs.length + 3) (Q[m]).cap, .slice (ls[m]).a (ls[m]).xs.length (ls[m]).cap] ws.drew fun e w' => e = .returned (.bool true) ∧ Below ws.drew.heap.size ws.drew w') := ekeptS_any (ls[m]).a (Q[m]).a (ls[m]).xs.length (ls[m]).cap (Q[m]).cap (ls[m]).xs ws.drew (by omega) rfl hnz ((hrs.later (B := 0) hws).later (B := 0) ((Below.refl _ _).drew)) ((hq2.later h0s).later ((Below.refl _ _).drew))
          have HGs : Hid (gI < ws.heap.size ∧ gL < ws.heap.size) := ⟨Nat.lt_of_lt_of_le hgI h0s.size, Nat.lt_of_lt_of_le hgL hws.size⟩
          clear hxs hqa hxL hxI hrs hnz hq2 h0s hws
          generalize (ls[m]).a = pa at *
          generalize (ls[m]).cap = pc at *
          generalize (Q[m]).a = qa at *
          generalize (Q[m]).cap = qc at *
          generalize (ls[m]).xs = qx at *
          have hs9 : ws.drew.cell? ⟨gI, m, none⟩ = some (.slice qa (qx.length + 3) qc) ∧ ws.drew.cell? ⟨gL, oL + m, none⟩ = some (.slice pa qx.length pc) := ⟨i0c, g0c⟩
          have hk1 : (m : Int) < (k : Int) := by omega
          go_wp2_with fail
          go_region_held3 (fun V : World => V.cell? ⟨gI, m, none⟩ = some (.slice qa (qx.length + 3) qc) ∧ V.cell? ⟨gL, oL + m, none⟩ = some (.slice pa qx.length pc)) (first | exact hs9 | exact hs10)
            ((go_at_call 19; (with_reducible refine Calls.mono HKp.out ?_); rintro e w7 ⟨rfl, hb7⟩; have hb7' : Below ws.heap.size ws w7 := (Below.refl ws.heap.size ws).drew.trans hb7; have HB7 := hid hb7'; have hs10 : w7.cell? ⟨gI, m, none⟩ = some (.slice qa (qx.length + 3) qc) ∧ w7.cell? ⟨gL, oL + m, none⟩ = some (.slice pa qx.length pc) := ⟨(hb7'.cell (p := ⟨gI, m, none⟩) HGs.out.1).trans i0c, (hb7'.cell (p := ⟨gL, oL + m, none⟩) HGs.out.2).trans g0c⟩))
          all_goals (
            have HS7 : Hid (Below w6.heap.size w6 w7) := ybt' HS.out HB7.out
            clear hs9 hs10 hb7 hb7' i0c g0c HKp
            go_wp2_with fail
            first | exact ⟨⟨m + 1, by omega, by go_num, HS7⟩, by simp [intOf]; omega⟩ | (go_roundw; (case rel => exact ⟨m + 1, by omega, by go_num, HS7⟩); (case measure => simp [intOf]; omega)))
        · obtain rfl : m = k := by omega
          have hkm : ¬ (m : Int) < (m : Int) := by omega
          have H2s := hid (ybt' H26.out HS.out)
          have H0s := hid (ybt' H06.out HS.out)
          have Hws := hid (ybt' Hw6.out HS.out)
          have HOa : Hid (∀ g, (Value.slice aa Ma.length ca).ownBlock = some g → w0.heap.size ≤ g ∧ g < w2.heap.size) := fun g e => HVa.out.1.lt g e
          have HAp := hid (eapartN_any (.slice aa Ma.length ca) (Value.slice aa Ma.length ca).ownBlock ab Ma.length cb Ma au m cu Q ws
            ((Ovr.of HVa.out.1).later H2s.out) (HVb.out.1.later (ybt' H36.out HS.out)) rfl (by have := HMl.out; omega) HVb.out.2.1 (fun g e q => by have := HOa.out g q; have := HVb.out.2.2 g e; have := HSz.out; omega)
            (HR.out.2.1.later H0s.out) (fun g e q => by have := HOa.out g q; have := HR2.out.1 g e; omega) HKl.out (by omega)
            (fun q hq => ⟨by have q1 := (HR2.out.2 q hq).1; rw [smC_append] at q1; exact q1.front.later H0s.out, HQb.out q hq, (HR2.out.2 q hq).2.1, fun g e q2 => by have := HOa.out g q2; have := (HR2.out.2 q hq).2.2 g e; omega⟩))
          go_wp2_with fail
          refine Calls.mono HAp.out ?_
          rintro e w8 ⟨rfl, hg8⟩
          have HEnd : Hid (Below w.heap.size w w8) := Hws.out.trans (gby_below hg8 Hws.out.size (fun g q => by have := HOa.out g q; have := HSz.out; omega))
          clear hg8 HAp
          go_wp2_with fail
          go_ret
          exact ⟨rfl, HEnd.out⟩
theorem cleanMerge_in (a : Option Addr) (n cap : Nat) (ls : List LsI) (w : World) (h : (a = none → n = 0 ∧ cap = 0) ∧ n ≤ cap ∧ cap ≤ maxLen ∧ ls.length = n ∧ RdL w a ls) (hb : ∀ p ∈ ls, p.xs.length ≤ 1048576) :
    Calls Try.prog 4 #[.slice a n cap] w fun e w' => e = .returned (.bool true) ∧ Below w.heap.size w w' := cleanMerge_go a n cap ls w h.2.2.2.1 h.2.2.2.2 hb
end Go.Proofs.Ytmigdomlakflfaa

