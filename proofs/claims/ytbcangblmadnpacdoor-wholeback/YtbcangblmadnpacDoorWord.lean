/- nat.divideByWord divides a number of the call's own by one word, in place, and tells the rest: whatever the words, the divisor not being 0. -/
import Derived.Test.YtbcangblmadnpacDoorProd
import Derived.Test.YtbcangblmadnpacDoorOver
namespace Go.Proofs.YtbcangblmadnpacDoor
open Go.RowKit
set_option linter.unusedVariables false

theorem segTo_cons (ys : List Int) : ∀ m k, segTo ys k (m + 1) = ys[k]?.getD 0 + segTo ys (k + 1) m * 4294967296
  | 0, k => by simp [segTo]
  | m + 1, k => by
    have ih := segTo_cons ys m k
    rw [segTo_succ ys k (m + 1), ih, segTo_succ ys (k + 1) m, pw_succ, Int.add_mul, show k + (m + 1) = k + 1 + m by omega, Int.mul_assoc]
    omega
theorem segTo_zero (ys : List Int) (k : Nat) : segTo ys 0 k = valTo ys k := by
  have := valTo_seg ys 0 k
  simp [valTo] at this
  exact this.symm

theorem div_word (x r z t : Int) (hx : 1 ≤ x) (hr0 : 0 ≤ r) (hr : r < x) (hz : 0 ≤ z ∧ z ≤ 4294967295) (ht : t = z + r * 4294967296) : 0 ≤ t ∧ 0 ≤ t / x ∧ t / x ≤ 4294967295 ∧ 0 ≤ t % x ∧ t % x < x := by
  have h0 : 0 ≤ t := by omega
  refine ⟨h0, Int.ediv_nonneg h0 (by omega), ?_, Int.emod_nonneg _ (by omega), Int.emod_lt_of_pos _ (by omega)⟩
  have : t / x < 4294967296 := Int.ediv_lt_of_lt_mul (by omega) (by omega)
  omega

theorem div_step (ys us : List Int) (n k : Nat) (x r t : Int) (hk : k < us.length) (hn : n = us.length) (ht : t = ys[k]?.getD 0 + r * 4294967296)
    (h : segTo ys (k + 1) (n - (k + 1)) = segTo us (k + 1) (n - (k + 1)) * x + r) :
    segTo ys k (n - k) = segTo (us.set k (t / x)) k (n - k) * x + t % x := by
  obtain ⟨m, hm⟩ : ∃ m, n - k = m + 1 := ⟨n - k - 1, by omega⟩
  have hm2 : n - (k + 1) = m := by omega
  rw [hm, segTo_cons, segTo_cons, List.getElem?_set, if_pos rfl, if_pos hk]
  rw [hm2] at h
  rw [h, segTo_congr (us.set k (t / x)) us (k + 1) m (fun j hj => by rw [List.getElem?_set, if_neg (by omega)])]
  have e := Int.mul_ediv_add_emod t x
  show _ = (t / x + _) * x + t % x
  rw [Int.add_mul, Int.add_mul, Int.mul_comm (t / x) x, Int.mul_assoc, Int.mul_comm x 4294967296, ← Int.mul_assoc]
  omega

/-- An own row of n words with room for cap. -/
def OwnC (w : World) (base g n cap : Nat) (ys : List Int) : Prop := w.ownsRow base 40 1 (.slice (some ⟨g, 0, none⟩) n cap) n (ys.map (Value.int .u32))
theorem OwnC.len {w : World} {base g n cap : Nat} {ys : List Int} (h : OwnC w base g n cap ys) : ys.length = n := by have := h.1; simpa using this
theorem OwnC.cell {w : World} {base g n cap : Nat} {ys : List Int} (h : OwnC w base g n cap ys) (k : Nat) (hk : k < n) : w.cell? ⟨g, k, none⟩ = some (.int .u32 (ys[k]?.getD 0)) := by
  have hl := h.len
  rw [World.ownsRow.cellAt h k (by omega), List.getElem?_map, List.getElem?_eq_getElem (by omega)]; rfl
theorem OwnC.free {w : World} {base g n cap : Nat} {ys : List Int} (h : OwnC w base g n cap ys) (k : Nat) : w.frozen? ⟨g, k, none⟩ = false := World.ownsRow.frozenAt h k
theorem OwnC.set {w : World} {base g n cap : Nat} {ys : List Int} (h : OwnC w base g n cap ys) (k : Nat) (z : Int) : OwnC (w.setCell ⟨g, k, none⟩ (.int .u32 z)) base g n cap (ys.set k z) ∧ w.grownBy (w.setCell ⟨g, k, none⟩ (.int .u32 z)) (some g) := by
  have := World.ownsRow.stored h k (.int .u32 z)
  rw [← List.map_set] at this
  exact this
theorem OwnC.cap {w : World} {base g n cap : Nat} {ys : List Int} (h : OwnC w base g n cap ys) : n ≤ cap ∧ cap ≤ maxLen := by
  rcases h.2 with ⟨h', _⟩ | ⟨g', cap', cur, h', hb, hg, h1, h2, h3, h4⟩
  · simp at h'
  · simp only [Value.slice.injEq, Option.some.injEq, Addr.mk.injEq, and_true, true_and] at h'
    obtain ⟨rfl, rfl⟩ := h'
    exact ⟨h1, h2⟩
theorem OwnC.take {w : World} {base g n cap : Nat} {ys : List Int} (h : OwnC w base g n cap ys) (k : Nat) (hk : k ≤ n) : OwnC w base g k cap (ys.take k) := by
  have hl := h.len
  have := owns_front (n := k) (k := n - k) (xs := (ys.take k).map (Value.int .u32)) (ys := (ys.drop k).map (Value.int .u32)) (w := w) (base := base) (e := 40) (g := g) (cap := cap)
    (by rw [← List.map_append, List.take_append_drop, show k + (n - k) = n by omega]; exact h) (by rw [List.length_map, List.length_take]; omega)
  exact this

set_option maxHeartbeats 3200000 in
set_option maxRecDepth 100000 in
theorem divideByWord_any (base g n cap : Nat) (ys : List Int) (x : Int) (w : World) (ho : OwnC w base g n cap ys) (hwy : Wd ys) (hn : n ≤ 1099511627776) (hx : 1 ≤ x ∧ x ≤ 4294967295) :
    Calls Tryd.prog 65 #[.slice (some ⟨g, 0, none⟩) n cap, .int .u32 x] w fun e w' => ∃ (r : Int) (us : List Int), e = .returned (.int .u32 r) ∧ 0 ≤ r ∧ r < x ∧ OwnC w' base g n cap us ∧ Wd us ∧ val ys = val us * x + r ∧ w.grownBy w' (some g) := by
  have hx1 := hx.1
  have hx2 := hx.2
  have hlen := ho.len
  have HLN := hid hlen
  clear hx hlen
  go_enter Tryd.func65, Tryd.ntmps65
  go_wp2_with fail
  go_loopw [5, 6] (fun c t wr => ∃ (k : Nat) (r : Int) (us : List Int), k ≤ n ∧ t = .int .i64 ((k : Int) - 1) ∧ c = .int .u64 r ∧ 0 ≤ r ∧ r < x ∧ Wd us ∧ Hid (segTo ys k (n - k) = segTo us k (n - k) * x + r) ∧
    Hid (∀ j, j < k → us[j]?.getD 0 = ys[j]?.getD 0) ∧ OwnC wr base g n cap us ∧ w.grownBy wr (some g)) (fun _ t _ => (intOf t + 1).toNat)
  case atStart => exact ⟨n, 0, ys, by omega, rfl, rfl, by omega, by omega, hwy, show _ = _ by rw [Nat.sub_self]; simp [segTo], fun _ _ => rfl, ho, World.grownBy.refl _ _⟩
  case round =>
    obtain ⟨k, r, us, hk, rfl, rfl, r0, r1, hwu, HV, HK, hou, hg⟩ := hrel
    rcases k with _ | k
    · have HV' : Hid (val ys = val us * x + r) := by
        show _ = _
        have e := HV.out
        rw [segTo_zero, segTo_zero, valTo_stable ys _ (by have := HLN.out; omega), valTo_stable us _ (by have := hou.len; omega)] at e
        exact e
      clear HV
      go_wp2
      go_ret
      exact ⟨r, us, rfl, r0, r1, hou, hwu, HV'.out, hg⟩
    · have ek : (((k + 1 : Nat) : Int) - 1) = (k : Int) := by omega
      rw [ek]
      clear ek
      have y1 := hou.cell k (by omega)
      have f1 := hou.free k
      have bu := hwu.at k
      have hlu := hou.len
      obtain ⟨t, ht⟩ : ∃ t, t = us[k]?.getD 0 + r * 4294967296 := ⟨_, rfl⟩
      have hor : bits BinOp.or IntKind.u64 (r * 4294967296) (us[k]?.getD 0) = t := by rw [or_join r _ r0 (by omega) bu.1 bu.2, ht]
      obtain ⟨t0, q0, q1, m0, m1⟩ := div_word x r (us[k]?.getD 0) t hx1 r0 r1 bu ht
      have t2 : t ≤ 18446744073709551615 := by omega
      have HV' := hid (div_step ys us n k x r t (by omega) hlu.symm (by rw [ht, HK.out k (by omega)]) HV.out)
      have HK' : Hid (∀ j, j < k → (us.set k (t / x))[j]?.getD 0 = ys[j]?.getD 0) := fun j hj => by
        rw [List.getElem?_set, if_neg (by omega)]; exact HK.out j (by omega)
      have HO' := hid (hou.set k (t / x)).1
      have HG' := hid (grown_trans hg (hou.set k (t / x)).2)
      clear hlu hou hg HV HK ht
      go_wp2
      go_roundw
      case rel => exact ⟨k, t % x, us.set k (t / x), by omega, rfl, rfl, m0, m1, hwu.set k ⟨q0, q1⟩, HV', HK', HO'.out, HG'.out⟩
      case measure => simp [intOf]
end Go.Proofs.YtbcangblmadnpacDoor
