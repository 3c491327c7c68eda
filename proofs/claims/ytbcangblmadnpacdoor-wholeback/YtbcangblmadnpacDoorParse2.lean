/- nat.timesPiece, nat.join: the number of digits, piece by piece, in new memory. -/
import Derived.Test.YtbcangblmadnpacDoorParse
namespace Go.Proofs.YtbcangblmadnpacDoor
open Go.RowKit
set_option linter.unusedVariables false

theorem times_step (ys us : List Int) (k : Nat) (x c t : Int) (hk : k < us.length) (ht : c + ys[k]?.getD 0 * 1000000000 = t)
    (h : valTo us k + c * 4294967296 ^ k = valTo ys k * 1000000000 + x) :
    valTo (us.set k (t % 4294967296)) (k + 1) + t / 4294967296 * 4294967296 ^ (k + 1) = valTo ys (k + 1) * 1000000000 + x := by
  rw [valTo_set us k _ hk, valTo_succ, pw_succ]
  have e := carry_step (4294967296 ^ k) (t % 4294967296) (t / 4294967296) t (by omega)
  have e2 : t * 4294967296 ^ k = c * 4294967296 ^ k + ys[k]?.getD 0 * 4294967296 ^ k * 1000000000 := by
    rw [← ht, Int.add_mul, Int.mul_assoc, Int.mul_comm 1000000000, ← Int.mul_assoc]
  omega
theorem val_snoc (us : List Int) (z : Int) : val (us ++ [z]) = val us + z * 4294967296 ^ us.length := by
  unfold val
  rw [List.length_append, List.length_singleton, valTo_succ, valTo_congr (us ++ [z]) us us.length (fun j hj => by rw [List.getElem?_append_left hj])]
  simp

set_option maxHeartbeats 3200000 in
set_option maxRecDepth 100000 in
theorem timesPiece_any (base n : Nat) (v : Value) (ys : List Int) (x : Int) (w : World) (ho : w.ownsRow base 40 1 v n (ys.map (Value.int .u32))) (hwy : Wd ys) (hn : n ≤ 1000000) (hx : 0 ≤ x ∧ x ≤ 4294967295) (hbase : base ≤ w.heap.size) :
    Calls Tryd.prog 73 #[v, .int .u32 x] w fun e w' => ∃ (v' : Value) (zs : List Int), e = .returned v' ∧ w'.ownsRow base 40 1 v' zs.length (zs.map (Value.int .u32)) ∧ Wd zs ∧ zs.length ≤ n + 1 ∧ val zs = val ys * 1000000000 + x ∧ Below base w w' := by
  obtain ⟨i0, hi, hz0, hz1, hz2⟩ := info_parts Tryd.infoW
  have hx1 := hx.1
  have hx2 := hx.2
  rcases ho.2 with ⟨rfl, rfl⟩ | ⟨g, cap, cur, rfl, hrest⟩
  · have hy : ys = [] := List.eq_nil_of_length_eq_zero (by have := ho.1; simpa using this)
    subst hy
    clear ho
    by_cases h0 : x = 0
    · subst h0
      go_enter Tryd.func73, Tryd.ntmps73
      go_wp2
      refine wp_loop_rounds 1 ?_
      rw [rounds_succ]
      go_wp2
      go_ret
      exact ⟨_, [], rfl, World.ownsRow_nil _ _ _ _, Wd.nil, by simp, by simp [val, valTo], Below.refl _ _⟩
    · have hne : (x != 0) = true := by simp [h0]
      clear h0
      go_enter Tryd.func73, Tryd.ntmps73
      go_wp2_with fail
      refine wp_loop_rounds 1 ?_
      rw [rounds_succ]
      go_wp2_with (at_builtin; refine wpList_append_own _ rfl _ _ 22 rfl base 40 i0 (.int .u32 0) 1 4 Tryd.underlying22 hi hz0 hz1 hz2 rfl (by decide) _ _ _ rfl (World.ownsRow_nil _ _ _ _) ⟨w.heap.size, 0, none⟩ 1 1 [.int .u32 x] rfl rfl (cell_one_new _ _ _) (by simp [Value.oneCell']) (by unfold maxLen; omega) (by omega) (by simp; omega) ?_)
      intro v3 w3 op3 hg3 _
      have hb3 : Below base w w3 := ((Below.refl base w).alloc (by omega) _).grown hg3 (by simp; omega) (fun g hg => by simp [Value.ownBlock] at hg)
      have HP : Hid (w3.ownsRow base 40 1 v3 [x].length ([x].map (Value.int .u32))) := op3
      clear op3 hg3
      go_wp2
      go_ret
      exact ⟨v3, [x], rfl, HP.out, Wd.one hx, by simp, by rw [val_one, val_nil]; omega, hb3⟩
  · have ho' : OwnC w base g n cap ys := ho
    have hlen := ho'.len
    have hgl := World.ownsRow.lt ho g rfl
    have hcap := ho'.cap
    have hcp1 := hcap.1
    have hcp2 : cap ≤ 9223372036854775807 := by have := hcap.2; unfold maxLen at this; omega
    have HLN := hid hlen
    clear hlen hrest ho hx hcap
    go_enter Tryd.func73, Tryd.ntmps73
    go_wp2_with fail
    go_loopw [5, 12] (fun c t wr => ∃ (k : Nat) (r : Int) (us : List Int), k ≤ n ∧ t = .int .i64 k ∧ c = .int .u64 r ∧ 0 ≤ r ∧ r ≤ 4294967295 ∧ Wd us ∧ Hid (valTo us k + r * 4294967296 ^ k = valTo ys k * 1000000000 + x) ∧
      Hid (∀ j, k ≤ j → us[j]?.getD 0 = ys[j]?.getD 0) ∧ OwnC wr base g n cap us ∧ Below base w wr) (fun _ t _ => n - (intOf t).toNat)
    case atStart => exact ⟨0, x, ys, by omega, rfl, by go_num, by omega, by omega, hwy, show _ = _ by simp [valTo], fun _ _ => rfl, ho', Below.refl _ _⟩
    case round =>
      obtain ⟨k, r, us, hk, rfl, rfl, r0, r1, hwu, HV, HK, hou, hb⟩ := hrel
      by_cases hlt : k < n
      · have y1 := hou.cell k hlt
        have f1 := hou.free k
        have bu := hwu.at k
        have hlu := hou.len
        obtain ⟨t, ht⟩ : ∃ t, t = r + us[k]?.getD 0 * 1000000000 := ⟨_, rfl⟩
        have HT := hid ht
        have HV' := hid (times_step ys us k x r t (by omega) (by rw [ht, HK.out k (by omega)]) HV.out)
        have HK' : Hid (∀ j, k + 1 ≤ j → (us.set k (t % 4294967296))[j]?.getD 0 = ys[j]?.getD 0) := fun j hj => by
          rw [List.getElem?_set, if_neg (by omega)]
          exact HK.out j (by omega)
        have HO' := hid (hou.set k (t % 4294967296)).1
        have HB' := hid (hb.setCell (p := ⟨g, k, none⟩) hgl.1 (.int .u32 (t % 4294967296)))
        have ht0 : 0 ≤ t ∧ t ≤ 18446744073709551615 := by omega
        clear hlu hou hb HV HK ht
        go_wp2
        go_roundw
        case rel => rw [← HT.out]; exact ⟨k + 1, t / 4294967296, us.set k (t % 4294967296), by omega, by go_num, by go_num, by have := HT.out; omega, by have := HT.out; omega, hwu.set _ (by omega), HV', HK', HO'.out, HB'.out⟩
        case measure => simp [intOf]; omega
      · have hkm : k = n := by omega
        subst hkm
        have HV' : Hid (val us + r * 4294967296 ^ us.length = val ys * 1000000000 + x) := by
          show _ = _
          have e := HV.out
          rw [valTo_stable us k (by have := hou.len; omega), valTo_stable ys k (by have := HLN.out; omega)] at e
          rw [hou.len]
          exact e
        clear HV
        by_cases h0 : r = 0
        · subst h0
          have HE : Hid (val us = val ys * 1000000000 + x) := by show _ = _; have := HV'.out; omega
          have HO := hid (owns_len hou)
          have HU := hid hou.len
          clear hou HV'
          go_wp2_with fail
          go_ret
          exact ⟨_, us, rfl, HO.out, hwu, by have := HU.out; omega, HE.out, hb⟩
        · have hne : (r != 0) = true := by simp [h0]
          obtain ⟨R, hR⟩ : ∃ R, R = us.map (Value.int .u32) := ⟨_, rfl⟩
          have HM : Hid ((us ++ [r]).map (Value.int .u32) = R ++ [.int .u32 r]) := by show _ = _; rw [hR]; simp
          have hop : wr.ownsRow base 40 1 (.slice (some ⟨g, 0, none⟩) k cap) k R := by rw [hR]; exact hou
          have HU := hid hou.len
          have hbs := hb.size
          clear hR hou h0
          go_wp2_with (at_builtin; refine wpList_append_own _ rfl _ _ 22 rfl base 40 i0 (.int .u32 0) 1 4 Tryd.underlying22 hi hz0 hz1 hz2 rfl (by decide) _ _ _ rfl (hop.alloc _) ⟨wr.heap.size, 0, none⟩ 1 1 [.int .u32 r] rfl rfl (cell_one_new _ _ _) (by simp [Value.oneCell']) (by unfold maxLen; omega) (by omega) (by simp; omega) ?_)
          intro v3 w3 op3 hg3 _
          have hb3 : Below base w w3 := (hb.alloc (by omega) _).grown hg3 (by simp; omega) (fun g2 hg2 => by have := hop.lt g2 hg2; omega)
          have HPP : Hid (w3.ownsRow base 40 1 v3 (us ++ [r]).length ((us ++ [r]).map (Value.int .u32))) := by
            show World.ownsRow _ _ _ _ _ _ _
            rw [HM.out, List.length_append, List.length_singleton, HU.out]
            exact op3
          clear op3 hg3 hop
          go_wp2
          go_ret
          exact ⟨v3, us ++ [r], rfl, HPP.out, hwu.append (Wd.one ⟨r0, r1⟩), by rw [List.length_append, HU.out]; simp, by rw [val_snoc]; exact HV'.out, hb3⟩
end Go.Proofs.YtbcangblmadnpacDoor
