/- My texts on the way to PartsExact, one behind the other: contracts of the program and of the document's answers. -/
import Derived.Test.YtabkgpnckaaclaaGreatDoorL1
import Derived.Test.YtabkgpnckaaclaaGreatDoorL2
import Derived.Deep.RegionHeld3
import Derived.Deep.RegionLawGrows
import Derived.Shelf.Spec.TrailingZeros
import Derived.Deep.RegionLaw
import Derived.Deep.Cut
/- bits.Sub32, real.takeOff. -/
namespace Go.Proofs.YtabkgpnckaaclaaGreatDoor
open Go.RowKit
set_option linter.unusedVariables false

theorem top_bit {a : Nat} (h : a < 4294967296) : a / 2147483648 = (a.testBit 31).toNat := by
  rw [Nat.testBit_eq_decide_div_mod_eq]
  show a / 2147483648 = (decide (a / 2147483648 % 2 = 1)).toNat
  by_cases c : a / 2147483648 % 2 = 1
  · rw [decide_eq_true c]; show _ = 1; omega
  · rw [decide_eq_false c]; show _ = 0; omega
theorem bit_top {a : Nat} (h : a < 4294967296) : a.testBit 31 = decide (2147483648 ≤ a) := by
  rw [Nat.testBit_eq_decide_div_mod_eq]
  show decide (a / 2147483648 % 2 = 1) = _
  by_cases c : 2147483648 ≤ a
  · rw [decide_eq_true c, decide_eq_true (by omega)]
  · rw [decide_eq_false c, decide_eq_false (by omega)]

/-- What Sub32's last line tells. -/
theorem borrow_bit (x y d b : Nat) (hx : x < 4294967296) (hy : y < 4294967296) (hb : b ≤ 1) (hd : d = (x + 4294967296 + 4294967296 - y - b) % 4294967296) :
    (((4294967295 ^^^ x) &&& y) ||| ((4294967295 ^^^ (x ^^^ y)) &&& d)) / 2147483648 = (if x < y + b then 1 else 0) := by
  have d1 : d < 4294967296 := by omega
  have n1 : ∀ a : Nat, a < 4294967296 → 4294967295 ^^^ a < 4294967296 := fun a ha => Nat.xor_lt_two_pow (n := 32) (by omega) ha
  have x1 : x ^^^ y < 4294967296 := Nat.xor_lt_two_pow (n := 32) hx hy
  have a1 : ((4294967295 ^^^ x) &&& y) < 4294967296 := Nat.and_lt_two_pow (n := 32) _ hy
  have a2 : ((4294967295 ^^^ (x ^^^ y)) &&& d) < 4294967296 := Nat.and_lt_two_pow (n := 32) _ d1
  rw [top_bit (Nat.or_lt_two_pow (n := 32) a1 a2), Nat.testBit_or, Nat.testBit_and, Nat.testBit_and, Nat.testBit_xor, Nat.testBit_xor, Nat.testBit_xor, bit_top hx, bit_top hy, bit_top d1, show Nat.testBit 4294967295 31 = true from by decide]
  by_cases cx : 2147483648 ≤ x
  · rw [decide_eq_true cx]
    by_cases cy : 2147483648 ≤ y
    · rw [decide_eq_true cy]
      by_cases cd : 2147483648 ≤ d
      · rw [decide_eq_true cd, if_pos (by omega)]; rfl
      · rw [decide_eq_false cd, if_neg (by omega)]; rfl
    · rw [decide_eq_false cy, if_neg (by omega)]
      cases decide (2147483648 ≤ d) <;> rfl
  · rw [decide_eq_false cx]
    by_cases cy : 2147483648 ≤ y
    · rw [decide_eq_true cy, if_pos (by omega)]
      cases decide (2147483648 ≤ d) <;> rfl
    · rw [decide_eq_false cy]
      by_cases cd : 2147483648 ≤ d
      · rw [decide_eq_true cd, if_pos (by omega)]; rfl
      · rw [decide_eq_false cd, if_neg (by omega)]; rfl

theorem sub32_out (x y b : Int) (x0 : 0 ≤ x) (x1 : x ≤ 4294967295) (y0 : 0 ≤ y) (y1 : y ≤ 4294967295) (b0 : 0 ≤ b) (b1 : b ≤ 1) :
    bits BinOp.or IntKind.u32 (bits BinOp.and IntKind.u32 (bits BinOp.xor IntKind.u32 IntKind.u32.max x) y) (bits BinOp.and IntKind.u32 (bits BinOp.xor IntKind.u32 IntKind.u32.max (bits BinOp.xor IntKind.u32 x y)) ((x - y - b) % 4294967296)) / 2147483648 = (if x < y + b then 1 else 0) := by
  obtain ⟨X, rfl⟩ := Int.eq_ofNat_of_zero_le x0
  obtain ⟨Y, rfl⟩ := Int.eq_ofNat_of_zero_le y0
  obtain ⟨B, rfl⟩ := Int.eq_ofNat_of_zero_le b0
  have em : IntKind.u32.max = ((4294967295 : Nat) : Int) := by decide
  have ed : ((X : Int) - (Y : Int) - (B : Int)) % 4294967296 = (((X + 4294967296 + 4294967296 - Y - B) % 4294967296 : Nat) : Int) := by omega
  have hx : X < 4294967296 := by omega
  have hy : Y < 4294967296 := by omega
  have k := borrow_bit X Y _ B hx hy (by omega) rfl
  have hd : (X + 4294967296 + 4294967296 - Y - B) % 4294967296 < 4294967296 := Nat.mod_lt _ (by decide)
  rw [em, ed]
  generalize (X + 4294967296 + 4294967296 - Y - B) % 4294967296 = D at *
  have q1 : 4294967295 ^^^ X < 4294967296 := Nat.xor_lt_two_pow (n := 32) (by omega) hx
  have q2 : X ^^^ Y < 4294967296 := Nat.xor_lt_two_pow (n := 32) hx hy
  have q3 : 4294967295 ^^^ (X ^^^ Y) < 4294967296 := Nat.xor_lt_two_pow (n := 32) (by omega) q2
  have q4 : (4294967295 ^^^ X) &&& Y < 4294967296 := Nat.and_lt_two_pow (n := 32) _ hy
  have q5 : (4294967295 ^^^ (X ^^^ Y)) &&& D < 4294967296 := Nat.and_lt_two_pow (n := 32) _ hd
  rw [u32_xor_nat 4294967295 X (by omega) hx, u32_and_nat _ Y q1 hy, u32_xor_nat X Y hx hy, u32_xor_nat 4294967295 _ (by omega) q2, u32_and_nat _ D q3 hd, u32_or_nat _ _ q4 q5]
  generalize ((4294967295 ^^^ X) &&& Y) ||| ((4294967295 ^^^ (X ^^^ Y)) &&& D) = R at *
  by_cases c : X < Y + B
  · rw [if_pos c] at k
    rw [if_pos (by omega)]
    omega
  · rw [if_neg c] at k
    rw [if_neg (by omega)]
    omega

set_option maxHeartbeats 800000 in
set_option maxRecDepth 100000 in
theorem sub32_any (x y b : Int) (w : World) (x0 : 0 ≤ x) (x1 : x ≤ 4294967295) (y0 : 0 ≤ y) (y1 : y ≤ 4294967295) (b0 : 0 ≤ b) (b1 : b ≤ 1) :
    Calls Tryz.prog 128 #[.int .u32 x, .int .u32 y, .int .u32 b] w fun e w' => e = .returned (.tuple #[.int .u32 ((x - y - b) % 4294967296), .int .u32 (if x < y + b then 1 else 0)]) ∧ w' = w := by
  have HO := hid (sub32_out x y b x0 x1 y0 y1 b0 b1)
  obtain ⟨o, ho⟩ : ∃ o : Int, (if x < y + b then 1 else 0) = o := ⟨_, rfl⟩
  rw [ho] at HO ⊢
  clear ho
  go_enter Tryz.func128, Tryz.ntmps128
  go_wp2_with fail
  all_goals
    go_returns
    exact ⟨congrArg (fun z => Ending.returned (.tuple #[.int .u32 ((x - y - b) % 4294967296), .int .u32 z])) HO.out, rfl⟩

theorem grown_drew {w W V : World} {r : Option Nat} (h : w.grownBy W r) (ho : V.os = W.os := by rfl) (ht : V.tape = W.tape := by rfl) (hp : V.output = W.output := by rfl) (hh : V.heap = W.heap := by rfl) : w.grownBy V r :=
  ⟨ho.trans h.os, ht.trans h.tape, hp.trans h.output, by rw [hh]; exact h.size, fun k hk hn => by rw [hh]; exact h.block k hk hn⟩
theorem grown_cell {w W : World} {g b j : Nat} (h : w.grownBy W (some g)) (hb : b < w.heap.size) (hne : b ≠ g) : W.cell? ⟨b, j, none⟩ = w.cell? ⟨b, j, none⟩ := by
  unfold World.cell?
  rw [h.block b hb (fun e => hne (Option.some.inj e))]
/-- One word taken off. -/
theorem off_step (xs ys us : List Int) (k : Nat) (c x y d o : Int) (hk : k < us.length) (hx : xs[k]?.getD 0 = x) (hy : ys[k]?.getD 0 = y) (hd : x - y - c = d - o * 4294967296) (h : valTo us k + valTo ys k = valTo xs k + c * 4294967296 ^ k) :
    valTo (us.set k d) (k + 1) + valTo ys (k + 1) = valTo xs (k + 1) + o * 4294967296 ^ (k + 1) := by
  rw [valTo_set us k _ hk, valTo_succ, valTo_succ, hx, hy, pw_succ]
  generalize (4294967296 : Int) ^ k = P at *
  have e : (x - y - c) * P = (d - o * 4294967296) * P := by rw [hd]
  rw [Int.sub_mul, Int.sub_mul, Int.sub_mul, Int.mul_assoc o, Int.mul_comm 4294967296 P] at e
  omega

set_option maxHeartbeats 1600000 in
set_option maxRecDepth 100000 in
theorem takeOff_any (base g n cap : Nat) (xs : List Int) (b : Option Addr) (cap' : Nat) (ys : List Int) (w : World) (ho : OwnC w base g n cap xs) (hwx : Wd xs) (hy : Reads w w.heap.size b n cap' ys) (hne : ∀ a, b = some a → a.block ≠ g) (hn : n ≤ 1048576) :
    Calls Tryz.prog 104 #[.slice (some ⟨g, 0, none⟩) n cap, .slice b n cap'] w fun e w' => ∃ (zs : List Int) (c : Int), e = .returned (.tuple #[]) ∧ OwnC w' base g n cap zs ∧ Wd zs ∧ val zs + val ys = val xs + c * 4294967296 ^ n ∧ 0 ≤ c ∧ c ≤ 1 ∧ w.grownBy w' (some g) := by
  have hcap := ho.cap
  have HLN := hid ho.len
  have HCY := hid hy.cells
  have HWY := hid hy.2.1
  have HLY := hid hy.1
  have hp := hy.2.2.2.1
  clear hy
  go_enter Tryz.func104, Tryz.ntmps104
  go_wp2_with fail
  go_loopw [4, 8] (fun cv z wr => ∃ (k : Nat) (c : Int) (us : List Int), k ≤ n ∧ z = .int .i64 k ∧ cv = .int .u32 c ∧ 0 ≤ c ∧ c ≤ 1 ∧ Wd us ∧ Hid (valTo us k + valTo ys k = valTo xs k + c * 4294967296 ^ k) ∧ Hid (∀ j, k ≤ j → us[j]?.getD 0 = xs[j]?.getD 0) ∧ OwnC wr base g n cap us ∧ w.grownBy wr (some g)) (fun _ z _ => n - (intOf z).toNat)
  case atStart => exact ⟨0, 0, xs, by omega, rfl, rfl, by omega, by omega, hwx, show _ = _ by simp [valTo], fun _ _ => rfl, ho, World.grownBy.refl _ _⟩
  case round =>
    obtain ⟨k, c, us, hk, rfl, rfl, c0, c1, hwu, HV, HK, hou, hg⟩ := hrel
    by_cases hlt : k < n
    · obtain ⟨b1, o1, rfl, l1, cy⟩ := HCY.out k hlt
      have hb1 : b1 ≠ g := hne _ rfl
      have y2 : wr.cell? ⟨b1, o1 + k, none⟩ = some (.int .u32 (ys[k]?.getD 0)) := (grown_cell hg l1 hb1).trans cy
      have y1 := hou.cell k hlt
      have f1 := hou.free k
      have bu := hwu.at k
      have by' := HWY.out.at k
      have hlu := hou.len
      have hxu : xs[k]?.getD 0 = us[k]?.getD 0 := (HK.out k (Nat.le_refl _)).symm
      have HST := hid (fun d o hd => off_step xs ys us k c _ _ d o (by omega) hxu rfl hd HV.out)
      have HKN : Hid (∀ d j, k + 1 ≤ j → (us.set k d)[j]?.getD 0 = xs[j]?.getD 0) := fun d j hj => by
        rw [List.getElem?_set, if_neg (by omega)]; exact HK.out j (by omega)
      have HOU := hid (fun d => hou.set k d)
      have HGR := hid hg
      have HWU := hid hwu
      generalize us[k]?.getD 0 = x at *
      generalize ys[k]?.getD 0 = y at *
      obtain ⟨o, hoo⟩ : ∃ o : Int, (if x < y + c then 1 else 0) = o := ⟨_, rfl⟩
      obtain ⟨d, hdd⟩ : ∃ d : Int, (x - y - c) % 4294967296 = d := ⟨_, rfl⟩
      have HS := hid (fun V => sub32_any x y c V bu.1 bu.2 by'.1 by'.2 c0 c1)
      rw [hoo, hdd] at HS
      have HDO : Hid (x - y - c = d - o * 4294967296 ∧ 0 ≤ o ∧ o ≤ 1 ∧ 0 ≤ d ∧ d ≤ 4294967295) := by
        by_cases cc : x < y + c
        · rw [if_pos cc] at hoo; refine ⟨?_, ?_, ?_, ?_, ?_⟩ <;> omega
        · rw [if_neg cc] at hoo; refine ⟨?_, ?_, ?_, ?_, ?_⟩ <;> omega
      clear hlu hou hg HV HK hxu hwu cy hoo hdd
      go_wp2_with fail
      go_region_with (go_at_call 128; with_reducible refine Calls.mono (HS.out _) ?_; rintro e w5 ⟨rfl, rfl⟩)
      all_goals
        go_wp2_with fail
        go_roundw
        case rel => exact ⟨k + 1, o, us.set k d, by omega, by go_num, rfl, HDO.out.2.1, HDO.out.2.2.1, HWU.out.set k ⟨HDO.out.2.2.2.1, HDO.out.2.2.2.2⟩, HST.out d o HDO.out.1, HKN.out d, (HOU.out d).1, grown_drew (grown_trans HGR.out (HOU.out d).2)⟩
        case measure => simp [intOf]; omega
    · have hkn : k = n := by omega
      subst hkn
      have HF : Hid (val us + val ys = val xs + c * 4294967296 ^ k) := by
        show _ = _
        have e := HV.out
        rw [valTo_stable us k (by have := hou.len; omega), valTo_stable ys k (by have := HLY.out; omega), valTo_stable xs k (by have := HLN.out; omega)] at e
        exact e
      clear HV
      go_wp2_with fail
      go_end0
      exact ⟨us, c, rfl, hou, hwu, HF.out, c0, c1, hg⟩

end Go.Proofs.YtabkgpnckaaclaaGreatDoor

/- Boxes of fractions, rows of the call's own and one box of a flag, in a bundle that is moved along. -/
namespace Go.Proofs.YtabkgpnckaaclaaGreatDoor
open Go.RowKit
set_option linter.unusedVariables false

theorem Box.same {w : World} {b t : Nat} {vs : Array Value} (h : Box w b t vs) {j : Nat} {v : Value} (hv : vs[j]? = some v) : w.setCell ⟨b, j, none⟩ v = w := by
  have e : (w.setCell ⟨b, j, none⟩ v).heap = w.heap := by
    have h' : w.heap[b]? = some (.cells vs t (0, 0)) := h
    have hs : vs.setIfInBounds j v = vs := by
      apply Array.ext_getElem?
      intro k
      rw [Array.getElem?_setIfInBounds]
      by_cases c : j = k
      · subst c
        obtain ⟨hk, _⟩ := Array.getElem?_eq_some_iff.1 hv
        rw [if_pos rfl, if_pos hk, hv]
      · rw [if_neg c]
    unfold World.setCell
    apply Array.ext_getElem?
    intro k
    simp only [Array.getElem?_modify]
    by_cases c : b = k
    · subst c
      rw [if_pos rfl, h']
      simp [hs]
    · rw [if_neg c]
  cases w
  simp only [World.setCell] at e ⊢
  rw [e]
theorem own_put1 {w : World} {base e n : Nat} {v : Value} {xs : List Value} (h : w.ownsRow base e 1 v n xs) (b : Nat) (hb : ∀ g, v.ownBlock = some g → g ≠ b) (j : Nat) (v0 : Value) : (w.setCell ⟨b, j, none⟩ v0).ownsRow base e 1 v n xs := by
  have hne : v.ownBlock = none ∨ v.ownBlock ≠ some b := by
    cases hv : v.ownBlock with
    | none => exact .inl rfl
    | some g => right; intro e; exact hb g hv (Option.some.inj e)
  exact World.ownsRow.kept h (grown_set w ⟨b, j, none⟩ v0) hne
/-- Boxes that hold fractions. -/
def Bxs3 (W : World) (l : List (Nat × Array Value)) : Prop := ∀ p ∈ l, Box W p.1 25 p.2
def Rws (W : World) (l : List (Nat × Value × List Int)) : Prop := ∀ p ∈ l, W.ownsRow p.1 88 1 p.2.1 p.2.2.length (p.2.2.map (Value.int .u32))
/-- What is known of a world: boxes of fractions, rows of the call's own, what was there. -/
structure St (w W : World) (l : List (Nat × Array Value)) (r : List (Nat × Value × List Int)) : Prop where
  box : Bxs3 W l
  row : Rws W r
  bel : Below w.heap.size w W
theorem St.later {w W W' : World} {l : List (Nat × Array Value)} {r : List (Nat × Value × List Int)} (h : St w W l r) (hb : Below W.heap.size W W') : St w W' l r :=
  ⟨fun p hp => (h.box p hp).later hb (h.box p hp).lt, fun p hp => owns_later (h.row p hp) hb, bt h.bel hb⟩
theorem St.more {w W : World} {l : List (Nat × Array Value)} {r : List (Nat × Value × List Int)} (h : St w W l r) {base : Nat} {v : Value} {zs : List Int} (o : W.ownsRow base 88 1 v zs.length (zs.map (Value.int .u32))) : St w W l ((base, v, zs) :: r) :=
  ⟨h.box, fun p hp => by
    cases hp with
    | head => exact o
    | tail _ hp => exact h.row p hp, h.bel⟩
theorem St.put {w W : World} {l : List (Nat × Array Value)} {r : List (Nat × Value × List Int)} (h : St w W l r) (n : Bool) (v u : Value) : St w (W.alloc (.cells #[.bool n, v, u] 25)) ((W.heap.size, #[.bool n, v, u]) :: l) r :=
  ⟨fun p hp => by
    cases hp with
    | head => exact Box.made W _ _
    | tail _ hp => exact (h.box p hp).later (alloc_later _ _) (h.box p hp).lt, (h.later (alloc_later _ _)).row, (h.later (alloc_later _ _)).bel⟩
theorem St.free {w W : World} {l : List (Nat × Array Value)} {r : List (Nat × Value × List Int)} (h : St w W l r) {g : Nat} {n : Bool} {v u : Value} (hm : (g, #[.bool n, v, u]) ∈ l) : W.frozen? ⟨g, 0, none⟩ = false ∧ W.frozen? ⟨g, 1, none⟩ = false ∧ W.frozen? ⟨g, 2, none⟩ = false := ⟨(h.box _ hm).free 0, (h.box _ hm).free 1, (h.box _ hm).free 2⟩
theorem St.same {w W : World} {l : List (Nat × Array Value)} {r : List (Nat × Value × List Int)} (h : St w W l r) {g : Nat} {n : Bool} {v u : Value} (hm : (g, #[.bool n, v, u]) ∈ l) : W.setCell ⟨g, 0, none⟩ (.bool n) = W ∧ W.setCell ⟨g, 1, none⟩ v = W ∧ W.setCell ⟨g, 2, none⟩ u = W := ⟨(h.box _ hm).same rfl, (h.box _ hm).same rfl, (h.box _ hm).same rfl⟩
theorem St.sl {w W : World} {l : List (Nat × Array Value)} {r : List (Nat × Value × List Int)} (h : St w W l r) {base : Nat} {v : Value} {zs : List Int} (wd : Wd zs) (hm : (base, v, zs) ∈ r) : Sl W v zs := Sl.own (h.row _ hm) wd
/-- A store into a box of another type. -/
theorem St.flag {w W : World} {l : List (Nat × Array Value)} {r : List (Nat × Value × List Int)} (h : St w W l r) {g t : Nat} {vs : Array Value} (b : Box W g t vs) (hg : w.heap.size ≤ g) (h1 : t ≠ 25) (h2 : t ≠ 88) (j : Nat) (v : Value) : St w (W.setCell ⟨g, j, none⟩ v) l r := by
  refine ⟨fun p hp => (h.box p hp).other _ _ (fun e => ?_), fun p hp => own_put1 (h.row p hp) g (own_ne_box (h.row p hp) b (Ne.symm h2)) _ _, h.bel.setCell (p := ⟨g, j, none⟩) hg _⟩
  · have e1 := h.box p hp
    rw [e] at e1
    have e2 : some (Obj.cells p.2 25 (0, 0)) = some (.cells vs t (0, 0)) := e1.symm.trans b
    injection e2 with e3
    injection e3 with _ e4 _
    exact h1 e4.symm
end Go.Proofs.YtabkgpnckaaclaaGreatDoor

/- (*real.division).take: the quotient's bits, one by one. -/
namespace Go.Proofs.YtabkgpnckaaclaaGreatDoor
open Go.RowKit
set_option linter.unusedVariables false

theorem Box.keptBy {W W' : World} {g b t : Nat} {vs : Array Value} (h : Box W b t vs) (hg : W.grownBy W' (some g)) (hne : b ≠ g) : Box W' b t vs := (hg.block b h.lt (fun e => hne (Option.some.inj e))).trans h
theorem OwnC.keptBy {W W' : World} {base g g' n cap : Nat} {ys : List Int} (h : OwnC W base g n cap ys) (hg : W.grownBy W' (some g')) (hne : g ≠ g') : OwnC W' base g n cap ys := World.ownsRow.kept h hg (.inr (fun e => hne (Option.some.inj e)))
theorem OwnC.laterB {W W' : World} {base g n cap : Nat} {ys : List Int} (h : OwnC W base g n cap ys) (hb : Below W.heap.size W W') : OwnC W' base g n cap ys := owns_later h hb
theorem readsC {W : World} {b g n cap : Nat} {ys : List Int} (h : OwnC W b g n cap ys) (hw : Wd ys) : Reads W W.heap.size (some ⟨g, 0, none⟩) n cap ys := by
  obtain ⟨a, cap, hv, hr⟩ := Reads.own h hw
  cases hv
  exact hr
theorem box_two {W : World} {b t : Nat} {v0 v1 v2 : Value} (h : Box W b t #[v0, v1, v2]) : W.cell? ⟨b, 0, none⟩ = some v0 ∧ W.cell? ⟨b, 1, none⟩ = some v1 := ⟨h.cell 0, h.cell 1⟩
/-- What is doubled has the room. -/
theorem dbl_room {zs ys : List Int} {c : Int} {n : Nat} (hz : Wd zs) (hl : zs.length = n) (c0 : 0 ≤ c) (h : val zs + c * 4294967296 ^ n = 2 * val ys) (hr : 2 * val ys < 4294967296 ^ n) : val zs = 2 * val ys := by
  have z0 := val_nonneg hz
  have p := pw_pos n
  by_cases hc : c = 0
  · rw [hc, Int.zero_mul] at h; omega
  · exfalso
    have : 1 * (4294967296 : Int) ^ n ≤ c * 4294967296 ^ n := Int.mul_le_mul_of_nonneg_right (by omega) (Int.le_of_lt p)
    omega
theorem off_room {zs ys xs : List Int} {c : Int} {n : Nat} (hz : Wd zs) (hl : zs.length = n) (c0 : 0 ≤ c) (h : val zs + val ys = val xs + c * 4294967296 ^ n) (hr : val ys ≤ val xs) : val zs = val xs - val ys := by
  have z1 := val_lt hz
  rw [hl] at z1
  have p := pw_pos n
  by_cases hc : c = 0
  · rw [hc, Int.zero_mul] at h; omega
  · exfalso
    have : 1 * (4294967296 : Int) ^ n ≤ c * 4294967296 ^ n := Int.mul_le_mul_of_nonneg_right (by omega) (Int.le_of_lt p)
    omega
/-- One bit more. -/
theorem bit_step {r0 q r b B : Int} {k : Nat} (h : r0 * 2 ^ k = q * (2 * B) + r) (b' r' : Int) (hr : r = b * B + b') (hr' : r' = 2 * b') : r0 * 2 ^ (k + 1) = (q * 2 + b) * (2 * B) + r' := by
  rw [Int.pow_succ, ← Int.mul_assoc, h, hr, hr']
  grind

/-- What is known of a world on the way: both rows, the division's memory, what was there. -/
def TK (w : World) (base base' g1 g2 n cap1 cap2 pd : Nat) (pw : Int) (Rk B : List Int) (V : World) : Prop :=
  OwnC V base g1 n cap1 Rk ∧ OwnC V base' g2 n cap2 B ∧ Box V pd 96 #[.slice (some ⟨g1, 0, none⟩) n cap1, .slice (some ⟨g2, 0, none⟩) n cap2, .int .i64 pw] ∧ w.grownBy V (some g1)
theorem TK.later {w : World} {base base' g1 g2 n cap1 cap2 pd : Nat} {pw : Int} {Rk B : List Int} {V V' : World} (h : TK w base base' g1 g2 n cap1 cap2 pd pw Rk B V) (hb : Below V.heap.size V V') : TK w base base' g1 g2 n cap1 cap2 pd pw Rk B V' :=
  ⟨h.1.laterB hb, h.2.1.laterB hb, h.2.2.1.later hb h.2.2.1.lt, grown_trans h.2.2.2 (grown_of_below hb _)⟩
theorem TK.turn {w : World} {base base' g1 g2 n cap1 cap2 pd : Nat} {pw : Int} {Rk B zs : List Int} {V V' : World} (h : TK w base base' g1 g2 n cap1 cap2 pd pw Rk B V) (hz : OwnC V' base g1 n cap1 zs) (hg : V.grownBy V' (some g1)) (h1 : g2 ≠ g1) (h2 : pd ≠ g1) : TK w base base' g1 g2 n cap1 cap2 pd pw zs B V' :=
  ⟨hz, h.2.1.keptBy hg h1, h.2.2.1.keptBy hg h2, grown_trans h.2.2.2 hg⟩

set_option maxHeartbeats 1600000 in
set_option maxRecDepth 100000 in
theorem take_any (base base' pd g1 g2 n cap1 cap2 c : Nat) (pw : Int) (R B : List Int) (w : World) (hbx : Box w pd 96 #[.slice (some ⟨g1, 0, none⟩) n cap1, .slice (some ⟨g2, 0, none⟩) n cap2, .int .i64 pw])
    (h1 : OwnC w base g1 n cap1 R) (h2 : OwnC w base' g2 n cap2 B) (w1 : Wd R) (w2 : Wd B) (hne : g1 ≠ g2) (hn : n ≤ 1048576) (hc : c ≤ 60) (hR : val R < 2 * val B) (hB : 2 * val B < 4294967296 ^ n) :
    Calls Tryz.prog 73 #[.pointer (some ⟨pd, 0, none⟩), .int .i64 c] w fun e w' => ∃ (q : Int) (R' : List Int), e = .returned (.int .u64 q) ∧ 0 ≤ q ∧ OwnC w' base g1 n cap1 R' ∧ Wd R' ∧ val R * 2 ^ c = q * (2 * val B) + val R' ∧ val R' < 2 * val B ∧ w.grownBy w' (some g1) := by
  have hpd : g1 ≠ pd := own_ne_box h1 hbx (by decide) g1 rfl
  have hpd2 : g2 ≠ pd := own_ne_box h2 hbx (by decide) g2 rfl
  have HW2 := hid w2
  have HRB := hid (And.intro hR hB)
  have HL := hid h1.len
  have b0 := val_nonneg w2
  have hcm : (2 : Int) ^ c ≤ 2 ^ 60 := two_le hc
  have HCM := hid hcm
  clear hcm
  go_enter Tryz.func73, Tryz.ntmps73
  go_wp2_with fail
  go_loopw [4, 6] (fun qv z wr => ∃ (k : Nat) (q : Int) (Rk : List Int), k ≤ c ∧ z = .int .i64 k ∧ qv = .int .u64 q ∧ 0 ≤ q ∧ Wd Rk ∧ Hid (val R * 2 ^ k = q * (2 * val B) + val Rk) ∧ Hid (val Rk < 2 * val B) ∧ Hid (q < 2 ^ k) ∧ Hid (TK w base base' g1 g2 n cap1 cap2 pd pw Rk B wr)) (fun _ z _ => c - (intOf z).toNat)
  case atStart => exact ⟨0, 0, R, by omega, rfl, rfl, by omega, w1, show _ = _ by simp, hR, show _ < _ by simp, h1, h2, hbx, World.grownBy.refl _ _⟩
  case round =>
    obtain ⟨k, q, Rk, hk, rfl, rfl, q0, hwr, HV, HL2, HQ, HS⟩ := hrel
    by_cases hlt : k < c
    · have HWR := hid hwr
      have hq60 : q < 1152921504606846976 := by
        have e1 := HQ.out
        have e2 : (2 : Int) ^ k ≤ 2 ^ 60 := two_le (by omega)
        have e3 : (2 : Int) ^ 60 = 1152921504606846976 := by decide
        omega
      have HQ2 : Hid (q * 2 < 2 ^ (k + 1) ∧ q * 2 + 1 < 2 ^ (k + 1)) := by
        have e1 := HQ.out
        rw [Int.pow_succ]
        constructor <;> omega
      have HBX : Hid (∀ Rj V, TK w base base' g1 g2 n cap1 cap2 pd pw Rj B V → V.cell? ⟨pd, 0, none⟩ = some (.slice (some ⟨g1, 0, none⟩) n cap1) ∧ V.cell? ⟨pd, 1, none⟩ = some (.slice (some ⟨g2, 0, none⟩) n cap2)) := fun Rj V hv => box_two hv.2.2.1
      have hs0 := HBX.out _ _ (HS.out.later (Below.drew (Below.refl _ wr)))
      have HBR := hid (Below.drew (Below.refl wr.heap.size wr))
      obtain ⟨cc, hcc⟩ : ∃ cc, cmpI (val Rk) (val B) = cc := ⟨_, rfl⟩
      have H1 : Hid (∀ ww, Below wr.heap.size wr ww → Calls Tryz.prog 74 #[.slice (some ⟨g1, 0, none⟩) n cap1, .slice (some ⟨g2, 0, none⟩) n cap2] ww fun e w' => e = .returned (.int .i64 cc) ∧ (w'.cell? ⟨pd, 0, none⟩ = some (.slice (some ⟨g1, 0, none⟩) n cap1) ∧ w'.cell? ⟨pd, 1, none⟩ = some (.slice (some ⟨g2, 0, none⟩) n cap2)) ∧ Hid (TK w base base' g1 g2 n cap1 cap2 pd pw Rk B w')) := fun ww hv => by
        refine Calls.mono (rcompare_any _ n _ Rk _ _ B ww (readsC (HS.out.1.laterB hv) HWR.out) (readsC (HS.out.2.1.laterB hv) HW2.out) (by omega)) ?_
        rintro e w' ⟨rfl, h⟩
        exact ⟨by rw [hcc], HBX.out _ _ (HS.out.later (bt hv h)), HS.out.later (bt hv h)⟩
      have HD : Hid (∀ Rj V, TK w base base' g1 g2 n cap1 cap2 pd pw Rj B V → Wd Rj → val Rj < val B → Calls Tryz.prog 103 #[.slice (some ⟨g1, 0, none⟩) n cap1] V fun e w' => ∃ zs : List Int, e = .returned (.tuple #[]) ∧ Hid (TK w base base' g1 g2 n cap1 cap2 pd pw zs B w' ∧ val zs = 2 * val Rj) ∧ Wd zs) := fun Rj V hv hw hj => by
        refine Calls.mono (rdouble_any base g1 n cap1 Rj V hv.1 hw (by omega)) ?_
        rintro e w' ⟨zs, c, rfl, z1, z2, z3, z4, z5, z6⟩
        have e1 := HRB.out.2
        exact ⟨zs, rfl, ⟨hv.turn z1 z6 (Ne.symm hne) (Ne.symm hpd), dbl_room z2 z1.len z4 z3 (by omega)⟩, z2⟩
      have HCC := hid hcc
      have HST := hid (fun b b' r' => bit_step (b := b) HV.out b' r')
      clear hcc hwr HV HQ
      by_cases hge : val B ≤ val Rk
      · have hc1 : 0 ≤ cc := by have e := HCC.out; unfold cmpI at e; rw [if_neg (by omega)] at e; split at e <;> omega
        have HGE := hid hge
        have HT : Hid (∀ V, TK w base base' g1 g2 n cap1 cap2 pd pw Rk B V → Calls Tryz.prog 104 #[.slice (some ⟨g1, 0, none⟩) n cap1, .slice (some ⟨g2, 0, none⟩) n cap2] V fun e w' => ∃ zs : List Int, e = .returned (.tuple #[]) ∧ Hid (TK w base base' g1 g2 n cap1 cap2 pd pw zs B w' ∧ val zs = val Rk - val B ∧ Wd zs) ∧ (w'.cell? ⟨pd, 0, none⟩ = some (.slice (some ⟨g1, 0, none⟩) n cap1) ∧ w'.cell? ⟨pd, 1, none⟩ = some (.slice (some ⟨g2, 0, none⟩) n cap2))) := fun V hv => by
          refine Calls.mono (takeOff_any base g1 n cap1 Rk _ cap2 B V hv.1 HWR.out (readsC hv.2.1 HW2.out) (fun a ha => by cases ha; exact Ne.symm hne) (by omega)) ?_
          rintro e w' ⟨zs, c, rfl, z1, z2, z3, z4, z5, z6⟩
          have t := hv.turn z1 z6 (Ne.symm hne) (Ne.symm hpd)
          exact ⟨zs, rfl, ⟨t, off_room z2 z1.len z4 z3 HGE.out, z2⟩, HBX.out _ _ t⟩
        clear hge
        go_wp2_with fail
        go_region_held3 (fun V : World => V.cell? ⟨pd, 0, none⟩ = some (.slice (some ⟨g1, 0, none⟩) n cap1) ∧ V.cell? ⟨pd, 1, none⟩ = some (.slice (some ⟨g2, 0, none⟩) n cap2)) (first | exact hs1 | exact hs0) (first | (go_at_call 74; with_reducible refine Calls.mono (H1.out _ HBR.out) ?_; rintro e w4 ⟨rfl, hs1, HS4⟩))
        all_goals
          have hs2 := HBX.out _ _ (HS4.out.later (Below.drew (Below.refl _ w4)))
          have HS5 := hid (HS4.out.later (Below.drew (Below.refl _ w4)))
          clear H1 hs0 hs1
          go_wp2_with fail
          go_region_held3 (fun V : World => V.cell? ⟨pd, 0, none⟩ = some (.slice (some ⟨g1, 0, none⟩) n cap1) ∧ V.cell? ⟨pd, 1, none⟩ = some (.slice (some ⟨g2, 0, none⟩) n cap2)) (first | exact hs3 | exact hs2) (first | (go_at_call 104; with_reducible refine Calls.mono (HT.out _ HS5.out) ?_; rintro e w5 ⟨zs, rfl, HS6, hs3⟩))
          all_goals
            have HD5 := hid (HD.out zs w5 HS6.out.1 HS6.out.2.2 (by have e1 := HS6.out.2.1; have e2 := HL2.out; omega))
            have r0 := hs3.1
            clear HT hs2 HD
            go_wp2_with fail
            refine Calls.mono HD5.out ?_
            rintro e w6 ⟨us, rfl, HS7, wus⟩
            clear HD5 r0 hs3
            go_wp2_with fail
            go_roundw
            case rel => exact ⟨k + 1, q * 2 + 1, us, by omega, by go_num, by go_num, by omega, wus, HST.out 1 _ _ (by rw [HS6.out.2.1]; omega) HS7.out.2, show _ < _ by have e1 := HS7.out.2; have e2 := HS6.out.2.1; have e3 := HL2.out; omega, HQ2.out.2, HS7.out.1⟩
            case measure => simp [intOf]; omega
      · have hc1 : ¬ 0 ≤ cc := by have e := HCC.out; unfold cmpI at e; rw [if_pos (by omega)] at e; omega
        have HGE := hid hge
        clear hge
        go_wp2_with fail
        go_region_held3 (fun V : World => V.cell? ⟨pd, 0, none⟩ = some (.slice (some ⟨g1, 0, none⟩) n cap1) ∧ V.cell? ⟨pd, 1, none⟩ = some (.slice (some ⟨g2, 0, none⟩) n cap2)) (first | exact hs1 | exact hs0) (first | (go_at_call 74; with_reducible refine Calls.mono (H1.out _ HBR.out) ?_; rintro e w4 ⟨rfl, hs1, HS4⟩))
        all_goals
          have HD5 := hid (HD.out Rk w4 HS4.out HWR.out (by have e1 := HGE.out; omega))
          have r0 := hs1.1
          clear H1 hs0 HD
          go_wp2_with fail
          refine Calls.mono HD5.out ?_
          rintro e w6 ⟨us, rfl, HS7, wus⟩
          clear HD5 r0 hs1
          go_wp2_with fail
          go_roundw
          case rel => exact ⟨k + 1, q * 2, us, by omega, by go_num, by go_num, by omega, wus, show _ = _ by have e := HST.out 0 _ _ (by rw [Int.zero_mul, Int.zero_add]) HS7.out.2; rw [Int.add_zero] at e; exact e, show _ < _ by have e1 := HS7.out.2; have e2 := HGE.out; omega, HQ2.out.1, HS7.out.1⟩
          case measure => simp [intOf]; omega
    · have hkn : k = c := by omega
      subst hkn
      go_wp2_with fail
      go_ret
      exact ⟨q, Rk, rfl, q0, HS.out.1, hwr, HV.out, HL2.out, HS.out.2.2.2⟩

end Go.Proofs.YtabkgpnckaaclaaGreatDoor

/- real.begin: two numbers shifted till they have as many bits as each other. -/
namespace Go.Proofs.YtabkgpnckaaclaaGreatDoor
open Go.RowKit
set_option linter.unusedVariables false

/-- append(v, 0) to a full row, as one step of a region: the same words and a nought in new memory. -/
theorem step_grow0 {ops : Array Oper} {o : Oper} {act : Act} {w : World} {K : Act → World → Prop} {Q : Exit → Act → World → Prop} {E : Prop}
    (hg : o.guard = none) (s x : Operand) (hop : o.op = Op.call { callee := Callee.builtin Builtin.append, args := #[s, x], argTypes := #[23, 23] })
    (g n : Nat) (base : Nat) (xs : List Int) (hs : act.eval s = .slice (some ⟨g, 0, none⟩) n n) (hown : OwnC w base g n n xs)
    (b : Nat) (hx : act.eval x = .slice (some ⟨b, 0, none⟩) 1 1) (hb : w.cell? ⟨b, 0, none⟩ = some (.int .u32 0)) (hn : n ≤ 1048576)
    (hK : ∀ g' c' w', OwnC w' w.heap.size g' (n + 1) c' (xs ++ [0]) → Below w.heap.size w w' → K (act.put o.dst (.slice (some ⟨g', 0, none⟩) (n + 1) c')) w') :
    if Region.wanted o (yielded ops act.tmps) = true then Oper.wp Tryz.prog o act w K Q else E := by
  obtain ⟨i0, hi, hz0, hz1, hz2⟩ := info_parts Tryz.infoW
  refine step_append_grows hg s x 23 hop 88 i0 (.int .u32 0) 1 4 Tryz.underlying23 hi hz0 hz1 hz2 rfl (by decide) (some ⟨g, 0, none⟩) n n (xs.map (Value.int .u32)) hs (by intro h; cases h) (by have := hown.len; simp [this]) ?_ ⟨b, 0, none⟩ 1 1 [.int .u32 0] hx rfl ?_ (by simp [Value.oneCell']) (by omega) (by unfold maxLen; omega) (by omega) ?_
  · intro a ha j u hu
    cases ha
    have hl := hown.len
    by_cases hj : j < n
    · have c := hown.cell j hj
      rw [List.getElem?_map] at hu
      have e : xs[j]? = some (xs[j]?.getD 0) := by rw [List.getElem?_eq_getElem (by omega)]; rfl
      rw [e] at hu
      obtain rfl : Value.int .u32 (xs[j]?.getD 0) = u := by simpa using hu
      have e2 : (⟨g, 0, none⟩ : Addr).add j = ⟨g, j, none⟩ := by
        unfold Addr.add
        by_cases hz : j = 0
        · subst hz; rfl
        · simp [hz]
      rw [e2]
      exact c
    · rw [List.getElem?_eq_none (by simp; omega)] at hu; cases hu
  · intro j u hu
    match j, hu with
    | 0, hu => obtain rfl : Value.int .u32 0 = u := by simpa using hu
               exact hb
    | k + 1, hu => simp at hu
  · intro v' w' o1 g1
    obtain ⟨g', c', rfl, hc, _⟩ := own_shape' o1 (by omega)
    refine hK g' c' w' ?_ ((Below.refl w.heap.size w).grown g1 (Nat.le_refl _) (fun k hk => by simp at hk))
    have : (xs ++ [0]).map (Value.int .u32) = xs.map (Value.int .u32) ++ [.int .u32 0] := by simp
    unfold OwnC
    rw [this]
    exact o1

theorem bits_only {v : Int} {a b : Nat} (ha : 1 ≤ a) (hb : 1 ≤ b) (h1 : (2 : Int) ^ (a - 1) ≤ v) (h2 : v < 2 ^ a) (g1 : (2 : Int) ^ (b - 1) ≤ v) (g2 : v < 2 ^ b) : a = b := by
  rcases Nat.lt_trichotomy a b with h | h | h
  · have : (2 : Int) ^ a ≤ 2 ^ (b - 1) := two_le (by omega)
    omega
  · exact h
  · have : (2 : Int) ^ b ≤ 2 ^ (a - 1) := two_le (by omega)
    omega
theorem len_of_bits {xs : List Int} (hw : Wd xs) (ht : Trimmed xs) (L : Nat) (hL : 1 ≤ L) (h1 : (2 : Int) ^ (L - 1) ≤ val xs) (h2 : val xs < 2 ^ L) : xs.length = (L + 31) / 32 := by
  have hs : sz xs = xs.length := ht
  have hp : 0 < sz xs := by
    rcases Nat.eq_zero_or_pos (sz xs) with g | g
    · exfalso
      have : xs = [] := List.eq_nil_of_length_eq_zero (by omega)
      subst this
      have := two_pos (L - 1)
      rw [val_nil] at h1
      omega
    · exact g
  obtain ⟨b1, b2, b3, b4, b5⟩ := bits_bounds hw hp
  have := bits_only b1 hL b2 b3 h1 h2
  omega

set_option maxHeartbeats 800000 in
set_option maxRecDepth 100000 in
theorem rshifted_s (a : Option Addr) (n cap : Nat) (xs : List Int) (s : Nat) (w : World) (h : Reads w w.heap.size a (n + 1) cap xs) (hn : n ≤ 1048576) (tx : Trimmed xs) (hs : s ≤ 1048576) :
    Calls Tryz.prog 65 #[.slice a (n + 1) cap, .int .i64 (s : Int)] w fun e w' => ∃ ys : List Int, e = .returned (.slice (some ⟨w.heap.size, 0, none⟩) ys.length ys.length) ∧ OwnW w' w.heap.size w.heap.size ys.length ys ∧ Wd ys ∧ Trimmed ys ∧ val ys = val xs * 2 ^ s ∧ Below w.heap.size w w' := by
  refine Calls.mono (rshifted_any a n cap xs (s / 32) (s % 32) (s : Int) w h hn tx (by omega) (by omega) (by omega)) ?_
  rintro e w' ⟨ys, rfl, h1, h2, h3, h4, h5⟩
  refine ⟨ys, rfl, h1, h2, h3, ?_, h5⟩
  rw [h4, pw_two, Int.mul_assoc, ← Int.pow_add]
  congr 2
  omega

/-- Both numbers shifted to as many bits. -/
theorem begin_vals {xs ys zs us : List Int} (wx : Wd xs) (px : 0 < sz xs) (wy : Wd ys) (py : 0 < sz ys) (wz : Wd zs) (tz : Trimmed zs) (wu : Wd us) (tu : Trimmed us)
    (hz : val zs = val xs * 2 ^ (bitsOf ys - bitsOf xs)) (hu : val us = val ys * 2 ^ (bitsOf xs - bitsOf ys)) :
    us.length = zs.length ∧ 0 < zs.length ∧ zs.length ≤ max (sz xs) (sz ys) ∧ val zs < 2 * val us ∧ val us < 2 * val zs ∧ 2 * val zs < 4294967296 ^ (zs.length + 1) ∧ 2 * val us < 4294967296 ^ (zs.length + 1) := by
  obtain ⟨a1, a2, a3, a4, a5⟩ := bits_bounds wx px
  obtain ⟨b1, b2, b3, b4, b5⟩ := bits_bounds wy py
  generalize bitsOf xs = Lx at *
  generalize bitsOf ys = Ly at *
  have z1 : (2 : Int) ^ (max Lx Ly - 1) ≤ val zs ∧ val zs < 2 ^ max Lx Ly := by
    have p := two_pos (Ly - Lx)
    rw [hz]
    constructor
    · have := Int.mul_le_mul_of_nonneg_right a2 (Int.le_of_lt p)
      rw [← Int.pow_add, show Lx - 1 + (Ly - Lx) = max Lx Ly - 1 by omega] at this
      exact this
    · have := Int.mul_lt_mul_of_pos_right a3 p
      rw [← Int.pow_add, show Lx + (Ly - Lx) = max Lx Ly by omega] at this
      exact this
  have u1 : (2 : Int) ^ (max Lx Ly - 1) ≤ val us ∧ val us < 2 ^ max Lx Ly := by
    have p := two_pos (Lx - Ly)
    rw [hu]
    constructor
    · have := Int.mul_le_mul_of_nonneg_right b2 (Int.le_of_lt p)
      rw [← Int.pow_add, show Ly - 1 + (Lx - Ly) = max Lx Ly - 1 by omega] at this
      exact this
    · have := Int.mul_lt_mul_of_pos_right b3 p
      rw [← Int.pow_add, show Ly + (Lx - Ly) = max Lx Ly by omega] at this
      exact this
  have l1 := len_of_bits wz tz _ (by omega) z1.1 z1.2
  have l2 := len_of_bits wu tu _ (by omega) u1.1 u1.2
  have e : (2 : Int) ^ max Lx Ly = 2 * 2 ^ (max Lx Ly - 1) := by
    have e2 : max Lx Ly = (max Lx Ly - 1) + 1 := by omega
    rw [e2, Int.pow_succ, Int.mul_comm, Nat.add_sub_cancel]
  have v1 := val_lt wz
  have v2 := val_lt wu
  rw [l2, ← l1] at v2
  have pz := pw_succ zs.length
  have pp := pw_pos zs.length
  rw [pz]
  refine ⟨by omega, by omega, by omega, by omega, by omega, by omega, by omega⟩

end Go.Proofs.YtabkgpnckaaclaaGreatDoor

/- Fractions: ratio.signedSum: numbers with signs added. -/
namespace Go.Proofs.YtabkgpnckaaclaaGreatDoor
open Go.RowKit
set_option linter.unusedVariables false

/-- A number with a sign (0 may have one), in new memory. -/
def WVal (w : World) (t : Int) (x : Ending) (w' : World) : Prop := ∃ n v zs, x = .returned (.agg #[.bool n, v]) ∧ w'.ownsRow w.heap.size 88 1 v zs.length (zs.map (Value.int .u32)) ∧ Wd zs ∧ Trimmed zs ∧ wval n zs = t ∧ Below w.heap.size w w'
/-- A number told in new memory. -/
def One (U w' : World) (v : Value) (zs : List Int) (t : Int) : Prop := w'.ownsRow U.heap.size 88 1 v zs.length (zs.map (Value.int .u32)) ∧ Wd zs ∧ Trimmed zs ∧ val zs = t
theorem One.later {U V W : World} {v : Value} {zs : List Int} {t : Int} (h : One U V v zs t) (hb : Below V.heap.size V W) : One U W v zs t := ⟨owns_later h.1 hb, h.2⟩
theorem One.base {U U' V : World} {v : Value} {zs : List Int} {t : Int} (h : One U V v zs t) (hb : U'.heap.size ≤ U.heap.size) : One U' V v zs t := ⟨owns_base h.1 hb, h.2⟩
theorem One.sl {U V : World} {v : Value} {zs : List Int} {t : Int} (h : One U V v zs t) : Sl V v zs := Sl.own h.1 h.2.1
end Go.Proofs.YtabkgpnckaaclaaGreatDoor

/- Fractions: ratio.add, multiply: sums and products of fractions, what is in common taken out first. -/
namespace Go.Proofs.YtabkgpnckaaclaaGreatDoor
open Go.RowKit
set_option linter.unusedVariables false

theorem div_gcd_left {x y g : Int} (hg : g = gcdI x y) : x = x / g * g := (Int.ediv_mul_cancel (by rw [hg]; exact Int.gcd_dvd_left ..)).symm
theorem div_gcd_right {x y g : Int} (hg : g = gcdI x y) : y = y / g * g := (Int.ediv_mul_cancel (by rw [hg]; exact Int.gcd_dvd_right ..)).symm
theorem gcd_pos_right {x y : Int} (h : 0 < y) : 0 < gcdI x y := by
  have : 0 < Int.gcd x y := Int.gcd_pos_iff.2 (Or.inr (by omega))
  unfold gcdI; omega
theorem gcd_le_right {x y : Int} (h : 0 < y) : gcdI x y ≤ y := Int.le_of_dvd h (Int.gcd_dvd_right ..)
theorem sg_mul (n : Bool) (x y : Int) : sg n (x * y) = sg n x * y := by cases n <;> simp [sg, Int.neg_mul]
theorem WVal.at {U ww : World} {f : Nat} {args : Array Value} {t : Int} (S : World → Prop) (hS : ∀ w', Below U.heap.size U w' → S w') (hb : Below U.heap.size U ww) (C : Calls Tryz.prog f args ww (WVal ww t)) :
    Calls Tryz.prog f args ww fun e w' => ∃ k a2 zs c2, e = .returned (.agg #[.bool k, .slice a2 zs.length c2]) ∧ Hid (∃ T, One U w' (.slice a2 zs.length c2) zs T ∧ sg k T = t) ∧ S w' ∧ Below U.heap.size U w' ∧ Hid (Below ww.heap.size ww w') :=
  Calls.mono C fun e w' h => by
    obtain ⟨k, v, zs, rfl, o, h1, h2, h3, hb2⟩ := h
    obtain ⟨a2, c2, hs2⟩ := own_slice' o
    subst hs2
    exact ⟨k, a2, zs, c2, rfl, ⟨val zs, ⟨owns_base o hb.size, h1, h2, rfl⟩, h3⟩, hS w' (bt hb hb2), bt hb hb2, hb2⟩
/-- What lies in blocks that were there stays, said so that the walk can use it. -/
def Far (ww w' : World) : Prop := (∀ H, H < ww.heap.size → H < w'.heap.size) ∧ (∀ H j, H < ww.heap.size → w'.cell? ⟨H, j, none⟩ = ww.cell? ⟨H, j, none⟩) ∧ (∀ H j, H < ww.heap.size → w'.frozen? ⟨H, j, none⟩ = ww.frozen? ⟨H, j, none⟩)
theorem Far.of {ww w' : World} (h : Below ww.heap.size ww w') : Far ww w' := ⟨fun H hl => Nat.lt_of_lt_of_le hl h.size, fun H j hl => h.cell (p := ⟨H, j, none⟩) hl, fun H j hl => h.frozen (p := ⟨H, j, none⟩) hl⟩
theorem RTold.put {w U w3 : World} {e : Int} {q : Rat} {k : Bool} {v u : Value} {zs ds : List Int} {code : Int} (h : w3.ownsRow U.heap.size 88 1 v zs.length (zs.map (Value.int .u32)) ∧ w3.ownsRow U.heap.size 88 1 u ds.length (ds.map (Value.int .u32)) ∧ RTells e q k zs ds code) (b : Nat) (hb : b < U.heap.size) (hw : w.heap.size ≤ b) (hbw : Below w.heap.size w w3) (x y z : Value) :
    RTold w e q (.returned (.tuple #[.agg #[.bool k, v, u], .int .i64 code])) (((w3.setCell ⟨b, 0, none⟩ x).setCell ⟨b, 1, none⟩ y).setCell ⟨b, 2, none⟩ z) :=
  ⟨k, v, zs, u, ds, code, rfl, owns_base (own_put3 h.1 b (fun g hg => by have := (World.ownsRow.lt h.1 g hg).1; omega) _ _ _) (by omega), owns_base (own_put3 h.2.1 b (fun g hg => by have := (World.ownsRow.lt h.2.1 g hg).1; omega) _ _ _) (by omega), h.2.2, below_put3 hbw b hw _ _ _⟩

end Go.Proofs.YtabkgpnckaaclaaGreatDoor

/- Whole numbers: whole.divide, DivMod as in Wh6, and besides: quotient and rest lie apart. -/
namespace Go.Proofs.YtabkgpnckaaclaaGreatDoor
open Go.RowKit
set_option linter.unusedVariables false

/-- The first lies below a cut, the second from it on: both new. -/
def Cut (w : World) (v u : Value) (w' : World) : Prop := ∃ c, w.heap.size ≤ c ∧ c ≤ w'.heap.size ∧ Lies v w.heap.size c ∧ Lies u c w'.heap.size
theorem Cut.up {w w' W W' : World} {v u : Value} (h : Cut w v u w') (h0 : W.heap.size ≤ w.heap.size) (h1 : w'.heap.size ≤ W'.heap.size) : Cut W v u W' := by
  obtain ⟨c, c0, c1, l0, l1⟩ := h
  exact ⟨c, Nat.le_trans h0 c0, Nat.le_trans c1 h1, fun g hg => ⟨Nat.le_trans h0 (l0 g hg).1, (l0 g hg).2⟩, fun g hg => ⟨(l1 g hg).1, Nat.lt_of_lt_of_le (l1 g hg).2 h1⟩⟩

end Go.Proofs.YtabkgpnckaaclaaGreatDoor

/- Fractions: ratio.Make: of two whole numbers, in whatever form; Num and Den lie apart. -/
namespace Go.Proofs.YtabkgpnckaaclaaGreatDoor
open Go.RowKit
set_option linter.unusedVariables false

/-- A fraction told in new memory, Num and Den apart. -/
def RToldA (w : World) (e : Int) (q : Rat) (x : Ending) (w' : World) : Prop :=
  ∃ n v xs u ys code, x = .returned (.tuple #[.agg #[.bool n, v, u], .int .i64 code]) ∧ w'.ownsRow w.heap.size 88 1 v xs.length (xs.map (Value.int .u32)) ∧ w'.ownsRow w.heap.size 88 1 u ys.length (ys.map (Value.int .u32)) ∧ RTells e q n xs ys code ∧ Below w.heap.size w w' ∧ Cut w v u w'
theorem RTells.same {e : Int} {q : Rat} {n m : Bool} {xs ys us vs : List Int} {c d : Int} (h : RTells e q n xs ys c) (g : RTells e q m us vs d) : n = m ∧ xs = us ∧ ys = vs ∧ c = d := by
  by_cases he : e = 0
  · by_cases hl : rlong q
    · obtain ⟨a1, a2, a3, a4⟩ := h.long he hl
      obtain ⟨b1, b2, b3, b4⟩ := g.long he hl
      exact ⟨by rw [a1, b1], by rw [a2, b2], by rw [a3, b3], by rw [a4, b4]⟩
    · obtain ⟨a1, a2, a3⟩ := h.good he hl
      obtain ⟨b1, b2, b3⟩ := g.good he hl
      obtain ⟨_, _, tx, ty, y0, sx, gx⟩ := rchk_ok a2
      obtain ⟨_, _, tu, tv, v0, su, gu⟩ := rchk_ok b2
      have py := val_pos' h.wy ty y0
      have pv := val_pos' g.wy tv v0
      have e1 := fr_inj (x := wval n xs) (d := val ys) (y := wval m us) (e := val vs) (by omega) (by rw [show wval n xs = sg n (val xs) from rfl, gcd_sg]; exact gx) (by omega) (by rw [show wval m us = sg m (val us) from rfl, gcd_sg]; exact gu) (a3.trans b3.symm)
      have e2 : n = m ∧ xs = us := by
        have x0 := val_nonneg h.wx
        have u0 := val_nonneg g.wx
        have e3 := e1.1
        cases n <;> cases m
        · exact ⟨rfl, trimmed_eq h.wx g.wx tx tu e3⟩
        · have e4 : val xs = -(val us) := e3
          have := val_pos' g.wx tu (su.elim (fun e => by cases e) id)
          omega
        · have e4 : -(val xs) = val us := e3
          have := val_pos' h.wx tx (sx.elim (fun e => by cases e) id)
          omega
        · have e4 : -(val xs) = -(val us) := e3
          exact ⟨rfl, trimmed_eq h.wx g.wx tx tu (by omega)⟩
      exact ⟨e2.1, e2.2, trimmed_eq h.wy g.wy ty tv e1.2, by rw [a1, b1]⟩
  · obtain ⟨a1, a2, a3, a4⟩ := h.bad he
    obtain ⟨b1, b2, b3, b4⟩ := g.bad he
    exact ⟨by rw [a1, b1], by rw [a2, b2], by rw [a3, b3], by rw [a4, b4]⟩
theorem RTells.len {e : Int} {q : Rat} {n : Bool} {xs ys : List Int} {c : Int} (h : RTells e q n xs ys c) : xs.length ≤ 2048 ∧ ys.length ≤ 2048 := by
  by_cases he : e = 0
  · by_cases hl : rlong q
    · obtain ⟨_, a2, a3, _⟩ := h.long he hl
      rw [a2, a3]; simp
    · obtain ⟨l1, l2, _⟩ := rchk_ok (h.good he hl).2.1
      exact ⟨l1, l2⟩
  · obtain ⟨_, a2, a3, _⟩ := h.bad he
    rw [a2, a3]; simp
theorem make_parts {n m : Bool} {xs ys : List Int} (hx : 0 ≤ val xs) (hy : 0 < val ys) :
    0 < val ys / gcdI (val xs) (val ys) ∧ gcdI (val xs / gcdI (val xs) (val ys)) (val ys / gcdI (val xs) (val ys)) = 1 ∧ Rat.divInt (sg (n != m) (val xs / gcdI (val xs) (val ys))) (val ys / gcdI (val xs) (val ys)) = Rat.divInt (wval n xs) (wval m ys) := by
  obtain ⟨e1, e2, e3⟩ := fr_make (x := val xs) (d := val ys) (p := val xs / gcdI (val xs) (val ys)) (e := val ys / gcdI (val xs) (val ys)) hy rfl (div_gcd_left rfl) (div_gcd_right rfl)
  refine ⟨e1, e2, ?_⟩
  generalize val xs / gcdI (val xs) (val ys) = p at *
  generalize val ys / gcdI (val xs) (val ys) = e at *
  cases n <;> cases m <;> simp [sg, wval, e3, Rat.divInt_neg', ← Rat.neg_divInt]
theorem RToldA.put {w U w3 : World} {e : Int} {q : Rat} {k : Bool} {v u : Value} {zs ds : List Int} {code : Int} (h : w3.ownsRow U.heap.size 88 1 v zs.length (zs.map (Value.int .u32)) ∧ w3.ownsRow U.heap.size 88 1 u ds.length (ds.map (Value.int .u32)) ∧ RTells e q k zs ds code ∧ Cut U v u w3) (b : Nat) (hb : b < U.heap.size) (hw : w.heap.size ≤ b) (hbw : Below w.heap.size w w3) (x y z : Value) :
    RToldA w e q (.returned (.tuple #[.agg #[.bool k, v, u], .int .i64 code])) (((w3.setCell ⟨b, 0, none⟩ x).setCell ⟨b, 1, none⟩ y).setCell ⟨b, 2, none⟩ z) :=
  ⟨k, v, zs, u, ds, code, rfl, owns_base (own_put3 h.1 b (fun g hg => by have := (World.ownsRow.lt h.1 g hg).1; omega) _ _ _) (by omega), owns_base (own_put3 h.2.1 b (fun g hg => by have := (World.ownsRow.lt h.2.1 g hg).1; omega) _ _ _) (by omega), h.2.2.1, below_put3 hbw b hw _ _ _, h.2.2.2.up (by omega) (by simp)⟩
end Go.Proofs.YtabkgpnckaaclaaGreatDoor

/- real.words, bits.TrailingZeros64, real.fraction. -/
namespace Go.Proofs.YtabkgpnckaaclaaGreatDoor
open Go.RowKit
set_option linter.unusedVariables false

/-- The library's table of places stands as its text lays it. -/
def TabB (w : World) : Prop := ∀ j, j < 64 → w.cell? ⟨1, j, none⟩ = some (.int .u8 ((Lib.deBruijn64tab.getD j 0 : Nat) : Int))
theorem TabB.later {w w' : World} (h : TabB w) (hb : Below w.heap.size w w') : TabB w' := fun j hj => by
  have hlt : 1 < w.heap.size := by
    rcases Nat.lt_or_ge 1 w.heap.size with g | g
    · exact g
    · have e := h 0 (by omega)
      unfold World.cell? at e
      rw [Array.getElem?_eq_none g] at e
      cases e
  exact (hb.cell (p := ⟨1, j, none⟩) hlt).trans (h j hj)

set_option maxHeartbeats 1600000 in
set_option maxRecDepth 100000 in
theorem tz_core (x k idx : Nat) (w : World) (hx0 : ((x : Int) == 0) = false)
    (key : IntKind.u64.wrap (bits BinOp.and IntKind.u64 (x : Int) (IntKind.u64.wrap (-(x : Int))) * 285870213051353865) / 288230376151711744 = (idx : Int))
    (hi : idx < 64) (hk : k < 64) (hcell : w.cell? ⟨1, idx, none⟩ = some (.int .u8 (k : Int))) :
    Calls Tryz.prog 63 #[.int .u64 (x : Int)] w fun e w' => e = .returned (.int .i64 (k : Int)) ∧ w' = w := by
  go_enter Tryz.func63, Tryz.ntmps63
  go_wp2_with (simp only [key])
  go_ret
  exact ⟨rfl, rfl⟩
theorem tz_any (x : Nat) (w : World) (hx : x < 18446744073709551616) (h0 : x ≠ 0) (hT : TabB w) :
    Calls Tryz.prog 63 #[.int .u64 (x : Int)] w fun e w' => e = .returned (.int .i64 (Lib.ctz 64 x : Int)) ∧ w' = w := by
  obtain ⟨hlow, hk⟩ := Lib.lowest_bit 64 x h0 hx
  obtain ⟨hi, htab⟩ := Lib.deBruijn64_at _ hk
  have key := tz64_key x _ hx h0 hlow
  have hcell := hT _ hi
  rw [htab] at hcell
  exact tz_core x _ _ w (beq_eq_false_iff_ne.2 (by omega)) key hi hk hcell

set_option maxHeartbeats 800000 in
set_option maxRecDepth 100000 in
theorem rwords64_any (x : Nat) (w : World) (hx : x < 18446744073709551616) (h0 : x ≠ 0) :
    Calls Tryz.prog 64 #[.int .u64 (x : Int)] w fun e w' => ∃ ys : List Int, e = .returned (.slice (some ⟨w.heap.size, 0, none⟩) ys.length ys.length) ∧ OwnW w' w.heap.size w.heap.size ys.length ys ∧ Wd ys ∧ Trimmed ys ∧ val ys = x ∧ ys.length ≤ 2 ∧ Below w.heap.size w w' := by
  by_cases hb : x < 4294967296
  · have h1 : ((x : Int) / 4294967296 == 0) = true := beq_iff_eq.2 (by omega)
    have HO : Hid (OwnW (w.alloc (.cells #[.int .u32 (x : Int)] 88)) w.heap.size w.heap.size 1 [(x : Int)]) := World.ownsRow_lit w #[.int .u32 (x : Int)] 1 (Nat.le_refl _) (by simp [maxLen]) rfl
    have HW : Hid (Wd [(x : Int)] ∧ Trimmed [(x : Int)]) := ⟨Wd.one (by omega), by show sz _ = _; rw [sz_eq_iff]; right; simp; omega⟩
    have hx1 : (x : Int) ≤ 4294967295 := by omega
    clear hb hx h0
    go_enter Tryz.func64, Tryz.ntmps64
    go_wp2_with fail
    go_ret
    exact ⟨[(x : Int)], rfl, HO.out, HW.out.1, HW.out.2, val_one _, by simp, alloc_later _ _⟩
  · have h1 : ((x : Int) / 4294967296 == 0) = false := beq_eq_false_iff_ne.2 (by omega)
    obtain ⟨lo, hlo⟩ : ∃ lo, (x : Int) % 4294967296 = lo := ⟨_, rfl⟩
    obtain ⟨hi, hhi⟩ : ∃ hi, (x : Int) / 4294967296 = hi := ⟨_, rfl⟩
    have HO : Hid (OwnW (w.alloc (.cells #[.int .u32 lo, .int .u32 hi] 88)) w.heap.size w.heap.size 2 [lo, hi]) := World.ownsRow_lit w #[.int .u32 lo, .int .u32 hi] 2 (Nat.le_refl _) (by simp [maxLen]) rfl
    have HW : Hid (Wd [lo, hi] ∧ Trimmed [lo, hi] ∧ val [lo, hi] = x) := ⟨Wd.cons (by omega) (Wd.one (by omega)), by show sz _ = _; rw [sz_eq_iff]; right; simp; omega, by rw [val_two]; omega⟩
    have hi1 : hi ≤ 4294967295 := by omega
    have hi0 : 0 ≤ hi := by omega
    rw [hhi] at h1
    clear hb hx h0
    go_enter Tryz.func64, Tryz.ntmps64
    go_wp2_with fail
    go_ret
    exact ⟨[lo, hi], rfl, HO.out, HW.out.1, HW.out.2.1, HW.out.2.2, by simp, alloc_later _ _⟩

end Go.Proofs.YtabkgpnckaaclaaGreatDoor

/- real.fraction: what a float that was taken apart is, in lowest terms, in new memory. -/
namespace Go.Proofs.YtabkgpnckaaclaaGreatDoor
open Go.RowKit
set_option linter.unusedVariables false

theorem below_alloc1 {w w' : World} (h : Below w.heap.size w w') (o : Obj) : Below w.heap.size w (w'.alloc o) := bt h (alloc_later _ _)
theorem below_frozen {ww w2 : World} {b j : Nat} (hb : Below ww.heap.size ww w2) (h : b < ww.heap.size) : w2.frozen? ⟨b, j, none⟩ = ww.frozen? ⟨b, j, none⟩ := by
  unfold World.frozen?
  rw [hb.block b h]
theorem cast_div_two (m k : Nat) : (m : Int) / 2 ^ k = ((m / 2 ^ k : Nat) : Int) := by
  rw [Int.natCast_ediv, Int.natCast_pow]; rfl
theorem div_odd {m k d : Nat} (hm : m < 18446744073709551616) (h0 : m ≠ 0) (hk : Lib.ctz 64 m = k) (hd : m / 2 ^ k = d) : d < 18446744073709551616 ∧ d ≠ 0 := by
  obtain ⟨j, hj, _⟩ := Lib.ctzFrom_spec 64 m (by omega) hm
  have e : Lib.ctzFrom 64 m = k := by rw [← hk]; unfold Lib.ctz; rw [if_neg h0]
  rw [e] at hj
  have hp : 0 < 2 ^ k := Nat.two_pow_pos k
  have e2 : d = 2 * j + 1 := by rw [← hd]; conv => lhs; rw [hj]
                                exact Nat.mul_div_cancel_left _ hp
  refine ⟨?_, by omega⟩
  rw [← hd]
  exact Nat.lt_of_le_of_lt (Nat.div_le_self _ _) hm

/-- What the fraction's first statement leaves: its box, the words of the count, the one. -/
def FinF (w0 W : World) (s : Bool) (d : Nat) (p g1 g2 : Nat) (ys : List Int) : Prop :=
  Box W p 25 #[.bool s, .slice (some ⟨g1, 0, none⟩) ys.length ys.length, .slice (some ⟨g2, 0, none⟩) 1 1] ∧ OwnW W w0.heap.size g1 ys.length ys ∧ OwnW W w0.heap.size g2 1 [1] ∧ (Wd ys ∧ Trimmed ys ∧ val ys = d ∧ ys.length ≤ 2) ∧ g1 ≠ g2 ∧ w0.heap.size ≤ p ∧ Below w0.heap.size w0 W
def WordsE (U w2 : World) (d : Nat) (ys : List Int) : Prop := OwnW w2 U.heap.size U.heap.size ys.length ys ∧ Wd ys ∧ Trimmed ys ∧ val ys = d ∧ ys.length ≤ 2 ∧ Below U.heap.size U w2
theorem undrew {U w2 : World} {d : Nat} {ys : List Int} (h : WordsE U.drew w2 d ys) : WordsE U w2 d ys := ⟨h.1, h.2.1, h.2.2.1, h.2.2.2.1, h.2.2.2.2.1, ⟨h.2.2.2.2.2.os, h.2.2.2.2.2.tape, h.2.2.2.2.2.output, h.2.2.2.2.2.size, h.2.2.2.2.2.block⟩⟩
theorem one_row (V : World) {b : Nat} (hb : b ≤ V.heap.size) : OwnW (V.alloc (.cells #[.int .u32 1] 88)) b V.heap.size 1 [1] := owns_base (World.ownsRow_lit V #[.int .u32 1] 1 (Nat.le_refl _) (by simp [maxLen]) rfl) hb
theorem own_up {V : World} {b g n : Nat} {ys : List Int} (h : OwnW V b g n ys) (o : Obj) : OwnW (V.alloc o) b g n ys := owns_later h (alloc_later _ _)
theorem Box.put3' {U : World} {b t : Nat} {u0 u1 u2 : Value} (h : Box U b t #[u0, u1, u2]) (v0 v1 v2 : Value) : Box (((U.setCell ⟨b, 0, none⟩ v0).setCell ⟨b, 1, none⟩ v1).setCell ⟨b, 2, none⟩ v2) b t #[v0, v1, v2] := ((h.set 0 v0).set 1 v1).set 2 v2
theorem OwnW.put3' {U : World} {b g n p t : Nat} {ys : List Int} {vs : Array Value} (h : OwnW U b g n ys) (hb : Box U p t vs) (hne : 88 ≠ t) (v0 v1 v2 : Value) : OwnW (((U.setCell ⟨p, 0, none⟩ v0).setCell ⟨p, 1, none⟩ v1).setCell ⟨p, 2, none⟩ v2) b g n ys := own_put3 h p (own_ne_box h hb hne) v0 v1 v2

theorem fin1 {w1 w2 : World} {s : Bool} {d : Nat} {ys : List Int} (h : WordsE w1 w2 d ys) : FinF w1 ((w2.alloc (.cells #[.int .u32 1] 88)).alloc (.cells #[.bool s, .slice (some ⟨w1.heap.size, 0, none⟩) ys.length ys.length, .slice (some ⟨w2.heap.size, 0, none⟩) 1 1] 25)) s d (w2.heap.size + 1) w1.heap.size w2.heap.size ys := by
  obtain ⟨h1, h2, h3, h4, h5, h6⟩ := h
  have e := Box.made (w2.alloc (.cells #[.int .u32 1] 88)) 25 #[.bool s, .slice (some ⟨w1.heap.size, 0, none⟩) ys.length ys.length, .slice (some ⟨w2.heap.size, 0, none⟩) 1 1]
  rw [World.size_alloc] at e
  exact ⟨e, own_up (own_up h1 _) _, own_up (one_row w2 h6.size) _, ⟨h2, h3, h4, h5⟩, by have := h1.base.2; omega, by have := h6.size; omega, bt h6 (bt (alloc_later _ _) (alloc_later _ _))⟩
theorem fin2 {w1 w2 : World} {s : Bool} {d : Nat} {ys : List Int} (h : WordsE w1 w2 d ys) : FinF w1 ((w2.alloc (.cells #[.bool s, .slice (some ⟨w1.heap.size, 0, none⟩) ys.length ys.length, .slice (some ⟨w2.heap.size + 1, 0, none⟩) 1 1] 25)).alloc (.cells #[.int .u32 1] 88)) s d w2.heap.size w1.heap.size (w2.heap.size + 1) ys := by
  obtain ⟨h1, h2, h3, h4, h5, h6⟩ := h
  have e := (Box.made w2 25 #[.bool s, .slice (some ⟨w1.heap.size, 0, none⟩) ys.length ys.length, .slice (some ⟨w2.heap.size + 1, 0, none⟩) 1 1]).later (alloc_later _ (.cells #[.int .u32 1] 88)) (by simp)
  have r := one_row (w2.alloc (.cells #[.bool s, .slice (some ⟨w1.heap.size, 0, none⟩) ys.length ys.length, .slice (some ⟨w2.heap.size + 1, 0, none⟩) 1 1] 25)) (b := w1.heap.size) (by rw [World.size_alloc]; have := h6.size; omega)
  rw [World.size_alloc] at r
  exact ⟨e, own_up (own_up h1 _) _, r, ⟨h2, h3, h4, h5⟩, by have := h1.base.2; omega, h6.size, bt h6 (bt (alloc_later _ _) (alloc_later _ _))⟩
theorem fin3 {w1 w2 : World} {s : Bool} {d : Nat} {ys : List Int} (h : WordsE (w1.alloc (.cells #[.int .u32 1] 88)) w2 d ys) : FinF w1 (w2.alloc (.cells #[.bool s, .slice (some ⟨w1.heap.size + 1, 0, none⟩) ys.length ys.length, .slice (some ⟨w1.heap.size, 0, none⟩) 1 1] 25)) s d w2.heap.size (w1.heap.size + 1) w1.heap.size ys := by
  obtain ⟨h1, h2, h3, h4, h5, h6⟩ := h
  rw [World.size_alloc] at h1
  exact ⟨Box.made w2 25 _, own_up (owns_base h1 (by omega)) _, own_up (owns_later (one_row w1 (Nat.le_refl _)) h6) _, ⟨h2, h3, h4, h5⟩, by omega, (bt (alloc_later _ _) h6).size, bt (bt (alloc_later _ _) h6) (alloc_later _ _)⟩
theorem fin4 {w1 w2 : World} {s : Bool} {d : Nat} {ys : List Int} (h : WordsE ((w1.alloc (.cells #[.int .u32 1] 88)).alloc (.cells #[.bool false, .slice none 0 0, .slice none 0 0] 25)) w2 d ys) : FinF w1 (((w2.setCell ⟨w1.heap.size + 1, 0, none⟩ (.bool s)).setCell ⟨w1.heap.size + 1, 1, none⟩ (.slice (some ⟨w1.heap.size + 1 + 1, 0, none⟩) ys.length ys.length)).setCell ⟨w1.heap.size + 1, 2, none⟩ (.slice (some ⟨w1.heap.size, 0, none⟩) 1 1)) s d (w1.heap.size + 1) (w1.heap.size + 1 + 1) w1.heap.size ys := by
  obtain ⟨h1, h2, h3, h4, h5, h6⟩ := h
  rw [World.size_alloc, World.size_alloc] at h1
  have b0 := Box.made (w1.alloc (.cells #[.int .u32 1] 88)) 25 #[.bool false, .slice none 0 0, .slice none 0 0]
  have b1 := b0.later h6 b0.lt
  rw [World.size_alloc] at b1
  have r := owns_later (own_up (one_row w1 (Nat.le_refl _)) (.cells #[.bool false, .slice none 0 0, .slice none 0 0] 25)) h6
  exact ⟨b1.put3' _ _ _, OwnW.put3' (owns_base h1 (by omega)) b1 (by decide) _ _ _, OwnW.put3' r b1 (by decide) _ _ _, ⟨h2, h3, h4, h5⟩, by omega, by omega, below_put3 (bt (bt (alloc_later _ _) (alloc_later _ _)) h6) _ (by omega) _ _ _⟩
theorem fin5 {w1 w2 : World} {s : Bool} {d : Nat} {ys : List Int} (h : WordsE (w1.alloc (.cells #[.bool false, .slice none 0 0, .slice none 0 0] 25)) w2 d ys) : FinF w1 ((((w2.setCell ⟨w1.heap.size, 0, none⟩ (.bool s)).setCell ⟨w1.heap.size, 1, none⟩ (.slice (some ⟨w1.heap.size + 1, 0, none⟩) ys.length ys.length)).setCell ⟨w1.heap.size, 2, none⟩ (.slice (some ⟨w2.heap.size, 0, none⟩) 1 1)).alloc (.cells #[.int .u32 1] 88)) s d w1.heap.size (w1.heap.size + 1) w2.heap.size ys := by
  obtain ⟨h1, h2, h3, h4, h5, h6⟩ := h
  rw [World.size_alloc] at h1
  have b0 := Box.made w1 25 #[.bool false, .slice none 0 0, .slice none 0 0]
  have b1 := b0.later h6 b0.lt
  have hsz : (((w2.setCell ⟨w1.heap.size, 0, none⟩ (.bool s)).setCell ⟨w1.heap.size, 1, none⟩ (.slice (some ⟨w1.heap.size + 1, 0, none⟩) ys.length ys.length)).setCell ⟨w1.heap.size, 2, none⟩ (.slice (some ⟨w2.heap.size, 0, none⟩) 1 1)).heap.size = w2.heap.size := by simp [World.setCell]
  have r := one_row (((w2.setCell ⟨w1.heap.size, 0, none⟩ (.bool s)).setCell ⟨w1.heap.size, 1, none⟩ (.slice (some ⟨w1.heap.size + 1, 0, none⟩) ys.length ys.length)).setCell ⟨w1.heap.size, 2, none⟩ (.slice (some ⟨w2.heap.size, 0, none⟩) 1 1)) (b := w1.heap.size) (by rw [hsz]; exact (bt (alloc_later _ _) h6).size)
  rw [hsz] at r
  have b2 := (b1.put3' (.bool s) (.slice (some ⟨w1.heap.size + 1, 0, none⟩) ys.length ys.length) (.slice (some ⟨w2.heap.size, 0, none⟩) 1 1))
  exact ⟨b2.later (alloc_later _ _) b2.lt, own_up (OwnW.put3' (owns_base h1 (by omega)) b1 (by decide) _ _ _) _, r, ⟨h2, h3, h4, h5⟩, by have := h1.base.2; omega, Nat.le_refl _, bt (below_put3 (bt (alloc_later _ _) h6) _ (Nat.le_refl _) _ _ _) (alloc_later _ _)⟩
theorem fin6 {w1 w2 : World} {s : Bool} {d : Nat} {ys : List Int} (h : WordsE ((w1.alloc (.cells #[.bool false, .slice none 0 0, .slice none 0 0] 25)).alloc (.cells #[.int .u32 1] 88)) w2 d ys) : FinF w1 (((w2.setCell ⟨w1.heap.size, 0, none⟩ (.bool s)).setCell ⟨w1.heap.size, 1, none⟩ (.slice (some ⟨w1.heap.size + 1 + 1, 0, none⟩) ys.length ys.length)).setCell ⟨w1.heap.size, 2, none⟩ (.slice (some ⟨w1.heap.size + 1, 0, none⟩) 1 1)) s d w1.heap.size (w1.heap.size + 1 + 1) (w1.heap.size + 1) ys := by
  obtain ⟨h1, h2, h3, h4, h5, h6⟩ := h
  rw [World.size_alloc, World.size_alloc] at h1
  have b0 := (Box.made w1 25 #[.bool false, .slice none 0 0, .slice none 0 0]).later (alloc_later _ (.cells #[.int .u32 1] 88)) (by simp)
  have b1 := b0.later h6 b0.lt
  have r := owns_later (one_row (w1.alloc (.cells #[.bool false, .slice none 0 0, .slice none 0 0] 25)) (b := w1.heap.size) (by rw [World.size_alloc]; omega)) h6
  rw [World.size_alloc] at r
  exact ⟨b1.put3' _ _ _, OwnW.put3' (owns_base h1 (by omega)) b1 (by decide) _ _ _, OwnW.put3' r b1 (by decide) _ _ _, ⟨h2, h3, h4, h5⟩, by omega, by omega, below_put3 (bt (bt (alloc_later _ _) (alloc_later _ _)) h6) _ (Nat.le_refl _) _ _ _⟩

end Go.Proofs.YtabkgpnckaaclaaGreatDoor

/- real.begin: two numbers shifted till they have as many bits as each other. -/
namespace Go.Proofs.YtabkgpnckaaclaaGreatDoor
open Go.RowKit
set_option linter.unusedVariables false

theorem cell_made1 (W : World) (t : Nat) : (W.alloc (.cells #[.int .u32 0] t)).cell? ⟨W.heap.size, 0, none⟩ = some (.int .u32 0) := (Box.made W t #[.int .u32 0]).cell 0
theorem cell_made2 (W : World) (t : Nat) (o : Obj) : ((W.alloc (.cells #[.int .u32 0] t)).alloc o).cell? ⟨W.heap.size, 0, none⟩ = some (.int .u32 0) := ((Box.made W t #[.int .u32 0]).later (alloc_later _ _) (Box.made W t #[.int .u32 0]).lt).cell 0
theorem cell_made3 (W : World) (t : Nat) (o : Obj) : ((W.alloc o).alloc (.cells #[.int .u32 0] t)).cell? ⟨W.heap.size + 1, 0, none⟩ = some (.int .u32 0) := by
  have h := (Box.made (W.alloc o) t #[.int .u32 0]).cell 0
  rw [show (W.alloc o).heap.size = W.heap.size + 1 by simp] at h
  exact h
theorem cell_kept2 {W v : World} {t : Nat} {o : Obj} (b : Below ((W.alloc (.cells #[.int .u32 0] t)).alloc o).drew.heap.size ((W.alloc (.cells #[.int .u32 0] t)).alloc o).drew v) : v.cell? ⟨W.heap.size, 0, none⟩ = some (.int .u32 0) :=
  (b.cell (p := ⟨W.heap.size, 0, none⟩) (by simp; omega)).trans (cell_made2 W t o)
theorem cell_kept3 {W v : World} {t : Nat} {o : Obj} (b : Below ((W.alloc o).alloc (.cells #[.int .u32 0] t)).drew.heap.size ((W.alloc o).alloc (.cells #[.int .u32 0] t)).drew v) : v.cell? ⟨W.heap.size + 1, 0, none⟩ = some (.int .u32 0) :=
  (b.cell (p := ⟨W.heap.size + 1, 0, none⟩) (by simp)).trans (cell_made3 W t o)

theorem step_grow1 {ops : Array Oper} {o : Oper} {act : Act} {w : World} {K : Act → World → Prop} {Q : Exit → Act → World → Prop} {E : Prop} (X : World) (hX : Below X.heap.size X w)
    (hg : o.guard = none) (s x : Operand) (hop : o.op = Op.call { callee := Callee.builtin Builtin.append, args := #[s, x], argTypes := #[23, 23] })
    (g n : Nat) (base : Nat) (xs : List Int) (hs : act.eval s = .slice (some ⟨g, 0, none⟩) n n) (hown : OwnC w base g n n xs)
    (b : Nat) (hx : act.eval x = .slice (some ⟨b, 0, none⟩) 1 1) (hb : w.cell? ⟨b, 0, none⟩ = some (.int .u32 0)) (hn : n ≤ 1048576)
    (hK : ∀ g' c' w', OwnC w' X.heap.size g' (n + 1) c' (xs ++ [0]) → Below X.heap.size X w' → Below w.heap.size w w' → K (act.put o.dst (.slice (some ⟨g', 0, none⟩) (n + 1) c')) w') :
    if Region.wanted o (yielded ops act.tmps) = true then Oper.wp Tryz.prog o act w K Q else E :=
  step_grow0 hg s x hop g n base xs hs hown b hx hb hn (fun g' c' w' o1 b1 => hK g' c' w' (owns_base o1 hX.size) (bt hX b1) b1)
theorem dbl_pow (a P : Int) : 2 * (a * P) = a * (P * 2) := by grind
theorem val_end0 (ls : List Int) : val (ls ++ [0]) = val ls := val_eq_of fun j => by
  rw [List.getElem?_append]
  split
  · rfl
  · rename_i h
    rw [List.getElem?_eq_none (by omega : ls.length ≤ j)]
    rcases Nat.eq_zero_or_pos (j - ls.length) with g | g
    · rw [g]; rfl
    · rw [List.getElem?_eq_none (by simp; omega)]
/-- What stands behind the two appends. -/
structure BegCut (w : World) (pd k : Nat) (p : Int) (zs us : List Int) (wx : World) : Prop where
  rows : ∃ g1 c1 g2 c2, OwnC wx w.heap.size g1 (k + 1) c1 (zs ++ [0]) ∧ OwnC wx w.heap.size g2 (k + 1) c2 (us ++ [0]) ∧ g1 ≠ g2 ∧ g1 ≠ pd ∧ g2 ≠ pd ∧ Box wx pd 96 #[.slice (some ⟨g1, 0, none⟩) (k + 1) c1, .slice (some ⟨g2, 0, none⟩) (k + 1) c2, .int .i64 p]
  res : Box wx w.heap.size 96 #[.slice none 0 0, .slice none 0 0, .int .i64 0]
  bel : Below w.heap.size w wx
theorem own_set {W : World} {base g n cap pd j : Nat} {ys : List Int} {v : Value} (h : OwnC W base g n cap ys) (hne : g ≠ pd) : OwnC (W.setCell ⟨pd, j, none⟩ v) base g n cap ys := ownsRow_setCell_other h (by simp [Value.ownBlock]; exact hne) _
theorem beg_fin {w X v1 v2 : World} {pd k : Nat} {p : Int} {zs us : List Int} {a b : Value} {g1 c1 g2 c2 : Nat} (hbw : Below w.heap.size w X) (hbx : Box X pd 96 #[a, b, .int .i64 p]) (hr : Box X w.heap.size 96 #[.slice none 0 0, .slice none 0 0, .int .i64 0]) (hpd : w.heap.size < pd)
    (hb1 : Below X.heap.size X v1) (o1 : OwnC v1 X.heap.size g1 (k + 1) c1 (zs ++ [0])) (hb2 : Below v1.heap.size v1 v2) (o2 : OwnC v2 v1.heap.size g2 (k + 1) c2 (us ++ [0])) :
    BegCut w pd k p zs us ((v2.setCell ⟨pd, 0, none⟩ (.slice (some ⟨g1, 0, none⟩) (k + 1) c1)).setCell ⟨pd, 1, none⟩ (.slice (some ⟨g2, 0, none⟩) (k + 1) c2)) := by
  have l1 := o1.base
  have l2 := o2.base
  have lp := hbx.lt
  have s1 := hb1.size
  have s0 := hbw.size
  have n1 : g1 ≠ pd := by omega
  have n2 : g2 ≠ pd := by omega
  have hB := bt hb1 hb2
  refine ⟨⟨g1, c1, g2, c2, owns_base (own_set (own_set (owns_later o1 hb2) n1) n1) s0, owns_base (own_set (own_set o2 n2) n2) (by omega), by omega, n1, n2, ?_⟩, ?_, ?_⟩
  · exact ((hbx.later hB lp).set 0 _).set 1 _
  · exact ((hr.later hB hr.lt).other ⟨pd, 0, none⟩ _ (by show w.heap.size ≠ pd; omega)).other ⟨pd, 1, none⟩ _ (by show w.heap.size ≠ pd; omega)
  · exact ((bt hbw hB).setCell (p := ⟨pd, 0, none⟩) (by show w.heap.size ≤ pd; omega) _).setCell (p := ⟨pd, 1, none⟩) (by show w.heap.size ≤ pd; omega) _

set_option maxHeartbeats 1600000 in
set_option maxRecDepth 100000 in
theorem begin_any (a : Option Addr) (n cap : Nat) (xs : List Int) (b : Option Addr) (m cap' : Nat) (ys : List Int) (w : World) (h : Reads w w.heap.size a (n + 1) cap xs) (g : Reads w w.heap.size b (m + 1) cap' ys) (hn : n ≤ 2048) (hm : m ≤ 2048) (tx : Trimmed xs) (ty : Trimmed ys) :
    Calls Tryz.prog 71 #[.slice a (n + 1) cap, .slice b (m + 1) cap'] w fun e w' => ∃ (g1 g2 N c1 c2 : Nat) (R B : List Int) (i j : Nat), e = .returned (.agg #[.slice (some ⟨g1, 0, none⟩) N c1, .slice (some ⟨g2, 0, none⟩) N c2, .int .i64 ((j : Int) - (i : Int))]) ∧ OwnC w' w.heap.size g1 N c1 R ∧ OwnC w' w.heap.size g2 N c2 B ∧ Wd R ∧ Wd B ∧ g1 ≠ g2 ∧ N ≤ 2050 ∧ i ≤ 65601 ∧ j ≤ 65600 ∧ val R = val xs * 2 ^ i ∧ val B = val ys * 2 ^ j ∧ val B ≤ val R ∧ val R < 2 * val B ∧ 2 * val B < 4294967296 ^ N ∧ Below w.heap.size w w' := by
  obtain ⟨X0, hX0⟩ : ∃ X0, w.alloc (.cells #[.slice none 0 0, .slice none 0 0, .int .i64 0] 96) = X0 := ⟨_, rfl⟩
  have hb0 : Below w.heap.size w X0 := by rw [← hX0]; exact alloc_later _ _
  have HB0 := hid hb0
  have HR0 : Hid (Box X0 w.heap.size 96 #[.slice none 0 0, .slice none 0 0, .int .i64 0]) := by rw [← hX0]; exact Box.made w _ _
  have HX := hid h
  have HY := hid g
  have sx : sz xs = n + 1 := by rw [tx]; exact h.1
  have sy : sz ys = m + 1 := by rw [ty]; exact g.1
  obtain ⟨a1, a2, a3, a4, a5⟩ := bits_bounds h.2.1 (by omega)
  obtain ⟨b1, b2, b3, b4, b5⟩ := bits_bounds g.2.1 (by omega)
  have HLX := hid (rlength_any a n cap xs X0 (h.later hb0 hb0.size) (by omega) tx)
  have HLY := hid (rlength_any b m cap' ys X0 (g.later hb0 hb0.size) (by omega) ty)
  have HSX : Hid (∀ V, Below w.heap.size w V → Calls Tryz.prog 65 #[.slice a (n + 1) cap, .int .i64 ((bitsOf ys - bitsOf xs : Nat) : Int)] V fun e w' => ∃ ys' : List Int, e = .returned (.slice (some ⟨V.heap.size, 0, none⟩) ys'.length ys'.length) ∧ OwnW w' V.heap.size V.heap.size ys'.length ys' ∧ Wd ys' ∧ Trimmed ys' ∧ val ys' = val xs * 2 ^ (bitsOf ys - bitsOf xs) ∧ Below V.heap.size V w') := fun V hv => rshifted_s a n cap xs _ V (h.later hv hv.size) (by omega) tx (by omega)
  have HSY : Hid (∀ V, Below w.heap.size w V → Calls Tryz.prog 65 #[.slice b (m + 1) cap', .int .i64 ((bitsOf xs - bitsOf ys : Nat) : Int)] V fun e w' => ∃ ys' : List Int, e = .returned (.slice (some ⟨V.heap.size, 0, none⟩) ys'.length ys'.length) ∧ OwnW w' V.heap.size V.heap.size ys'.length ys' ∧ Wd ys' ∧ Trimmed ys' ∧ val ys' = val ys * 2 ^ (bitsOf xs - bitsOf ys) ∧ Below V.heap.size V w') := fun V hv => rshifted_s b m cap' ys _ V (g.later hv hv.size) (by omega) ty (by omega)
  have HBV := hid (fun zs us => begin_vals (zs := zs) (us := us) h.2.1 (by omega) g.2.1 (by omega))
  have lx : bitsOf xs ≤ 65600 := by omega
  have ly : bitsOf ys ≤ 65600 := by omega
  have hl1 : (bitsOf ys - bitsOf xs : Nat) ≤ 65600 := by omega
  have hl2 : (bitsOf xs - bitsOf ys : Nat) ≤ 65600 := by omega
  obtain ⟨p, hp⟩ : ∃ p, (bitsOf xs : Int) - (bitsOf ys : Int) = p := ⟨_, rfl⟩
  have HPP := hid hp
  have m1 : ∀ (ts : Array TypeId) (t : TypeId) (P : Program) (W : World), (Builtin.max_ ts t #[.int .i64 0, .int .i64 (-p)]).run P W = .ok (.int .i64 ((bitsOf ys - bitsOf xs : Nat) : Int)) W := fun ts t P W => by
    rw [run_max_int2]; split <;> (congr 2; omega)
  have m2 : ∀ (ts : Array TypeId) (t : TypeId) (P : Program) (W : World), (Builtin.max_ ts t #[.int .i64 0, .int .i64 p]).run P W = .ok (.int .i64 ((bitsOf xs - bitsOf ys : Nat) : Int)) W := fun ts t P W => by
    rw [run_max_int2]; split <;> (congr 2; omega)
  have HP : Hid (p = ((bitsOf xs - bitsOf ys : Nat) : Int) - ((bitsOf ys - bitsOf xs : Nat) : Int)) := by show _ = _; omega
  have p0 : -65600 ≤ p := by omega
  have p1 : p ≤ 65600 := by omega
  generalize bitsOf ys - bitsOf xs = s1 at *
  generalize bitsOf xs - bitsOf ys = s2 at *
  generalize bitsOf xs = Lx at *
  generalize bitsOf ys = Ly at *
  clear HPP a1 a2 a3 a4 a5 b1 b2 b3 b4 b5 h g sx sy tx ty hb0
  go_enter Tryz.func71, Tryz.ntmps71
  go_wp2_with fail
  refine Calls.mono HLX.out ?_
  rintro e w1 ⟨rfl, rfl⟩
  go_wp2_with fail
  refine Calls.mono HLY.out ?_
  rintro e w1 ⟨rfl, rfl⟩
  clear HLX HLY
  have HS1 := hid (HSX.out _ HB0.out)
  go_wp2_with fail
  refine Calls.mono HS1.out ?_
  rintro e w2 ⟨zs, rfl, oz, wz, tz, vz, bz⟩
  have HBZ := hid (bt HB0.out bz)
  have HS2 := hid (HSY.out _ HBZ.out)
  go_wp2_with fail
  refine Calls.mono HS2.out ?_
  rintro e w3 ⟨us, rfl, ou, wu, tu, vu, bu⟩
  clear HS1 HS2 HSX HSY
  obtain ⟨q1, q2, q3, q4, q5, q6, q7⟩ := HBV.out zs us wz tz wu tu vz vu
  rw [q1] at ou ⊢
  have hk : zs.length ≤ 2049 := by
    have e1 := HX.out.1
    have e2 := HY.out.1
    have e3 := sz_le xs
    have e4 := sz_le ys
    omega
  have HQ := hid (And.intro q4 (And.intro q5 (And.intro q6 q7)))
  clear HBV q1 q3 q4 q5 q6 q7 tz tu
  obtain ⟨k, hkk⟩ : ∃ k, zs.length = k := ⟨_, rfl⟩
  rw [hkk] at oz ou hk q2 HQ ⊢
  have HKK := hid hkk
  obtain ⟨X, hX⟩ : ∃ X, w3.alloc (.cells #[.slice (some ⟨w1.heap.size, 0, none⟩) k k, .slice (some ⟨w2.heap.size, 0, none⟩) k k, .int .i64 p] 96) = X := ⟨_, rfl⟩
  have bX : Below w3.heap.size w3 X := by rw [← hX]; exact alloc_later _ _
  have HBX : Hid (Box X w3.heap.size 96 #[.slice (some ⟨w1.heap.size, 0, none⟩) k k, .slice (some ⟨w2.heap.size, 0, none⟩) k k, .int .i64 p]) := by rw [← hX]; exact Box.made w3 _ _
  have HOZ : Hid (∀ V, Below X.heap.size X V → OwnC V w1.heap.size w1.heap.size k k zs) := fun V hv => owns_later (owns_later (owns_later oz bu) bX) hv
  have HOU : Hid (∀ V, Below X.heap.size X V → OwnC V w2.heap.size w2.heap.size k k us) := fun V hv => owns_later (owns_later ou bX) hv
  have HC : Hid (∀ V, Below X.heap.size X V → V.cell? ⟨w3.heap.size, 0, none⟩ = some (.slice (some ⟨w1.heap.size, 0, none⟩) k k) ∧ V.cell? ⟨w3.heap.size, 1, none⟩ = some (.slice (some ⟨w2.heap.size, 0, none⟩) k k) ∧ V.frozen? ⟨w3.heap.size, 0, none⟩ = false ∧ V.frozen? ⟨w3.heap.size, 1, none⟩ = false) := fun V hv => by
    have h := HBX.out.later hv HBX.out.lt
    exact ⟨h.cell 0, h.cell 1, h.free 0, h.free 1⟩
  obtain ⟨c0, c1, f0, f1⟩ := HC.out X (Below.refl _ _)
  have l0 : w3.heap.size < X.heap.size := HBX.out.lt
  have l0' := Nat.ne_of_lt l0
  have HBW := hid (bt HBZ.out (bt bu bX))
  have h12 : w1.heap.size < w2.heap.size := (OwnC.base (owns_later oz (Below.refl _ _))).2
  have h23 : w2.heap.size < w3.heap.size := (OwnC.base (owns_later ou (Below.refl _ _))).2
  have h01 : w.heap.size < w1.heap.size := HR0.out.lt
  have HR1 := hid (HR0.out.later (bt bz (bt bu bX)) HR0.out.lt)
  clear oz ou bz bu bX HB0 HR0 hX0 HBZ hkk
  go_upto_region 3 with fail
  clear hX
  go_cut [31] from 23 (fun s wx => Hid (BegCut w w3.heap.size k p zs us wx))
  case first =>
    go_region_law (first
      | (refine step_grow1 X ?_ rfl (.tmp 24) (.tmp 25) rfl w1.heap.size k w1.heap.size zs rfl (HOZ.out _ ?_) _ rfl ?_ (by omega) ?_
         · repeat' first | exact Below.refl _ _ | refine below_alloc1 ?_ _ | refine Below.drew ?_
         · repeat' first | exact Below.refl _ _ | refine below_alloc1 ?_ _ | refine Below.drew ?_
         · first | exact cell_made1 _ _ | exact cell_made2 _ _ _ | exact cell_made3 _ _ _
         intro g1' c1' v1 o1 hb1 b1
         obtain ⟨c0', c1'', f0', f1'⟩ := HC.out v1 hb1
         have n1 : w3.heap.size < v1.heap.size := Nat.lt_of_lt_of_le l0 hb1.size
         have n1' := Nat.ne_of_lt n1)
      | (refine step_grow1 v1 ?_ rfl (.tmp 28) (.tmp 29) rfl w2.heap.size k w2.heap.size us rfl (HOU.out _ ?_) _ rfl ?_ (by omega) ?_
         · repeat' first | exact Below.refl _ _ | refine below_alloc1 ?_ _ | refine Below.drew ?_
         · repeat' first | exact hb1 | refine below_alloc1 ?_ _ | refine Below.drew ?_
         · first | exact cell_made1 _ _ | exact cell_kept2 b1 | exact cell_kept3 b1
         intro g2' c2' v2 o2 hb2 b2
         obtain ⟨d0', d1', e0', e1'⟩ := HC.out v2 (bt hb1 hb2)
         have n2 : w3.heap.size < v2.heap.size := Nat.lt_of_lt_of_le n1 hb2.size
         have n2' := Nat.ne_of_lt n2))
    all_goals
      go_wp2_with fail
      go_meet
      case rel => exact beg_fin HBW.out HBX.out HR1.out (Nat.lt_trans h01 (Nat.lt_trans h12 h23)) hb1 o1 hb2 o2
  case rest =>
    obtain ⟨g1, c1', g2, c2', o1, o2, hne, n1, n2, hbx⟩ := hcut.out.rows
    have HRES := hid hcut.out.res
    have HBEL := hid hcut.out.bel
    have hpd : w.heap.size < w3.heap.size := Nat.lt_trans h01 (Nat.lt_trans h12 h23)
    clear hcut HOZ HOU HC c0 c1 f0 f1 l0 l0' HBW h12 h23 h01 HR1 HBX m1 m2 hp lx ly
    generalize w3.heap.size = pd at *
    have r1 : g1 ≠ w.heap.size := own_ne_box o1 HRES.out (by decide) g1 rfl
    have r2 : g2 ≠ w.heap.size := own_ne_box o2 HRES.out (by decide) g2 rfl
    have vz0 : val (zs ++ [0]) = val zs := val_end0 zs
    have vu0 : val (us ++ [0]) = val us := val_end0 us
    have wz0 : Wd (zs ++ [0]) := wz.append (Wd.one (by omega))
    have wu0 : Wd (us ++ [0]) := wu.append (Wd.one (by omega))
    have HCM := hid (rcompare_any (some ⟨g1, 0, none⟩) (k + 1) c1' (zs ++ [0]) (some ⟨g2, 0, none⟩) c2' (us ++ [0]) wc (readsC o1 wz0) (readsC o2 wu0) (by omega))
    rw [vz0, vu0] at HCM
    have HBX := hid hbx
    have HO1 := hid o1
    have HO2 := hid o2
    have HV := hid (And.intro vz vu)
    have HW0 := hid (And.intro wz0 wu0)
    have HV0 := hid (And.intro vz0 vu0)
    have d0 : wc.cell? ⟨pd, 0, none⟩ = some (.slice (some ⟨g1, 0, none⟩) (k + 1) c1') := hbx.cell 0
    have d1 : wc.cell? ⟨pd, 1, none⟩ = some (.slice (some ⟨g2, 0, none⟩) (k + 1) c2') := hbx.cell 1
    clear o1 o2 hbx wz wu wz0 wu0 vz vu vz0 vu0
    have hRb : w.heap.size < wc.heap.size := HRES.out.lt
    have hPb : pd < wc.heap.size := HBX.out.lt
    by_cases hlt : val zs < val us
    · have hc : cmpI (val zs) (val us) = -1 := cmpI_lt hlt
      rw [hc] at HCM
      have HLT := hid hlt
      clear hc hlt
      go_wp2_with fail
      refine Calls.mono HCM.out ?_
      rintro e w4 ⟨rfl, b4⟩
      have HB4 := hid b4
      have HX4 := hid (HBX.out.later b4 hPb)
      have HR4 := hid (HRES.out.later b4 hRb)
      have HO4 := hid (owns_later HO1.out b4 : OwnC w4 w.heap.size g1 (k + 1) c1' (zs ++ [0]))
      have HU4 := hid (owns_later HO2.out b4 : OwnC w4 w.heap.size g2 (k + 1) c2' (us ++ [0]))
      have HD := hid (rdouble_any w.heap.size g1 (k + 1) c1' (zs ++ [0]) w4 HO4.out HW0.out.1 (by omega))
      have d0' : w4.cell? ⟨pd, 0, none⟩ = some (.slice (some ⟨g1, 0, none⟩) (k + 1) c1') := HX4.out.cell 0
      clear HCM d0 d1 b4
      go_wp2_with fail
      refine Calls.mono HD.out ?_
      rintro e w5 ⟨rs, c, rfl, z1, z2, z3, z4, z5, z6⟩
      have HX5 := hid (HX4.out.keptBy z6 (Ne.symm n1))
      have HR5 := hid (HR4.out.keptBy z6 (Ne.symm r1))
      have HU5 := hid (OwnC.keptBy HU4.out z6 (Ne.symm hne))
      have HZV : Hid (val rs = 2 * val zs) := by
        have e := dbl_room z2 z1.len z4 z3 (by rw [HV0.out.1]; exact HQ.out.2.2.1)
        rw [HV0.out.1] at e
        exact e
      have hB5 : Below w.heap.size w w5 := (bt HBEL.out HB4.out).grown z6 (by have := HBEL.out.size; have := HB4.out.size; omega) (fun q hq => by cases hq; exact (OwnC.base HO4.out).1)
      have HB5 := hid hB5
      have HZ1 := hid z1
      have HZ2 := hid z2
      have p0' : w5.cell? ⟨pd, 0, none⟩ = some (.slice (some ⟨g1, 0, none⟩) (k + 1) c1') := HX5.out.cell 0
      have p1' : w5.cell? ⟨pd, 1, none⟩ = some (.slice (some ⟨g2, 0, none⟩) (k + 1) c2') := HX5.out.cell 1
      have p2' : w5.cell? ⟨pd, 2, none⟩ = some (.int .i64 p) := HX5.out.cell 2
      have q0' := HX5.out.free 2
      have q1' := HR5.out.free 0
      have q2' := HR5.out.free 1
      have q3' := HR5.out.free 2
      have t0' : w5.cell? ⟨w.heap.size, 0, none⟩ = some (.slice none 0 0) := HR5.out.cell 0
      have t1' : w5.cell? ⟨w.heap.size, 1, none⟩ = some (.slice none 0 0) := HR5.out.cell 1
      have t2' : w5.cell? ⟨w.heap.size, 2, none⟩ = some (.int .i64 0) := HR5.out.cell 2
      have hne' : w.heap.size ≠ pd := Nat.ne_of_lt hpd
      clear HD d0' z1 z2 z3 z4 z5 z6 hB5
      go_wp2_with fail
      have B1 := (((HR5.out.other ⟨pd, 2, none⟩ (.int .i64 (p - 1)) hne').set 0 (.slice (some ⟨g1, 0, none⟩) (k + 1) c1')).set 1 (.slice (some ⟨g2, 0, none⟩) (k + 1) c2')).set 2 (.int .i64 (p - 1))
      have hpj : p - 1 = (s2 : Int) - ((s1 + 1 : Nat) : Int) := by have := HP.out; omega
      refine bodyPost_ret (results_cell_row (by rfl) _ _ w.heap.size 96 _ (0, 0) _ (by rfl) B1 Tryz.underlying96 rfl (by kernel_rfl)) rfl ?_
      refine ⟨g1, g2, k + 1, c1', c2', rs, us ++ [0], s1 + 1, s2, by rw [← hpj]; rfl, own_set (own_set (own_set (own_set HZ1.out n1) r1) r1) r1, own_set (own_set (own_set (own_set HU5.out n2) r2) r2) r2, HZ2.out, HW0.out.2, hne, by omega, by omega, by omega, ?_, by rw [HV0.out.2]; exact HV.out.2, ?_, ?_, by rw [HV0.out.2]; exact HQ.out.2.2.2, ?_⟩
      · rw [HZV.out, HV.out.1, Int.pow_succ]; exact dbl_pow _ _
      · rw [HZV.out, HV0.out.2]; have := HQ.out.2.1; omega
      · rw [HZV.out, HV0.out.2]; have := HLT.out; omega
      · exact (((HB5.out.setCell (p := ⟨pd, 2, none⟩) (by show w.heap.size ≤ pd; omega) _).setCell (p := ⟨w.heap.size, 0, none⟩) (Nat.le_refl _) _).setCell (p := ⟨w.heap.size, 1, none⟩) (Nat.le_refl _) _).setCell (p := ⟨w.heap.size, 2, none⟩) (Nat.le_refl _) _
    · have hc : 0 ≤ cmpI (val zs) (val us) := by unfold cmpI; rw [if_neg hlt]; split <;> omega
      obtain ⟨cc, hcc⟩ : ∃ cc, cmpI (val zs) (val us) = cc := ⟨_, rfl⟩
      rw [hcc] at HCM hc
      have HLT := hid hlt
      clear hcc hlt
      go_wp2_with fail
      refine Calls.mono HCM.out ?_
      rintro e w4 ⟨rfl, b4⟩
      have HX4 := hid (HBX.out.later b4 hPb)
      have HR4 := hid (HRES.out.later b4 hRb)
      have HO4 := hid (owns_later HO1.out b4 : OwnC w4 w.heap.size g1 (k + 1) c1' (zs ++ [0]))
      have HU4 := hid (owns_later HO2.out b4 : OwnC w4 w.heap.size g2 (k + 1) c2' (us ++ [0]))
      have HB5 := hid (bt HBEL.out b4)
      have p0' : w4.cell? ⟨pd, 0, none⟩ = some (.slice (some ⟨g1, 0, none⟩) (k + 1) c1') := HX4.out.cell 0
      have p1' : w4.cell? ⟨pd, 1, none⟩ = some (.slice (some ⟨g2, 0, none⟩) (k + 1) c2') := HX4.out.cell 1
      have p2' : w4.cell? ⟨pd, 2, none⟩ = some (.int .i64 p) := HX4.out.cell 2
      have q1' := HR4.out.free 0
      have q2' := HR4.out.free 1
      have q3' := HR4.out.free 2
      have t0' : w4.cell? ⟨w.heap.size, 0, none⟩ = some (.slice none 0 0) := HR4.out.cell 0
      have t1' : w4.cell? ⟨w.heap.size, 1, none⟩ = some (.slice none 0 0) := HR4.out.cell 1
      have t2' : w4.cell? ⟨w.heap.size, 2, none⟩ = some (.int .i64 0) := HR4.out.cell 2
      have hne' : w.heap.size ≠ pd := Nat.ne_of_lt hpd
      clear HCM d0 d1 b4
      go_wp2_with fail
      have B1 := ((HR4.out.set 0 (.slice (some ⟨g1, 0, none⟩) (k + 1) c1')).set 1 (.slice (some ⟨g2, 0, none⟩) (k + 1) c2')).set 2 (.int .i64 p)
      have hpj : p = (s2 : Int) - (s1 : Int) := HP.out
      refine bodyPost_ret (results_cell_row (by rfl) _ _ w.heap.size 96 _ (0, 0) _ (by rfl) B1 Tryz.underlying96 rfl (by kernel_rfl)) rfl ?_
      refine ⟨g1, g2, k + 1, c1', c2', zs ++ [0], us ++ [0], s1, s2, by rw [← hpj]; rfl, own_set (own_set (own_set HO4.out r1) r1) r1, own_set (own_set (own_set HU4.out r2) r2) r2, HW0.out.1, HW0.out.2, hne, by omega, by omega, by omega, by rw [HV0.out.1]; exact HV.out.1, by rw [HV0.out.2]; exact HV.out.2, ?_, ?_, by rw [HV0.out.2]; exact HQ.out.2.2.2, ?_⟩
      · rw [HV0.out.1, HV0.out.2]; have := HLT.out; omega
      · rw [HV0.out.1, HV0.out.2]; exact HQ.out.1
      · exact ((HB5.out.setCell (p := ⟨w.heap.size, 0, none⟩) (Nat.le_refl _) _).setCell (p := ⟨w.heap.size, 1, none⟩) (Nat.le_refl _) _).setCell (p := ⟨w.heap.size, 2, none⟩) (Nat.le_refl _) _

end Go.Proofs.YtabkgpnckaaclaaGreatDoor

/- real.putTogether: the float of a count and a unit. -/
namespace Go.Proofs.YtabkgpnckaaclaaGreatDoor
open Go.RowKit
set_option linter.unusedVariables false

set_option maxHeartbeats 800000 in
set_option maxRecDepth 100000 in
theorem putTogether_any (s : Bool) (m E : Nat) (u : Int) (w : World) (hu : u = (E : Int) - 1074) (hE : E ≤ 2047) (hm : m ≤ 9007199254740992) :
    Calls Tryz.prog 75 #[.agg #[.bool s, .int .u64 (m : Int), .int .i64 u]] w fun e w' => e = .returned (.float .f64 (E * 4503599627370496 + m)) ∧ Below w.heap.size w w' := by
  subst hu
  have HF := from_run (E * 4503599627370496 + m)
  have h1 : (E : Int) - 1074 - -1074 = (E : Int) := by omega
  have h2 : ((E * 4503599627370496 + m : Nat) : Int) = (E : Int) * 4503599627370496 + (m : Int) := by omega
  rw [h2] at HF
  have hE2 : (E : Int) ≤ 2047 := by omega
  have hm2 : (m : Int) ≤ 9007199254740992 := by omega
  clear h2 hE hm
  go_enter Tryz.func75, Tryz.ntmps75
  go_wp2_with fail
  go_ret
  exact ⟨rfl, alloc_later _ _⟩

end Go.Proofs.YtabkgpnckaaclaaGreatDoor

/- Rounding to the nearest float: where the rung that is told stands to the number. Nothing here speaks of the program. -/
namespace Go.Proofs.YtabkgpnckaaclaaGreatDoor

theorem dbl_frac : Ieee.double.fractionBits = 52 := rfl

/-- Half-even of n / 2^k: twice the error is at most a unit. -/
theorem cut_even (neg : Bool) (n k : Nat) (hn : n ≠ 0) :
    2 * n ≤ (2 * Ieee.Toward.even.cut neg n k + 1) * 2 ^ k ∧ (2 * Ieee.Toward.even.cut neg n k) * 2 ^ k ≤ 2 * n + 2 ^ k ∧
    (2 * n = (2 * Ieee.Toward.even.cut neg n k + 1) * 2 ^ k → Ieee.Toward.even.cut neg n k % 2 = 0) ∧ ((2 * Ieee.Toward.even.cut neg n k) * 2 ^ k = 2 * n + 2 ^ k → Ieee.Toward.even.cut neg n k % 2 = 0) := by
  unfold Ieee.Toward.cut
  simp only [Nat.shiftLeft_eq, Nat.one_mul]
  by_cases hk : k ≤ n.log2 + 2
  · rw [Nat.min_eq_left hk]
    have hp : 0 < 2 ^ k := Nat.two_pow_pos k
    generalize 2 ^ k = G at hp
    have hd := Nat.div_add_mod n G
    have hm := Nat.mod_lt n hp
    generalize n / G = q at hd
    generalize n % G = r at hd hm
    subst hd
    by_cases h1 : G < 2 * r
    · have e : (decide (G < 2 * r) || G == 2 * r && q % 2 == 1).toNat = 1 := by simp [h1]
      rw [e]
      have a1 : (2 * (q + 1) + 1) * G = 2 * (G * q) + 3 * G := by rw [Nat.add_mul, Nat.mul_comm (2 * (q + 1)), Nat.mul_add, Nat.mul_add, Nat.mul_left_comm]; omega
      have a2 : (2 * (q + 1)) * G = 2 * (G * q) + 2 * G := by rw [Nat.mul_comm (2 * (q + 1)), Nat.mul_add, Nat.mul_add, Nat.mul_left_comm]; omega
      rw [a1, a2]
      refine ⟨by omega, by omega, by omega, by omega⟩
    · by_cases h2 : G = 2 * r
      · by_cases h3 : q % 2 = 1
        · have e : (decide (G < 2 * r) || G == 2 * r && q % 2 == 1).toNat = 1 := by simp [h2, h3]
          rw [e]
          have a1 : (2 * (q + 1) + 1) * G = 2 * (G * q) + 3 * G := by rw [Nat.add_mul, Nat.mul_comm (2 * (q + 1)), Nat.mul_add, Nat.mul_add, Nat.mul_left_comm]; omega
          have a2 : (2 * (q + 1)) * G = 2 * (G * q) + 2 * G := by rw [Nat.mul_comm (2 * (q + 1)), Nat.mul_add, Nat.mul_add, Nat.mul_left_comm]; omega
          rw [a1, a2]
          refine ⟨by omega, by omega, by omega, by omega⟩
        · have e : (decide (G < 2 * r) || G == 2 * r && q % 2 == 1).toNat = 0 := by simp [h1, h3]
          rw [e]
          have a1 : (2 * (q + 0) + 1) * G = 2 * (G * q) + G := by rw [Nat.add_mul, Nat.mul_comm (2 * (q + 0)), Nat.add_zero, Nat.mul_left_comm]; omega
          have a2 : (2 * (q + 0)) * G = 2 * (G * q) := by rw [Nat.mul_comm (2 * (q + 0)), Nat.add_zero, Nat.mul_left_comm]
          rw [a1, a2]
          refine ⟨by omega, by omega, by omega, by omega⟩
      · have e : (decide (G < 2 * r) || G == 2 * r && q % 2 == 1).toNat = 0 := by simp [h1, h2]
        rw [e]
        have a1 : (2 * (q + 0) + 1) * G = 2 * (G * q) + G := by rw [Nat.add_mul, Nat.mul_comm (2 * (q + 0)), Nat.add_zero, Nat.mul_left_comm]; omega
        have a2 : (2 * (q + 0)) * G = 2 * (G * q) := by rw [Nat.mul_comm (2 * (q + 0)), Nat.add_zero, Nat.mul_left_comm]
        rw [a1, a2]
        refine ⟨by omega, by omega, by omega, by omega⟩
  · rw [Nat.min_eq_right (by omega)]
    have hl : n < 2 ^ (n.log2 + 1) := Nat.lt_log2_self
    have e2 : 2 ^ (n.log2 + 2) = 2 ^ (n.log2 + 1) * 2 := Nat.pow_succ ..
    have hle : 2 ^ (n.log2 + 2) ≤ 2 ^ k := Nat.pow_le_pow_right (by decide) (by omega)
    have hdiv : n / 2 ^ (n.log2 + 2) = 0 := Nat.div_eq_of_lt (by omega)
    have hmod : n % 2 ^ (n.log2 + 2) = n := Nat.mod_eq_of_lt (by omega)
    rw [hdiv, hmod]
    have e : (decide (2 ^ (n.log2 + 2) < 2 * n) || 2 ^ (n.log2 + 2) == 2 * n && 0 % 2 == 1).toNat = 0 := by
      have h1 : ¬ 2 ^ (n.log2 + 2) < 2 * n := by omega
      simp [h1]
    rw [e]
    simp only [Nat.add_zero, Nat.mul_zero, Nat.zero_mul, Nat.zero_add, Nat.one_mul]
    refine ⟨by omega, by omega, by omega, fun _ => trivial⟩

/-- The rung that nearest tells, of a number above 0, and what is known ahead of the least and the greatest. -/
theorem near_core (neg : Bool) (mag : Nat) (place : Int) (h0 : mag ≠ 0) :
    ∃ E kept, Ieee.double.nearest neg mag place = Ieee.double.word neg (min (E * 4503599627370496 + kept) 9218868437227405312) ∧ kept ≤ 9007199254740992 ∧ (0 < E → 4503599627370496 ≤ kept) ∧
      2 * (mag * 2 ^ (place + 1074).toNat) ≤ (2 * kept + 1) * 2 ^ E * 2 ^ (-(place + 1074)).toNat ∧
      (2 * kept) * 2 ^ E * 2 ^ (-(place + 1074)).toNat ≤ 2 * (mag * 2 ^ (place + 1074).toNat) + 2 ^ E * 2 ^ (-(place + 1074)).toNat ∧
      (0 < E → 4503599627370496 * 2 ^ E * 2 ^ (-(place + 1074)).toNat ≤ mag * 2 ^ (place + 1074).toNat) ∧
      (2 * (mag * 2 ^ (place + 1074).toNat) = (2 * kept + 1) * 2 ^ E * 2 ^ (-(place + 1074)).toNat → kept % 2 = 0) ∧
      ((2 * kept) * 2 ^ E * 2 ^ (-(place + 1074)).toNat = 2 * (mag * 2 ^ (place + 1074).toNat) + 2 ^ E * 2 ^ (-(place + 1074)).toNat → kept % 2 = 0) := by
  unfold Ieee.Format.nearest
  rw [if_neg h0]
  simp only [dbl_inf, dbl_binade, dbl_least, dbl_frac]
  generalize hL : mag.log2 = L
  have hlo : 2 ^ L ≤ mag := by rw [← hL]; exact Nat.log2_self_le h0
  have hhi : mag < 2 ^ (L + 1) := by rw [← hL]; exact Nat.lt_log2_self
  generalize hlast : max (place + (L : Int) - ((52 : Nat) : Int)) (-1074) = last
  have hle : -1074 ≤ last := by omega
  refine ⟨(last - -1074).toNat, _, rfl, ?_⟩
  obtain ⟨E, hE⟩ : ∃ E : Nat, last = -1074 + (E : Int) := ⟨(last + 1074).toNat, by omega⟩
  have eE : (last - -1074).toNat = E := by omega
  rw [eE]
  by_cases hd : last ≤ place
  · -- nothing is dropped
    obtain ⟨u, hu⟩ : ∃ u : Nat, place = last + (u : Int) := ⟨(place - last).toNat, by omega⟩
    have e1 : (place - last).toNat = u := by omega
    have e2 : (last - place).toNat = 0 := by omega
    have e3 : (place + 1074).toNat = E + u := by omega
    have e4 : (-(place + 1074)).toNat = 0 := by omega
    rw [e1, e2, e3, e4]
    have hk : Ieee.Toward.even.cut neg (mag <<< u) 0 = mag * 2 ^ u := by
      have hm : mag <<< u ≠ 0 := by rw [Nat.shiftLeft_eq]; exact Nat.mul_ne_zero h0 (Nat.ne_of_gt (Nat.two_pow_pos u))
      obtain ⟨c1, c2, _⟩ := cut_even neg (mag <<< u) 0 hm
      rw [Nat.shiftLeft_eq] at *
      simp only [Nat.pow_zero, Nat.mul_one] at c1 c2
      omega
    rw [hk]
    have hp : 2 ^ (E + u) = 2 ^ u * 2 ^ E := by rw [Nat.add_comm, Nat.pow_add]
    have hv : mag * 2 ^ (E + u) = mag * 2 ^ u * 2 ^ E := by rw [hp, Nat.mul_assoc]
    rw [hv]
    have hpE : 0 < 2 ^ E := Nat.two_pow_pos E
    have hub : mag * 2 ^ u ≤ 9007199254740992 := by
      have : L + u ≤ 52 := by omega
      have h1 : mag * 2 ^ u ≤ 2 ^ (L + 1) * 2 ^ u := Nat.mul_le_mul_right _ (Nat.le_of_lt hhi)
      have h2 : 2 ^ (L + 1) * 2 ^ u = 2 ^ (L + 1 + u) := (Nat.pow_add ..).symm
      have h3 : 2 ^ (L + 1 + u) ≤ 2 ^ 53 := Nat.pow_le_pow_right (by decide) (by omega)
      have h4 : (2 : Nat) ^ 53 = 9007199254740992 := by decide
      omega
    have hlb : 0 < E → 4503599627370496 ≤ mag * 2 ^ u := by
      intro hE0
      have h1 : 2 ^ L * 2 ^ u ≤ mag * 2 ^ u := Nat.mul_le_mul_right _ hlo
      have h2 : 2 ^ L * 2 ^ u = 2 ^ (L + u) := (Nat.pow_add ..).symm
      have h3 : L + u = 52 := by omega
      have h4 : (2 : Nat) ^ 52 = 4503599627370496 := by decide
      rw [h3] at h2
      omega
    generalize mag * 2 ^ u = K at *
    generalize 2 ^ E = P at *
    simp only [Nat.pow_zero, Nat.mul_one]
    have a1 : 2 * (K * P) = 2 * K * P := (Nat.mul_assoc ..).symm
    have a2 : (2 * K + 1) * P = 2 * K * P + P := by rw [Nat.add_mul, Nat.one_mul]
    rw [a1, a2]
    refine ⟨hub, hlb, by omega, by omega, fun h => Nat.mul_le_mul_right _ (hlb h), fun h => ?_, fun h => ?_⟩
    · omega
    · omega
  · -- some bits are dropped
    obtain ⟨k, hk⟩ : ∃ k : Nat, last = place + (k : Int) := ⟨(last - place).toNat, by omega⟩
    have e1 : (place - last).toNat = 0 := by omega
    have e2 : (last - place).toNat = k := by omega
    rw [e1, e2, Nat.shiftLeft_zero]
    obtain ⟨c1, c2, c3, c4⟩ := cut_even neg mag k h0
    generalize hK : Ieee.Toward.even.cut neg mag k = K at *
    -- the place's part
    have key : 2 ^ k * 2 ^ (place + 1074).toNat = 2 ^ E * 2 ^ (-(place + 1074)).toNat := by
      rw [← Nat.pow_add, ← Nat.pow_add]
      congr 1
      omega
    generalize hA : 2 ^ (place + 1074).toNat = A at *
    generalize hB : 2 ^ (-(place + 1074)).toNat = B at *
    have hA0 : 0 < A := by rw [← hA]; exact Nat.two_pow_pos _
    have hkp : 0 < 2 ^ k := Nat.two_pow_pos k
    have m1 : (2 * K + 1) * 2 ^ E * B = (2 * K + 1) * 2 ^ k * A := by rw [Nat.mul_assoc (2 * K + 1) (2 ^ E) B, ← key, Nat.mul_assoc (2 * K + 1) (2 ^ k) A]
    have m2 : (2 * K) * 2 ^ E * B = (2 * K) * 2 ^ k * A := by rw [Nat.mul_assoc (2 * K) (2 ^ E) B, ← key, Nat.mul_assoc (2 * K) (2 ^ k) A]
    have m3 : 2 ^ E * B = 2 ^ k * A := key.symm
    have m4 : 2 * (mag * A) = 2 * mag * A := (Nat.mul_assoc ..).symm
    rw [m1, m2, m3, m4]
    have m5 : 2 * mag * A + 2 ^ k * A = (2 * mag + 2 ^ k) * A := (Nat.add_mul ..).symm
    rw [m5]
    have b52 : (2 : Nat) ^ 52 = 4503599627370496 := by decide
    have b53 : (2 : Nat) ^ 53 = 9007199254740992 := by decide
    refine ⟨?_, ?_, Nat.mul_le_mul_right _ c1, Nat.mul_le_mul_right _ c2, ?_, fun h => c3 (Nat.eq_of_mul_eq_mul_right hA0 h), fun h => c4 (Nat.eq_of_mul_eq_mul_right hA0 h)⟩
    · -- the count is at most 2^53
      have hlk : L ≤ 52 + k := by omega
      have h1 : mag < 9007199254740992 * 2 ^ k := by
        have h2 : 2 ^ (L + 1) ≤ 2 ^ (53 + k) := Nat.pow_le_pow_right (by decide) (by omega)
        rw [Nat.pow_add 2 53 k, b53] at h2
        omega
      have h3 : 2 * K * 2 ^ k < (2 * 9007199254740992 + 1) * 2 ^ k := by
        have : 2 * mag + 2 ^ k < 2 * (9007199254740992 * 2 ^ k) + 2 ^ k := by omega
        have e : (2 * 9007199254740992 + 1) * 2 ^ k = 2 * (9007199254740992 * 2 ^ k) + 2 ^ k := by rw [Nat.add_mul, Nat.one_mul, Nat.mul_assoc]
        omega
      have := Nat.lt_of_mul_lt_mul_right h3
      omega
    · intro hE0
      have hlk : L = 52 + k := by omega
      have h1 : 4503599627370496 * 2 ^ k ≤ mag := by
        have h2 := hlo
        rw [hlk, Nat.pow_add, b52] at h2
        exact h2
      have h3 : 2 * 4503599627370496 * 2 ^ k ≤ (2 * K + 1) * 2 ^ k := by
        have e : 2 * 4503599627370496 * 2 ^ k = 2 * (4503599627370496 * 2 ^ k) := Nat.mul_assoc ..
        omega
      have := Nat.le_of_mul_le_mul_right h3 hkp
      omega
    · intro hE0
      have hlk : L = 52 + k := by omega
      have h1 : 4503599627370496 * 2 ^ k ≤ mag := by
        have h2 := hlo
        rw [hlk, Nat.pow_add, b52] at h2
        exact h2
      have e : 4503599627370496 * 2 ^ E * B = 4503599627370496 * 2 ^ k * A := by rw [Nat.mul_assoc, ← key, Nat.mul_assoc]
      rw [e]
      exact Nat.mul_le_mul_right _ h1

/-- The number at a rung that is told by a unit and a count. -/
theorem rungVal_count {E K : Nat} (hK : K ≤ 9007199254740992) (hE : 0 < E → 4503599627370496 ≤ K) : rungVal (E * 4503599627370496 + K) = K * 2 ^ E := by
  unfold rungVal
  by_cases h0 : E = 0 ∧ K < 4503599627370496
  · obtain ⟨rfl, h⟩ := h0
    rw [if_pos (by omega)]
    simp
  · have hK2 : 4503599627370496 ≤ K := by
      by_cases hz : 0 < E
      · exact hE hz
      · omega
    rw [if_neg (by omega)]
    by_cases h53 : K = 9007199254740992
    · subst h53
      have e1 : (E * 4503599627370496 + 9007199254740992) % 4503599627370496 = 0 := by omega
      have e2 : (E * 4503599627370496 + 9007199254740992) / 4503599627370496 - 1 = E + 1 := by omega
      rw [e1, e2, Nat.pow_succ]
      omega
    · have e1 : (E * 4503599627370496 + K) % 4503599627370496 = K - 4503599627370496 := by omega
      have e2 : (E * 4503599627370496 + K) / 4503599627370496 - 1 = E := by omega
      rw [e1, e2, show 4503599627370496 + (K - 4503599627370496) = K by omega]

theorem rungVal_step {E K : Nat} (hK : K ≤ 9007199254740992) (hE : 0 < E → 4503599627370496 ≤ K) : K * 2 ^ E + 2 ^ E ≤ rungVal (E * 4503599627370496 + K + 1) := by
  by_cases h53 : K = 9007199254740992
  · subst h53
    have e0 : E * 4503599627370496 + 9007199254740992 + 1 = (E + 1) * 4503599627370496 + (4503599627370496 + 1) := by omega
    rw [e0, rungVal_count (by omega) (fun _ => by omega), Nat.pow_succ]
    have := Nat.two_pow_pos E
    omega
  · rw [Nat.add_assoc, rungVal_count (by omega) (fun h => by have := hE h; omega), Nat.add_mul, Nat.one_mul]
    exact Nat.le_refl _

end Go.Proofs.YtabkgpnckaaclaaGreatDoor

/- The nearest float is the only one: between the midpoints, the even one at a tie. Nothing here speaks of the program. -/
namespace Go.Proofs.YtabkgpnckaaclaaGreatDoor

/-- A rung is the nearest to A / D: it lies between the midpoints, and is even where it is at one. -/
structure Mid (A D s : Nat) : Prop where
  top : s ≤ 9218868437227405312
  up : s < 9218868437227405312 → 2 * A ≤ (rungVal s + rungVal (s + 1)) * D
  down : 1 ≤ s → (rungVal (s - 1) + rungVal s) * D ≤ 2 * A
  tieUp : s < 9218868437227405312 → 2 * A = (rungVal s + rungVal (s + 1)) * D → s % 2 = 0
  tieDown : 1 ≤ s → (rungVal (s - 1) + rungVal s) * D = 2 * A → s % 2 = 0

theorem Mid.lt_no {A D s t : Nat} (hD : 0 < D) (h : Mid A D s) (g : Mid A D t) : ¬ s < t := by
  intro hlt
  have h1 := h.up (by have := g.top; omega)
  have g1 := g.down (by omega)
  by_cases c : s + 1 = t
  · subst c
    have e : s + 1 - 1 = s := by omega
    rw [e] at g1
    have e2 : 2 * A = (rungVal s + rungVal (s + 1)) * D := by omega
    have p1 := h.tieUp (by have := g.top; omega) e2
    have p2 := g.tieDown (by omega) (by rw [e]; exact e2.symm)
    omega
  · have v1 : rungVal s < rungVal (t - 1) := rungVal_lt (by omega)
    have v2 : rungVal (s + 1) < rungVal t := rungVal_lt (by omega)
    have : (rungVal s + rungVal (s + 1)) * D < (rungVal (t - 1) + rungVal t) * D := Nat.mul_lt_mul_of_pos_right (by omega) hD
    omega
theorem Mid.unique {A D s t : Nat} (hD : 0 < D) (h : Mid A D s) (g : Mid A D t) : s = t := by
  have h1 := h.lt_no hD g
  have h2 := g.lt_no hD h
  omega
/-- It hangs on the number alone. -/
theorem Mid.scale {A D s : Nat} (k : Nat) (hk : 0 < k) (h : Mid A D s) : Mid (A * k) (D * k) s where
  top := h.top
  up hs := by have := Nat.mul_le_mul_right k (h.up hs); rw [Nat.mul_assoc 2, Nat.mul_assoc] at this; exact this
  down hs := by have := Nat.mul_le_mul_right k (h.down hs); rw [Nat.mul_assoc 2, Nat.mul_assoc] at this; exact this
  tieUp hs e := h.tieUp hs (by rw [← Nat.mul_assoc, ← Nat.mul_assoc] at e; exact Nat.eq_of_mul_eq_mul_right hk e)
  tieDown hs e := h.tieDown hs (by rw [← Nat.mul_assoc, ← Nat.mul_assoc] at e; exact Nat.eq_of_mul_eq_mul_right hk e)
theorem Mid.back {A D s : Nat} (k : Nat) (hk : 0 < k) (h : Mid (A * k) (D * k) s) : Mid A D s where
  top := h.top
  up hs := by have := h.up hs; rw [← Nat.mul_assoc, ← Nat.mul_assoc] at this; exact Nat.le_of_mul_le_mul_right this hk
  down hs := by have := h.down hs; rw [← Nat.mul_assoc, ← Nat.mul_assoc] at this; exact Nat.le_of_mul_le_mul_right this hk
  tieUp hs e := h.tieUp hs (by rw [← Nat.mul_assoc, ← Nat.mul_assoc, e])
  tieDown hs e := h.tieDown hs (by rw [← Nat.mul_assoc, ← Nat.mul_assoc, e])

theorem min_low {a b : Nat} (h : min a b < b) : min a b = a := by omega
theorem mod_even (E K : Nat) (h : K % 2 = 0) : (E * 4503599627370496 + K) % 2 = 0 := by omega
/-- A unit and a count that are the number, rounded to a whole count: the rung is the nearest. -/
theorem mid_of_count {A D E K : Nat} (hD : 0 < D) (hK : K ≤ 9007199254740992) (hE : 0 < E → 4503599627370496 ≤ K)
    (b1 : 2 * A ≤ (2 * K + 1) * 2 ^ E * D) (b2 : (2 * K) * 2 ^ E * D ≤ 2 * A + 2 ^ E * D) (b3 : 0 < E → 4503599627370496 * 2 ^ E * D ≤ A)
    (t1 : 2 * A = (2 * K + 1) * 2 ^ E * D → K % 2 = 0) (t2 : (2 * K) * 2 ^ E * D = 2 * A + 2 ^ E * D → K % 2 = 0) :
    Mid A D (min (E * 4503599627370496 + K) 9218868437227405312) := by
  have hP := Nat.two_pow_pos E
  have hv := rungVal_count hK hE
  have hst := rungVal_step hK hE
  -- below: of the rung ahead of the cut
  have low : 1 ≤ E * 4503599627370496 + K → (rungVal (E * 4503599627370496 + K - 1) + rungVal (E * 4503599627370496 + K)) * D ≤ 2 * A ∧ ((rungVal (E * 4503599627370496 + K - 1) + rungVal (E * 4503599627370496 + K)) * D = 2 * A → K % 2 = 0) := by
    intro hs
    by_cases hc : 0 < E ∧ K = 4503599627370496
    · have k3 := b3 hc.1
      have hl : rungVal (E * 4503599627370496 + K - 1) < rungVal (E * 4503599627370496 + K) := rungVal_lt (by omega)
      rw [hv] at hl ⊢
      generalize rungVal (E * 4503599627370496 + K - 1) = V0 at *
      clear hv hst
      rw [hc.2] at hl ⊢
      have m1 : (V0 + 4503599627370496 * 2 ^ E) * D < (2 * (4503599627370496 * 2 ^ E)) * D := Nat.mul_lt_mul_of_pos_right (by omega) hD
      rw [Nat.mul_assoc 2] at m1
      exact ⟨by omega, fun e => by omega⟩
    · have hK1 : 1 ≤ K := by
        by_cases hz : 0 < E
        · have := hE hz; omega
        · omega
      have e1 : rungVal (E * 4503599627370496 + K - 1) = (K - 1) * 2 ^ E := by
        rw [show E * 4503599627370496 + K - 1 = E * 4503599627370496 + (K - 1) by omega]
        exact rungVal_count (by omega) (fun h => by have := hE h; omega)
      rw [e1, hv]
      clear e1 hv hst
      have e3 : (K - 1) * 2 ^ E + 2 ^ E = K * 2 ^ E := by
        have e4 : (K - 1 + 1) * 2 ^ E = (K - 1) * 2 ^ E + 2 ^ E := Nat.succ_mul _ _
        rw [Nat.sub_add_cancel hK1] at e4
        exact e4.symm
      have e2 : ((K - 1) * 2 ^ E + K * 2 ^ E) * D + 2 ^ E * D = (2 * K) * 2 ^ E * D := by
        have e5 : (K - 1) * 2 ^ E + K * 2 ^ E + 2 ^ E = 2 * K * 2 ^ E := by rw [Nat.mul_assoc 2]; omega
        rw [← Nat.add_mul, e5]
      exact ⟨by omega, fun e => t2 (by omega)⟩
  have e2 : (2 * K + 1) * 2 ^ E = K * 2 ^ E + (K * 2 ^ E + 2 ^ E) := by rw [Nat.add_mul, Nat.mul_assoc, Nat.one_mul]; omega
  have hup : (K * 2 ^ E + (K * 2 ^ E + 2 ^ E)) * D ≤ (K * 2 ^ E + rungVal (E * 4503599627370496 + K + 1)) * D := Nat.mul_le_mul_right _ (Nat.add_le_add_left hst _)
  clear hst
  rw [e2] at b1 t1
  clear e2
  refine ⟨Nat.min_le_right _ _, fun hs => ?_, fun hs => ?_, fun hs e => ?_, fun hs e => ?_⟩
  · rw [min_low hs, hv]
    exact Nat.le_trans b1 hup
  · by_cases hi : E * 4503599627370496 + K ≤ 9218868437227405312
    · rw [Nat.min_eq_left hi] at hs ⊢
      exact (low hs).1
    · have hi2 : 9218868437227405312 ≤ E * 4503599627370496 + K := Nat.le_of_lt (Nat.lt_of_not_le hi)
      rw [Nat.min_eq_right hi2] at hs ⊢
      exact Nat.le_trans (Nat.mul_le_mul_right _ (Nat.add_le_add (rungVal_le (Nat.sub_le_sub_right hi2 1)) (rungVal_le hi2))) (low (Nat.le_trans hs hi2)).1
  · rw [min_low hs] at e ⊢
    rw [hv] at e
    exact mod_even E K (t1 (Nat.le_antisymm b1 (Nat.le_trans hup (Nat.le_of_eq e.symm))))
  · by_cases hi : E * 4503599627370496 + K ≤ 9218868437227405312
    · rw [Nat.min_eq_left hi] at hs e ⊢
      exact mod_even E K ((low hs).2 e)
    · rw [Nat.min_eq_right (Nat.le_of_lt (Nat.lt_of_not_le hi))]

/-- IEEE's nearest is it. -/
theorem near_is_mid (neg : Bool) (mag : Nat) (place : Int) (h0 : mag ≠ 0) : ∃ s, Ieee.double.nearest neg mag place = Ieee.double.word neg s ∧ Mid (mag * 2 ^ (place + 1074).toNat) (2 ^ (-(place + 1074)).toNat) s := by
  obtain ⟨E, K, h1, hK, hE, b1, b2, b3, t1, t2⟩ := near_core neg mag place h0
  exact ⟨_, h1, mid_of_count (Nat.two_pow_pos _) hK hE b1 b2 b3 t1 t2⟩

end Go.Proofs.YtabkgpnckaaclaaGreatDoor

/- From a quotient made bit by bit, and what is left of it, to the nearest float. Nothing here speaks of the program. -/
namespace Go.Proofs.YtabkgpnckaaclaaGreatDoor

/-- How a count is rounded: by what is left against half a unit; the even one at a tie. -/
def RndK (S V q K : Nat) : Prop := (V < S ∧ K = q + 1) ∨ (S = V ∧ K = q + q % 2) ∨ (S < V ∧ K = q)

theorem rnd_scale {S V q K P : Nat} (hP : 0 < P) (h : RndK S V q K) : RndK (S * P) (V * P) q K := by
  rcases h with ⟨h, k⟩ | ⟨h, k⟩ | ⟨h, k⟩
  · exact .inl ⟨Nat.mul_lt_mul_of_pos_right h hP, k⟩
  · exact .inr (.inl ⟨by rw [h], k⟩)
  · exact .inr (.inr ⟨Nat.mul_lt_mul_of_pos_right h hP, k⟩)
theorem rnd_le {S V q K : Nat} (h : RndK S V q K) : q ≤ K ∧ K ≤ q + 1 := by
  rcases h with ⟨h, k⟩ | ⟨h, k⟩ | ⟨h, k⟩ <;> omega

theorem round_core {A U T q S K : Nat} (hT : 0 < T) (h : 2 * A * T = 2 * (q * (U * T)) + S) (hS : S < 2 * (U * T)) (hK : RndK S (U * T) q K) :
    2 * A ≤ (2 * K + 1) * U ∧ 2 * K * U ≤ 2 * A + U ∧ (2 * A = (2 * K + 1) * U → K % 2 = 0) ∧ (2 * K * U = 2 * A + U → K % 2 = 0) := by
  have e1 : (2 * K + 1) * U * T = 2 * (K * (U * T)) + U * T := by rw [Nat.mul_assoc, Nat.add_mul, Nat.mul_assoc 2, Nat.one_mul]
  have e2 : 2 * K * U * T = 2 * (K * (U * T)) := by rw [Nat.mul_assoc, Nat.mul_assoc]
  have e3 : (2 * A + U) * T = 2 * A * T + U * T := Nat.add_mul _ _ _
  have r1 : 2 * A * T ≤ (2 * K + 1) * U * T → 2 * A ≤ (2 * K + 1) * U := fun e => Nat.le_of_mul_le_mul_right e hT
  have r2 : 2 * K * U * T ≤ (2 * A + U) * T → 2 * K * U ≤ 2 * A + U := fun e => Nat.le_of_mul_le_mul_right e hT
  have r3 : 2 * A = (2 * K + 1) * U → 2 * A * T = (2 * K + 1) * U * T := fun e => by rw [e]
  have r4 : 2 * K * U = 2 * A + U → 2 * K * U * T = (2 * A + U) * T := fun e => by rw [e]
  rw [e1] at r1 r3
  rw [e2, e3] at r2 r4
  rw [h] at r1 r2 r3 r4
  clear e1 e2 e3 h
  generalize U * T = V at *
  have k1 : (q + 1) * V = q * V + V := by rw [Nat.add_mul, Nat.one_mul]
  rcases hK with ⟨hs, rfl⟩ | ⟨hs, hk⟩ | ⟨hs, rfl⟩
  · rw [k1] at r1 r2 r3 r4
    exact ⟨r1 (by omega), r2 (by omega), fun e => by have := r3 e; omega, fun e => by have := r4 e; omega⟩
  · rcases Nat.mod_two_eq_zero_or_one q with g | g
    · obtain rfl : K = q := by omega
      exact ⟨r1 (by omega), r2 (by omega), fun e => g, fun e => g⟩
    · obtain rfl : K = q + 1 := by omega
      rw [k1] at r1 r2 r3 r4
      exact ⟨r1 (by omega), r2 (by omega), fun e => by omega, fun e => by omega⟩
  · exact ⟨r1 (by omega), r2 (by omega), fun e => by have := r3 e; omega, fun e => by have := r4 e; omega⟩

theorem npow_split {a b c d : Nat} (h : a + b = c + d) : 2 ^ a * 2 ^ b = 2 ^ c * 2 ^ d := by rw [← Nat.pow_add, ← Nat.pow_add, h]

/-- A quotient of c bits, what is left of it, and the count rounded by that: the nearest float's rung. -/
theorem near_of_take {X Y i j c q R0 R' B E Z K : Nat} (hR0 : R0 = X * 2 ^ i) (hB : B = Y * 2 ^ j) (hlow : B ≤ R0) (hup : R0 < 2 * B)
    (ht : R0 * 2 ^ c = q * (2 * B) + R') (hr : R' < 2 * B) (hE : E + (i + c) = j + (Z + 1)) (hc : c ≤ 53) (hc1 : 0 < E → c = 53) (hK : RndK R' B q K) :
    Mid (X * 2 ^ Z) Y (min (E * 4503599627370496 + K) 9218868437227405312) ∧ K ≤ 9007199254740992 := by
  have hBp : 0 < B := by omega
  have hY : 0 < Y := by
    rcases Nat.eq_zero_or_pos Y with g | g
    · subst g; rw [Nat.zero_mul] at hB; omega
    · exact g
  have hT : 0 < 2 ^ (i + c) := Nat.two_pow_pos _
  have hP : 0 < 2 ^ (Z + 1) := Nat.two_pow_pos _
  have hUT : (2 ^ E * Y) * 2 ^ (i + c) = B * 2 ^ (Z + 1) := by
    rw [hB, Nat.mul_comm (2 ^ E) Y, Nat.mul_assoc, Nat.mul_assoc, npow_split hE]
  have hA : 2 * (X * 2 ^ Z) * 2 ^ (i + c) = 2 * (q * ((2 ^ E * Y) * 2 ^ (i + c))) + R' * 2 ^ (Z + 1) := by
    rw [hUT]
    have e1 : 2 * (X * 2 ^ Z) * 2 ^ (i + c) = (R0 * 2 ^ c) * 2 ^ (Z + 1) := by
      rw [hR0, Nat.pow_add 2 i c, Nat.pow_succ 2 Z]
      generalize 2 ^ Z = a; generalize 2 ^ i = b; generalize 2 ^ c = d
      grind
    rw [e1, ht, Nat.add_mul]
    generalize 2 ^ (Z + 1) = P
    grind
  have hq : q < 2 ^ c := by
    rcases Nat.lt_or_ge q (2 ^ c) with g | g
    · exact g
    · exfalso
      have k1 : 2 ^ c * (2 * B) ≤ q * (2 * B) := Nat.mul_le_mul_right _ g
      have k2 : R0 * 2 ^ c < (2 * B) * 2 ^ c := Nat.mul_lt_mul_of_pos_right hup (Nat.two_pow_pos _)
      rw [Nat.mul_comm (2 * B)] at k2
      omega
  have hq53 : q < 9007199254740992 := by
    have : 2 ^ c ≤ 2 ^ 53 := Nat.pow_le_pow_right (by decide) hc
    have e : (2 : Nat) ^ 53 = 9007199254740992 := by decide
    omega
  have hkk := rnd_le hK
  have hq52 : 0 < E → 4503599627370496 ≤ q := fun g => by
    have c53 := hc1 g
    subst c53
    have e : (2 : Nat) ^ 53 = 4503599627370496 * 2 := by decide
    rw [e] at ht
    rcases Nat.lt_or_ge q 4503599627370496 with g | g
    · exfalso
      have k1 : (q + 1) * (2 * B) ≤ 4503599627370496 * (2 * B) := Nat.mul_le_mul_right _ g
      have k2 : B * (4503599627370496 * 2) ≤ R0 * (4503599627370496 * 2) := Nat.mul_le_mul_right _ hlow
      rw [Nat.add_mul, Nat.one_mul] at k1
      omega
    · exact g
  have hS : R' * 2 ^ (Z + 1) < 2 * ((2 ^ E * Y) * 2 ^ (i + c)) := by
    rw [hUT, ← Nat.mul_assoc]
    exact Nat.mul_lt_mul_of_pos_right hr hP
  have hRn : RndK (R' * 2 ^ (Z + 1)) ((2 ^ E * Y) * 2 ^ (i + c)) q K := by
    rw [hUT]; exact rnd_scale hP hK
  obtain ⟨b1, b2, t1, t2⟩ := round_core hT hA hS hRn
  refine ⟨mid_of_count hY (by omega) (fun g => by have := hq52 g; omega) ?_ ?_ ?_ ?_ ?_, by omega⟩
  · rw [Nat.mul_assoc]; exact b1
  · rw [Nat.mul_assoc (2 * K)]; exact b2
  · intro g
    have k := hq52 g
    have k1 : 4503599627370496 * ((2 ^ E * Y) * 2 ^ (i + c)) ≤ q * ((2 ^ E * Y) * 2 ^ (i + c)) := Nat.mul_le_mul_right _ k
    rw [Nat.mul_assoc 4503599627370496]
    refine Nat.le_of_mul_le_mul_right (c := 2 ^ (i + c)) ?_ hT
    rw [Nat.mul_assoc 2] at hA
    rw [Nat.mul_assoc 4503599627370496]
    omega
  · intro e; exact t1 (by rw [Nat.mul_assoc] at e; exact e)
  · intro e; exact t2 (by rw [Nat.mul_assoc (2 * K)] at e; exact e)

/-- So small that nothing is the nearest. -/
theorem near_none {X Y i j Z : Nat} (hup : X * 2 ^ i < 2 * (Y * 2 ^ j)) (h : j + (Z + 2) ≤ i) : Mid (X * 2 ^ Z) Y 0 := by
  have k0 : X * 2 ^ (j + (Z + 2)) ≤ X * 2 ^ i := Nat.mul_le_mul_left _ (Nat.pow_le_pow_right (by decide) h)
  have k1 : X * 2 ^ (j + (Z + 2)) < 2 * (Y * 2 ^ j) := by omega
  have e1 : X * 2 ^ (j + (Z + 2)) = (2 * (2 * (X * 2 ^ Z))) * 2 ^ j := by
    rw [Nat.pow_add, Nat.pow_succ, Nat.pow_succ]
    generalize 2 ^ Z = a; generalize 2 ^ j = b
    grind
  rw [e1, ← Nat.mul_assoc 2 Y] at k1
  have k2 : 2 * (2 * (X * 2 ^ Z)) < 2 * Y := Nat.lt_of_mul_lt_mul_right k1
  have r0 : rungVal 0 = 0 := by decide
  have r1 : rungVal (0 + 1) = 1 := by decide
  refine ⟨by decide, fun _ => ?_, fun g => by omega, fun _ _ => rfl, fun g => by omega⟩
  rw [r0, r1, Nat.zero_add, Nat.one_mul]
  omega

theorem turn3 (a b y : Nat) : (2 * (a * b)) * y = 2 * (y * a * b) := by grind
/-- So large that there is none. -/
theorem near_over {X Y i j Z F : Nat} (hZ : Z = 1074) (hF : F = 2046) (hlow : Y * 2 ^ j ≤ X * 2 ^ i) (h : i + 1024 ≤ j) : Mid (X * 2 ^ Z) Y 9218868437227405312 := by
  have k0 : Y * 2 ^ (i + 1024) ≤ Y * 2 ^ j := Nat.mul_le_mul_left _ (Nat.pow_le_pow_right (by decide) h)
  obtain ⟨G, hG⟩ : ∃ G, G = 1024 := ⟨_, rfl⟩
  rw [← hG] at k0
  have k1 : Y * 2 ^ (i + G) ≤ X * 2 ^ i := Nat.le_trans k0 hlow
  rw [Nat.pow_add, Nat.mul_comm (2 ^ i), ← Nat.mul_assoc] at k1
  have k2 := Nat.le_of_mul_le_mul_right k1 (Nat.two_pow_pos _)
  have rv : rungVal 9218868437227405312 = 4503599627370496 * 2 ^ F := by
    have := rungVal_count (E := F) (K := 4503599627370496) (by decide) (fun _ => Nat.le_refl _)
    rw [hF] at this ⊢
    exact this
  have e52 : (4503599627370496 : Nat) = 2 ^ 52 := by decide
  have hv : rungVal 9218868437227405312 = 2 ^ G * 2 ^ Z := by
    rw [rv, e52]; exact npow_split (by omega)
  have k3 : Y * 2 ^ G * 2 ^ Z ≤ X * 2 ^ Z := Nat.mul_le_mul_right _ k2
  have k4 : rungVal (9218868437227405312 - 1) ≤ rungVal 9218868437227405312 := rungVal_le (by decide)
  refine ⟨Nat.le_refl _, fun g => by omega, fun _ => ?_, fun g => by omega, fun _ _ => by decide⟩
  have k5 : (rungVal (9218868437227405312 - 1) + rungVal 9218868437227405312) * Y ≤ (2 * (2 ^ G * 2 ^ Z)) * Y := Nat.mul_le_mul_right _ (by rw [hv] at k4 ⊢; rw [Nat.two_mul]; exact Nat.add_le_add_right k4 _)
  have e6 : (2 * (2 ^ G * 2 ^ Z)) * Y = 2 * (Y * 2 ^ G * 2 ^ Z) := turn3 _ _ _
  rw [e6] at k5
  exact Nat.le_trans k5 (Nat.mul_le_mul_left 2 k3)

end Go.Proofs.YtabkgpnckaaclaaGreatDoor

/- real.nearestSize: the float nearest to the size of a fraction that is not 0. -/
namespace Go.Proofs.YtabkgpnckaaclaaGreatDoor
open Go.RowKit
set_option linter.unusedVariables false

theorem u64_and1 (q : Nat) (h : q < 18446744073709551616) : bits .and .u64 (q : Int) 1 = ((q % 2 : Nat) : Int) := by
  have e1 := u64_and_nat q 1 h (by omega)
  have e2 : q &&& 1 = q % 2 := Nat.and_one_is_mod q
  rw [e2] at e1
  exact e1
/-- What is taken, as natural numbers. -/
theorem take_nat {R B R' : List Int} {q : Int} {c X Y i j : Nat} (wR : Wd R') (hq : 0 ≤ q) (hR : val R = (X : Int) * 2 ^ i) (hB : val B = (Y : Int) * 2 ^ j) (hlow : val B ≤ val R) (hup : val R < 2 * val B) (ht : val R * 2 ^ c = q * (2 * val B) + val R') (hr : val R' < 2 * val B) :
    ∃ Q S : Nat, q = Q ∧ val R' = S ∧ Y * 2 ^ j ≤ X * 2 ^ i ∧ X * 2 ^ i < 2 * (Y * 2 ^ j) ∧ X * 2 ^ i * 2 ^ c = Q * (2 * (Y * 2 ^ j)) + S ∧ S < 2 * (Y * 2 ^ j) := by
  obtain ⟨Q, rfl⟩ := Int.eq_ofNat_of_zero_le hq
  obtain ⟨S, hS⟩ := Int.eq_ofNat_of_zero_le (val_nonneg wR)
  rw [hS] at ht hr
  have e1 : (X : Int) * 2 ^ i = ((X * 2 ^ i : Nat) : Int) := by rw [Int.natCast_mul, Int.natCast_pow]; rfl
  have e2 : (Y : Int) * 2 ^ j = ((Y * 2 ^ j : Nat) : Int) := by rw [Int.natCast_mul, Int.natCast_pow]; rfl
  have e3 : (2 : Int) ^ c = ((2 ^ c : Nat) : Int) := by rw [Int.natCast_pow]; rfl
  rw [hR, e1] at hlow hup ht
  rw [hB, e2] at hlow hup ht hr
  rw [e3] at ht
  refine ⟨Q, S, rfl, hS, by omega, by omega, ?_, by omega⟩
  generalize X * 2 ^ i = A at *
  generalize Y * 2 ^ j = D at *
  generalize 2 ^ c = C at *
  have e4 : ((A * C : Nat) : Int) = ((Q * (2 * D) + S : Nat) : Int) := by
    rw [Int.natCast_mul, ht]; simp
  exact Int.ofNat.inj e4

theorem box_made_drew (W : World) (t : Nat) (vs : Array Value) : Box (W.alloc (.cells vs t)).drew W.heap.size t vs := Box.made W t vs
theorem nrwrap {x : Int} (h0 : -9223372036854775808 ≤ x) (h1 : x ≤ 9223372036854775807) : IntKind.i64.wrap x = x := by
  rw [IntKind.wrap_i64]; omega
theorem cell_alloc {V : World} {b j : Nat} {v : Value} (h : V.cell? ⟨b, j, none⟩ = some v) (o : Obj) : (V.alloc o).cell? ⟨b, j, none⟩ = some v := by
  have hlt : b < V.heap.size := by
    rcases Nat.lt_or_ge b V.heap.size with g | g
    · exact g
    · exfalso
      have e : V.heap[b]? = none := Array.getElem?_eq_none g
      simp [World.cell?, e] at h
  exact ((alloc_later V o).cell (p := ⟨b, j, none⟩) hlt).trans h
theorem cell_far3 {V : World} {b j b' : Nat} {v : Value} (h : V.cell? ⟨b, j, none⟩ = some v) (hne : b ≠ b') (v0 v1 v2 : Value) : (((V.setCell ⟨b', 0, none⟩ v0).setCell ⟨b', 1, none⟩ v1).setCell ⟨b', 2, none⟩ v2).cell? ⟨b, j, none⟩ = some v := by
  unfold World.cell? at *
  rw [Below.heap_setCell _ ⟨b', 2, none⟩ v2 b hne, Below.heap_setCell _ ⟨b', 1, none⟩ v1 b hne, Below.heap_setCell _ ⟨b', 0, none⟩ v0 b hne]
  exact h
/-- What stands when the quotient was taken. -/
structure NearCut (w : World) (base pd g1 g2 N c1 c2 : Nat) (p u : Int) (R B : List Int) (c : Nat) (s : Value) (wx : World) : Prop where
  ex : ∃ (pb : Nat) (q : Int) (R' : List Int), s = .pointer (some ⟨pb, 0, none⟩) ∧ Box wx pb 65 #[.bool false, .int .u64 q, .int .i64 u] ∧ OwnC wx base g1 N c1 R' ∧ OwnC wx base g2 N c2 B ∧ Box wx pd 96 #[.slice (some ⟨g1, 0, none⟩) N c1, .slice (some ⟨g2, 0, none⟩) N c2, .int .i64 p] ∧ 0 ≤ q ∧ Wd R' ∧ val R * 2 ^ c = q * (2 * val B) + val R' ∧ val R' < 2 * val B ∧ pb ≠ pd ∧ w.heap.size ≤ pb
  bel : Below w.heap.size w wx
/-- What is known behind the call of take, in whatever world it was made. -/
structure NearTake (W3 : World) (base pd g1 g2 N c1 c2 : Nat) (p : Int) (R B : List Int) (c : Nat) (q : Int) (R' : List Int) (w4 : World) : Prop where
  o1 : OwnC w4 base g1 N c1 R'
  o2 : OwnC w4 base g2 N c2 B
  bx : Box w4 pd 96 #[.slice (some ⟨g1, 0, none⟩) N c1, .slice (some ⟨g2, 0, none⟩) N c2, .int .i64 p]
  q0 : 0 ≤ q
  wd : Wd R'
  eq : val R * 2 ^ c = q * (2 * val B) + val R'
  lt : val R' < 2 * val B
  gr : W3.grownBy w4 (some g1)
theorem near_new {w W3 w4 : World} {base pd g1 g2 N c1 c2 : Nat} {p u : Int} {R B : List Int} {c : Nat} {q : Int} {R' : List Int} (h : NearTake W3 base pd g1 g2 N c1 c2 p R B c q R' w4) (hw : Below w.heap.size w W3) (hg : w.heap.size ≤ g1) :
    NearCut w base pd g1 g2 N c1 c2 p u R B c (.pointer (some ⟨w4.heap.size, 0, none⟩)) (w4.alloc (.cells #[.bool false, .int .u64 q, .int .i64 u] 65)) := by
  have hb := alloc_later w4 (.cells #[.bool false, .int .u64 q, .int .i64 u] 65)
  have s1 := hw.size
  have s2 := h.gr.size
  have s3 := h.bx.lt
  exact ⟨⟨_, q, R', rfl, Box.made w4 _ _, owns_later h.o1 hb, owns_later h.o2 hb, h.bx.later hb s3, h.q0, h.wd, h.eq, h.lt, by omega, by omega⟩, bt (hw.grown h.gr (by omega) (fun k hk => by cases hk; exact hg)) hb⟩
theorem near_old {w W3 w4 : World} {base pd g1 g2 N c1 c2 pb : Nat} {p u : Int} {R B : List Int} {c : Nat} {q : Int} {R' : List Int} {v0 v1 v2 : Value} (h : NearTake W3 base pd g1 g2 N c1 c2 p R B c q R' w4) (hw : Below w.heap.size w W3) (hg : w.heap.size ≤ g1) (hpb : Box w4 pb 65 #[v0, v1, v2]) (n1 : g1 ≠ pb) (n2 : g2 ≠ pb) (n3 : pb ≠ pd) (hl : w.heap.size ≤ pb) :
    NearCut w base pd g1 g2 N c1 c2 p u R B c (.pointer (some ⟨pb, 0, none⟩)) (((w4.setCell ⟨pb, 0, none⟩ (.bool false)).setCell ⟨pb, 1, none⟩ (.int .u64 q)).setCell ⟨pb, 2, none⟩ (.int .i64 u)) := by
  have s1 := hw.size
  have s2 := h.gr.size
  exact ⟨⟨_, q, R', rfl, ((hpb.set 0 _).set 1 _).set 2 _, own_set (own_set (own_set h.o1 n1) n1) n1, own_set (own_set (own_set h.o2 n2) n2) n2, ((h.bx.other ⟨pb, 0, none⟩ _ (Ne.symm n3)).other ⟨pb, 1, none⟩ _ (Ne.symm n3)).other ⟨pb, 2, none⟩ _ (Ne.symm n3), h.q0, h.wd, h.eq, h.lt, n3, hl⟩,
    (((hw.grown h.gr (by omega) (fun k hk => by cases hk; exact hg)).setCell (p := ⟨pb, 0, none⟩) hl _).setCell (p := ⟨pb, 1, none⟩) hl _).setCell (p := ⟨pb, 2, none⟩) hl _⟩
theorem take_near (W3 : World) (base pd g1 g2 N c1 c2 c : Nat) (p : Int) (R B : List Int) (hbx : Box W3 pd 96 #[.slice (some ⟨g1, 0, none⟩) N c1, .slice (some ⟨g2, 0, none⟩) N c2, .int .i64 p]) (h1 : OwnC W3 base g1 N c1 R) (h2 : OwnC W3 base g2 N c2 B) (w1 : Wd R) (w2 : Wd B) (hne : g1 ≠ g2) (hn : N ≤ 1048576) (hc : c ≤ 60) (hR : val R < 2 * val B) (hB : 2 * val B < 4294967296 ^ N) (V : World) (hv : Below W3.heap.size W3 V) :
    Calls Tryz.prog 73 #[.pointer (some ⟨pd, 0, none⟩), .int .i64 c] V fun e w' => ∃ (q : Int) (R' : List Int), e = .returned (.int .u64 q) ∧ w'.cell? ⟨pd, 2, none⟩ = some (.int .i64 p) ∧ Hid (NearTake W3 base pd g1 g2 N c1 c2 p R B c q R' w') ∧ Hid (∀ b t vs, b ≠ g1 → Box V b t vs → Box w' b t vs) ∧ (∀ b j, b < V.heap.size → b ≠ g1 → w'.cell? ⟨b, j, none⟩ = V.cell? ⟨b, j, none⟩) ∧ (∀ b j, b < V.heap.size → b ≠ g1 → w'.frozen? ⟨b, j, none⟩ = V.frozen? ⟨b, j, none⟩) ∧ V.heap.size ≤ w'.heap.size := by
  have hp1 : g1 ≠ pd := own_ne_box h1 hbx (by decide) g1 rfl
  have hx := hbx.later hv hbx.lt
  refine Calls.mono (take_any base base pd g1 g2 N c1 c2 c p R B V hx (owns_later h1 hv) (owns_later h2 hv) w1 w2 hne hn hc hR hB) ?_
  rintro e w' ⟨q, R', rfl, q0, o1, wd, ht, hr, hg⟩
  have hx' := hx.keptBy hg (Ne.symm hp1)
  refine ⟨q, R', rfl, hx'.cell 2, ⟨o1, OwnC.keptBy (owns_later h2 hv) hg (Ne.symm hne), hx', q0, wd, ht, hr, grown_trans (grown_of_below hv _) hg⟩, fun b t vs hb h => h.keptBy hg hb, fun b j hb hn => grown_cell hg hb hn, fun b j hb hn => ?_, hg.size⟩
  unfold World.frozen?
  rw [hg.block b hb (fun e => hn (Option.some.inj e))]

set_option maxHeartbeats 1600000 in
set_option maxRecDepth 100000 in
theorem nearestSize_any (neg : Bool) (a : Option Addr) (n cap : Nat) (xs : List Int) (b : Option Addr) (m cap' : Nat) (ys : List Int) (w : World) (h : Reads w w.heap.size a (n + 1) cap xs) (g : Reads w w.heap.size b (m + 1) cap' ys) (hn : n ≤ 2048) (hm : m ≤ 2048) (tx : Trimmed xs) (ty : Trimmed ys) (X Y Z : Nat) (hXv : val xs = (X : Int)) (hYv : val ys = (Y : Int)) (hZ : Z = 1074) :
    Calls Tryz.prog 41 #[.agg #[.bool neg, .slice a (n + 1) cap, .slice b (m + 1) cap']] w fun e w' => ∃ s, e = .returned (.float .f64 s) ∧ Mid (X * 2 ^ Z) Y s ∧ Below w.heap.size w w' := by
  obtain ⟨X1, hX1⟩ : ∃ X1, w.alloc (.cells #[.bool neg, .slice a (n + 1) cap, .slice b (m + 1) cap'] 25) = X1 := ⟨_, rfl⟩
  have b1 : Below w.heap.size w X1 := by rw [← hX1]; exact alloc_later _ _
  have hB1 : Box X1 w.heap.size 25 #[.bool neg, .slice a (n + 1) cap, .slice b (m + 1) cap'] := by rw [← hX1]; exact Box.made w _ _
  have e1 : X1.cell? ⟨w.heap.size, 1, none⟩ = some (.slice a (n + 1) cap) := hB1.cell 1
  have e2 : X1.cell? ⟨w.heap.size, 2, none⟩ = some (.slice b (m + 1) cap') := hB1.cell 2
  have HBG := hid (begin_any a n cap xs b m cap' ys X1 (h.later b1 b1.size) (g.later b1 b1.size) hn hm tx ty)
  have HB1 := hid b1
  have hs1x : w.heap.size ≤ X1.heap.size := b1.size
  have HZ := hid hZ
  have HXY := hid (And.intro hXv hYv)
  clear h g tx ty b1 hB1 hZ hXv hYv
  go_enter Tryz.func41, Tryz.ntmps41
  go_wp2_with fail
  clear hX1
  refine Calls.mono HBG.out ?_
  rintro e w2 ⟨g1, g2, N, c1, c2, R, B, i, j, rfl, o1, o2, wR, wB, hne, hN, hi, hj, vR, vB, k1, k2, k3, b2⟩
  generalize hp : (j : Int) - (i : Int) = p at *
  have p0 : -65601 ≤ p := by omega
  have p1 : p ≤ 65600 := by omega
  rw [HXY.out.1] at vR
  rw [HXY.out.2] at vB
  have HV := hid (And.intro vR (And.intro vB (And.intro k1 (And.intro k2 k3))))
  obtain ⟨W3, hW3⟩ : ∃ W3, w2.alloc (.cells #[.slice (some ⟨g1, 0, none⟩) N c1, .slice (some ⟨g2, 0, none⟩) N c2, .int .i64 p] 96) = W3 := ⟨_, rfl⟩
  have b3 : Below w2.heap.size w2 W3 := by rw [← hW3]; exact alloc_later _ _
  have HX3 : Hid (Box W3 w2.heap.size 96 #[.slice (some ⟨g1, 0, none⟩) N c1, .slice (some ⟨g2, 0, none⟩) N c2, .int .i64 p]) := by rw [← hW3]; exact Box.made w2 _ _
  have HO1 : Hid (OwnC W3 X1.heap.size g1 N c1 R) := owns_later o1 b3
  have HO2 : Hid (OwnC W3 X1.heap.size g2 N c2 B) := owns_later o2 b3
  have HBB := hid (bt HB1.out (bt b2 b3))
  have HWW := hid (And.intro wR wB)
  have HP := hid hp
  have u2 : W3.cell? ⟨w2.heap.size, 2, none⟩ = some (.int .i64 p) := HX3.out.cell 2
  clear HBG e1 e2 HB1 o1 o2 wR wB vR vB k1 k2 k3 b2 b3 hp
  obtain ⟨r, hr⟩ : ∃ r, p - -1074 = r := ⟨_, rfl⟩
  obtain ⟨r1, hr1⟩ : ∃ r1, r + 1 = r1 := ⟨_, rfl⟩
  have HRR : Hid (r1 = p + 1075) := by show _ = _; omega
  have r0 : -70000 ≤ r := by omega
  have r2 : r ≤ 70000 := by omega
  obtain ⟨cI, hcI⟩ : ∃ cI : Int, (if r1 < 53 then r1 else 53) = cI := ⟨_, rfl⟩
  have hmn : ∀ (ts : Array TypeId) (t : TypeId) (P : Program) (W : World), (Builtin.min_ ts t #[.int .i64 53, .int .i64 r1]).run P W = .ok (.int .i64 cI) W := fun ts t P W => by rw [run_min_int2, ← hcI]
  have HCI : Hid (cI ≤ 53 ∧ (cI = 53 ∨ cI = p + 1075) ∧ cI ≤ p + 1075) := by
    have e := HRR.out
    by_cases hc : r1 < 53
    · rw [if_pos hc] at hcI; exact ⟨by omega, by omega, by omega⟩
    · rw [if_neg hc] at hcI; exact ⟨by omega, by omega, by omega⟩
  clear hcI
  by_cases hbig : 1023 < p
  · have HM : Hid (Mid (X * 2 ^ Z) Y 9218868437227405312) := near_over HZ.out (F := 2046) rfl (i := i) (j := j) (by
      have e1 := HV.out.1
      have e2 := HV.out.2.1
      have e3 := HV.out.2.2.1
      rw [e1, e2] at e3
      have f1 : (X : Int) * 2 ^ i = ((X * 2 ^ i : Nat) : Int) := by rw [Int.natCast_mul, Int.natCast_pow]; rfl
      have f2 : (Y : Int) * 2 ^ j = ((Y * 2 ^ j : Nat) : Int) := by rw [Int.natCast_mul, Int.natCast_pow]; rfl
      omega) (by have := HP.out; omega)
    have HI := hid (fun V => mInf_any V)
    go_wp2_with fail
    refine Calls.mono (HI.out _) ?_
    rintro e w4 ⟨rfl, rfl⟩
    go_wp2_with fail
    go_ret
    exact ⟨_, rfl, HM.out, HBB.out⟩
  · by_cases hsm : cI < 0
    · have HM : Hid (Mid (X * 2 ^ Z) Y 0) := near_none (i := i) (j := j) (by
        have e1 := HV.out.1
        have e2 := HV.out.2.1
        have e3 := HV.out.2.2.2.1
        rw [e1, e2] at e3
        have f1 : (X : Int) * 2 ^ i = ((X * 2 ^ i : Nat) : Int) := by rw [Int.natCast_mul, Int.natCast_pow]; rfl
        have f2 : (Y : Int) * 2 ^ j = ((Y * 2 ^ j : Nat) : Int) := by rw [Int.natCast_mul, Int.natCast_pow]; rfl
        omega) (by have := HP.out; have := HCI.out; have := HZ.out; omega)
      go_wp2_with fail
      go_ret
      exact ⟨_, rfl, HM.out, HBB.out⟩
    · obtain ⟨c, rfl⟩ := Int.eq_ofNat_of_zero_le (show 0 ≤ cI by omega)
      have hc53 : c ≤ 53 := by have := HCI.out.1; omega
      obtain ⟨u, hu⟩ : ∃ u, p - (c : Int) + 1 = u := ⟨_, rfl⟩
      obtain ⟨E, hE⟩ : ∃ E : Nat, u = (E : Int) - 1074 := ⟨(u + 1074).toNat, by have := HCI.out; omega⟩
      have HE : Hid (E + (i + c) = j + (Z + 1) ∧ E ≤ 2045 ∧ (0 < E → c = 53)) := by
        have e1 := HCI.out
        have e2 := HP.out
        have e3 := HZ.out
        refine ⟨by omega, by omega, fun h => by omega⟩
      have HUE := hid hE
      have HT := hid (take_near W3 X1.heap.size w2.heap.size g1 g2 N c1 c2 c p R B HX3.out HO1.out HO2.out HWW.out.1 HWW.out.2 hne (by omega) (by omega) HV.out.2.2.2.1 HV.out.2.2.2.2)
      have hgw : w.heap.size ≤ g1 := by have := (OwnC.base HO1.out).1; omega
      have n1 : g1 ≠ W3.heap.size := Nat.ne_of_lt (OwnC.base HO1.out).2
      have n1' := Ne.symm n1
      have n2 : g2 ≠ W3.heap.size := Nat.ne_of_lt (OwnC.base HO2.out).2
      have n3 : w2.heap.size < W3.heap.size := HX3.out.lt
      have n3' := Nat.ne_of_lt n3
      have hlW : w.heap.size ≤ W3.heap.size := HBB.out.size
      have hs0 : W3.drew.cell? ⟨w2.heap.size, 2, none⟩ = some (.int .i64 p) := u2
      have HD0 := hid (Below.drew (Below.refl W3.heap.size W3))
      have HWR : Hid (IntKind.i64.wrap (IntKind.i64.wrap (p - (c : Int)) + 1) = u) := by
        show _ = _
        have e1 : IntKind.i64.wrap (p - (c : Int)) = p - (c : Int) := nrwrap (by omega) (by omega)
        rw [e1, hu]
        exact nrwrap (by omega) (by omega)
      go_upto_region 7 with fail
      clear hW3
      go_cut [5] from 24 (fun s wx => Hid (NearCut w X1.heap.size w2.heap.size g1 g2 N c1 c2 p u R B c s wx))
      case first =>
        go_region_held3 (fun V : World => V.cell? ⟨w2.heap.size, 2, none⟩ = some (.int .i64 p)) (first | exact hs1 | exact hs0 | exact cell_alloc hs1 _ | exact cell_alloc hs0 _ | exact cell_alloc u2 _ | exact cell_far3 hs1 n3' _ _ _)
          (first | (go_at_call 73; (with_reducible refine Calls.mono (HT.out _ (by first | exact HD0.out | exact below_alloc1 HD0.out _ | exact Below.drew (below_alloc1 (Below.refl _ _) _))) ?_); rintro e w4 ⟨q, R', rfl, hs1, HNT, HBK, hcl, hfr, hsz⟩))
        all_goals
          go_wp2_with fail
          go_meet
        all_goals rw [HWR.out]
        all_goals first | with_reducible exact hid (near_new HNT.out HBB.out hgw) | with_reducible exact hid (near_old HNT.out HBB.out hgw (HBK.out _ _ _ n1' (box_made_drew _ _ _)) n1 n2 (Ne.symm n3') hlW)
      case rest =>
        obtain ⟨pb, q, R', rfl, hpb, o1, o2, hbx, q0, wd, heq, hlt, n4, hl⟩ := hcut.out.ex
        have HBEL := hid hcut.out.bel
        obtain ⟨Q, S, hQ, hS, f1, f2, f3, f4⟩ := take_nat wd q0 HV.out.1 HV.out.2.1 HV.out.2.2.1 HV.out.2.2.2.1 heq hlt
        subst hQ
        have HCM := hid (rcompare_any (some ⟨g1, 0, none⟩) N c1 R' (some ⟨g2, 0, none⟩) c2 B wc (readsC o1 wd) (readsC o2 HWW.out.2) (by omega))
        have hD : (Y : Int) * 2 ^ j = ((Y * 2 ^ j : Nat) : Int) := by rw [Int.natCast_mul, Int.natCast_pow]; rfl
        rw [hS, HV.out.2.1, hD] at HCM
        have HFIN : Hid (∀ K, RndK S (Y * 2 ^ j) Q K → Mid (X * 2 ^ Z) Y (E * 4503599627370496 + K) ∧ K ≤ 9007199254740992) := fun K hK => by
          have h := near_of_take (E := E) (Z := Z) rfl rfl f1 f2 f3 f4 HE.out.1 hc53 HE.out.2.2 hK
          have e := HE.out.2.1
          rw [Nat.min_eq_left (by omega)] at h
          exact h
        have HQ53 : Hid (∀ K, RndK S (Y * 2 ^ j) Q K → Q ≤ 9007199254740992) := fun K hK => by have := (HFIN.out K hK).2; have := rnd_le hK; omega
        have HPB := hid hpb
        have d0 : wc.cell? ⟨w2.heap.size, 0, none⟩ = some (.slice (some ⟨g1, 0, none⟩) N c1) := hbx.cell 0
        have d1 : wc.cell? ⟨w2.heap.size, 1, none⟩ = some (.slice (some ⟨g2, 0, none⟩) N c2) := hbx.cell 1
        have hPb : pb < wc.heap.size := hpb.lt
        have HUP := hid (And.intro HUE.out HE.out.2.1)
        clear hcut HT HX3 HO1 HO2 HBB HD0 hs0 u2 n1 n1' n2 n3 n3' hlW o1 o2 hbx heq hlt hS f1 f2 f3 f4 hD hmn hr hr1 hu hE HE
        rcases Nat.lt_trichotomy S (Y * 2 ^ j) with hc | hc | hc
        · have HR := hid (HFIN.out Q (.inr (.inr ⟨hc, rfl⟩)))
          have hcc : cmpI (S : Int) ((Y * 2 ^ j : Nat) : Int) = -1 := cmpI_lt (by omega)
          rw [hcc] at HCM
          clear hcc hc HFIN
          go_wp2_with fail
          refine Calls.mono HCM.out ?_
          rintro e w4 ⟨rfl, b4⟩
          have HPT := hid (putTogether_any false Q E u w4 HUP.out.1 (by have := HUP.out.2; omega) HR.out.2)
          have HB4 := hid (bt HBEL.out b4)
          have B4 := HPB.out.later b4 hPb
          have m0 : w4.cell? ⟨pb, 0, none⟩ = some (.bool false) := B4.cell 0
          have m1 : w4.cell? ⟨pb, 1, none⟩ = some (.int .u64 (Q : Int)) := B4.cell 1
          have m2 : w4.cell? ⟨pb, 2, none⟩ = some (.int .i64 u) := B4.cell 2
          clear HCM b4 B4 d0 d1
          go_wp2_with fail
          refine Calls.mono HPT.out ?_
          rintro e w5 ⟨rfl, b5⟩
          go_wp2_with fail
          go_ret
          exact ⟨_, rfl, HR.out.1, bt HB4.out b5⟩
        · have hRK : RndK S (Y * 2 ^ j) Q (Q + Q % 2) := .inr (.inl ⟨hc, rfl⟩)
          have HR := hid (HFIN.out _ hRK)
          have hq53 := HQ53.out _ hRK
          have hcc : cmpI (S : Int) ((Y * 2 ^ j : Nat) : Int) = 0 := cmpI_eq (by omega)
          rw [hcc] at HCM
          have han := u64_and1 Q (by omega)
          have hsum : (Q : Int) + ((Q % 2 : Nat) : Int) = ((Q + Q % 2 : Nat) : Int) := by omega
          obtain ⟨t, ht⟩ : ∃ t, Q % 2 = t := ⟨_, rfl⟩
          have ht1 : t ≤ 1 := by omega
          rw [ht] at HR han hsum
          obtain ⟨K, hK⟩ : ∃ K, Q + t = K := ⟨_, rfl⟩
          rw [hK] at HR hsum
          have HKK := hid hK
          have hK53 : K ≤ 9007199254740993 := by omega
          clear hcc hc HFIN hRK ht hK
          go_wp2_with fail
          refine Calls.mono HCM.out ?_
          rintro e w4 ⟨rfl, b4⟩
          have HPT := hid (fun V => putTogether_any false K E u V HUP.out.1 (by have := HUP.out.2; omega) HR.out.2)
          have HB4 := hid (bt HBEL.out b4)
          have B4 := HPB.out.later b4 hPb
          have m0 : w4.cell? ⟨pb, 0, none⟩ = some (.bool false) := B4.cell 0
          have m1 : w4.cell? ⟨pb, 1, none⟩ = some (.int .u64 (Q : Int)) := B4.cell 1
          have m2 : w4.cell? ⟨pb, 2, none⟩ = some (.int .i64 u) := B4.cell 2
          have m3 := B4.free 1
          clear HCM b4 B4 d0 d1
          go_wp2_with fail
          refine Calls.mono (HPT.out _) ?_
          rintro e w5 ⟨rfl, b5⟩
          go_wp2_with fail
          go_ret
          exact ⟨_, rfl, HR.out.1, bt (HB4.out.setCell (p := ⟨pb, 1, none⟩) hl _) b5⟩
        · have hRK : RndK S (Y * 2 ^ j) Q (Q + 1) := .inl ⟨hc, rfl⟩
          have HR := hid (HFIN.out _ hRK)
          have hq53 := HQ53.out _ hRK
          have hcc : cmpI (S : Int) ((Y * 2 ^ j : Nat) : Int) = 1 := cmpI_gt (by omega)
          rw [hcc] at HCM
          obtain ⟨K, hK⟩ : ∃ K, Q + 1 = K := ⟨_, rfl⟩
          rw [hK] at HR
          have hsum : (Q : Int) + 1 = (K : Int) := by omega
          have hK53 : K ≤ 9007199254740993 := by omega
          clear hcc hc HFIN hRK hK
          go_wp2_with fail
          refine Calls.mono HCM.out ?_
          rintro e w4 ⟨rfl, b4⟩
          have HPT := hid (fun V => putTogether_any false K E u V HUP.out.1 (by have := HUP.out.2; omega) HR.out.2)
          have HB4 := hid (bt HBEL.out b4)
          have B4 := HPB.out.later b4 hPb
          have m0 : w4.cell? ⟨pb, 0, none⟩ = some (.bool false) := B4.cell 0
          have m1 : w4.cell? ⟨pb, 1, none⟩ = some (.int .u64 (Q : Int)) := B4.cell 1
          have m2 : w4.cell? ⟨pb, 2, none⟩ = some (.int .i64 u) := B4.cell 2
          have m3 := B4.free 1
          clear HCM b4 B4 d0 d1
          go_wp2_with fail
          refine Calls.mono (HPT.out _) ?_
          rintro e w5 ⟨rfl, b5⟩
          go_wp2_with fail
          go_ret
          exact ⟨_, rfl, HR.out.1, bt (HB4.out.setCell (p := ⟨pb, 1, none⟩) hl _) b5⟩

end Go.Proofs.YtabkgpnckaaclaaGreatDoor

/- Quotients, products, sums and roots of sizes, against floats that bound them. Nothing here speaks of the program. -/
namespace Go.Proofs.YtabkgpnckaaclaaGreatDoor

theorem FN.eq {op : BinOp} {x y r s : Nat} (h : FN op x y r) (g : floatBits op .f64 x y = .some s) : r = s := by
  rcases h.2 with h | ⟨h, _⟩
  · rw [h] at g; exact Option.some.inj g
  · rw [h] at g; cases g
theorem FQ.eq {x r s : Nat} (h : FQ x r) (g : Ieee.double.sqrt x = .some s) : r = s := by
  rcases h.2 with h | ⟨h, _⟩
  · rw [h] at g; exact Option.some.inj g
  · rw [h] at g; cases g

end Go.Proofs.YtabkgpnckaaclaaGreatDoor

/- The root of what lies from 1 to 2; products by at most one and a half; products in the other order, of opposites. Nothing here speaks of the program. -/
namespace Go.Proofs.YtabkgpnckaaclaaGreatDoor

end Go.Proofs.YtabkgpnckaaclaaGreatDoor

/- Opposites: of products, of sums; the conjugate of a product. Nothing here speaks of the program. -/
namespace Go.Proofs.YtabkgpnckaaclaaGreatDoor

/-- The other sign, by the bits. -/
def fopp (x : Nat) : Nat := x ^^^ 9223372036854775808
theorem fopp_low {x : Nat} (h : x < 9223372036854775808) : fopp x = 9223372036854775808 + x := by
  have e := nat_join 63 9223372036854775808 x (by decide) h
  unfold fopp
  have e2 : x ^^^ 9223372036854775808 = 9223372036854775808 ||| x := by
    apply Nat.eq_of_testBit_eq
    intro i
    rw [Nat.testBit_xor, Nat.testBit_or, show (9223372036854775808 : Nat) = 2 ^ 63 from rfl, Nat.testBit_two_pow]
    by_cases hi : 63 = i
    · subst hi
      rw [Nat.testBit_lt_two_pow h]; simp
    · simp [hi]
  rw [e2, e]
theorem fopp_fopp (x : Nat) : fopp (fopp x) = x := by unfold fopp; rw [Nat.xor_assoc, Nat.xor_self, Nat.xor_zero]
theorem fopp_high {x : Nat} (h : x < 18446744073709551616) (h1 : 9223372036854775808 ≤ x) : fopp x = x - 9223372036854775808 := by
  have e := fopp_low (x := x - 9223372036854775808) (by omega)
  rw [show 9223372036854775808 + (x - 9223372036854775808) = x by omega] at e
  rw [← e, fopp_fopp]
  omega
theorem fopp_mod {x : Nat} (h : x < 18446744073709551616) : fopp x % 9223372036854775808 = x % 9223372036854775808 ∧ fopp x < 18446744073709551616 := by
  by_cases h1 : x < 9223372036854775808
  · rw [fopp_low h1]; omega
  · rw [fopp_high h (by omega)]; omega
end Go.Proofs.YtabkgpnckaaclaaGreatDoor

/- real.Nearest, of every fraction. -/
namespace Go.Proofs.YtabkgpnckaaclaaGreatDoor
open Go.RowKit
set_option linter.unusedVariables false

/-- The least float is 2 to the power -zP. -/
def zP : Nat := 1074
/-- What Nearest tells of a fraction: its float and the error. -/
def NrT (n : Bool) (xs ys : List Int) (x : Nat) (code : Int) : Prop :=
  (rchk n xs ys ≠ 0 ∧ x = 0 ∧ code = rchk n xs ys) ∨ (rchk n xs ys = 0 ∧ ∃ X Y s : Nat, val xs = X ∧ val ys = Y ∧ 0 < Y ∧ Mid (X * 2 ^ zP) Y s ∧ ((s = 9218868437227405312 ∧ x = 0 ∧ code = 9) ∨ (s < 9218868437227405312 ∧ code = 0 ∧ x = (if n = true ∧ 0 < s then s + 9223372036854775808 else s))))

theorem mid_nought {Y : Nat} (hY : 0 < Y) : Mid (0 * 2 ^ zP) Y 0 := by
  rw [Nat.zero_mul]
  refine ⟨by decide, fun _ => by omega, fun g => by omega, fun _ _ => rfl, fun g => by omega⟩
theorem inf_not_fin : fin 9218868437227405312 = false := by decide
theorem mid_fin {A D s : Nat} (h : Mid A D s) (hs : s ≠ 9218868437227405312) : fin s = true ∧ s < 9218868437227405312 := by
  have := h.top
  exact ⟨(fin_iff s).2 (by omega), by omega⟩
theorem order_above {s : Nat} (h : s < 9218868437227405312) : FloatKind.f64.format.order s 0 = some (compare s 0) := order_pos (by omega) (by omega)
theorem f_gt_zero (s : Nat) (h : s < 9218868437227405312) : (FloatKind.f64.format.order s 0 == some .gt) = decide (0 < s) := by
  rw [order_above h]
  rcases Nat.eq_zero_or_pos s with g | g
  · subst g; decide
  · have : compare s 0 = .gt := Nat.compare_eq_gt.2 g
    rw [this]; simp [g]

theorem fneg_pos {s : Nat} (h : s < 9223372036854775808) : fneg s = s + 9223372036854775808 := by
  have e : fneg s = fopp s := rfl
  rw [e, fopp_low h]; omega

set_option maxHeartbeats 1600000 in
set_option maxRecDepth 100000 in
theorem nearest_any (n : Bool) (v : Value) (xs : List Int) (u : Value) (ys : List Int) (w : World) (h1 : Sl w v xs) (h2 : Sl w u ys) :
    Calls Tryz.prog 9 #[.agg #[.bool n, v, u]] w fun e w' => ∃ x code, e = .returned (.tuple #[.float .f64 x, .int .i64 code]) ∧ NrT n xs ys x code ∧ Below w.heap.size w w' := by
  obtain ⟨a, cap, rfl, hrx⟩ := h1
  obtain ⟨b, cap', rfl, hry⟩ := h2
  obtain ⟨X1, hX1⟩ : ∃ X1, w.alloc (.cells #[.bool n, .slice a xs.length cap, .slice b ys.length cap'] 25) = X1 := ⟨_, rfl⟩
  have b1 : Below w.heap.size w X1 := by rw [← hX1]; exact alloc_later _ _
  have hB1 : Box X1 w.heap.size 25 #[.bool n, .slice a xs.length cap, .slice b ys.length cap'] := by rw [← hX1]; exact Box.made w _ _
  have e0 : X1.cell? ⟨w.heap.size, 0, none⟩ = some (.bool n) := hB1.cell 0
  have e1 : X1.cell? ⟨w.heap.size, 1, none⟩ = some (.slice a xs.length cap) := hB1.cell 1
  have e2 : X1.cell? ⟨w.heap.size, 2, none⟩ = some (.slice b ys.length cap') := hB1.cell 2
  have HB1 := hid b1
  have HBX := hid hB1
  have HCK := hid (rcheck_any n _ xs _ ys X1 ⟨a, cap, rfl, hrx.later b1 b1.size⟩ ⟨b, cap', rfl, hry.later b1 b1.size⟩)
  have HRX := hid hrx
  have HRY := hid hry
  obtain ⟨ck, hck⟩ : ∃ ck, rchk n xs ys = ck := ⟨_, rfl⟩
  have HK := hid hck
  rw [hck] at HCK
  clear hrx hry b1 hB1 hck
  by_cases hz : ck = 0
  · subst hz
    obtain ⟨lx, ly, tx, ty, hy0, hs, hg⟩ := rchk_ok HK.out
    have hYv : 0 < val ys := by
      have e : 0 < sz ys := by rw [show sz ys = ys.length from ty]; exact hy0
      have h := (bits_bounds HRY.out.2.1 e).2.1
      have := two_pos (bitsOf ys - 1)
      omega
    obtain ⟨Y, hY⟩ := Int.eq_ofNat_of_zero_le (Int.le_of_lt hYv)
    have hY0 : 0 < Y := by omega
    by_cases hx : xs = []
    · subst hx
      have HN : Hid (NrT n [] ys 0 0) := .inr ⟨HK.out, 0, Y, 0, by rw [val_nil]; rfl, hY, hY0, mid_nought hY0, .inr ⟨by decide, rfl, by simp⟩⟩
      have el : ([] : List Int).length = 0 := rfl
      rw [el] at e1 hX1 ⊢
      go_enter Tryz.func9, Tryz.ntmps9
      go_wp2_with fail
      clear hX1
      refine Calls.mono HCK.out ?_
      rintro e w2 ⟨rfl, b2⟩
      have hB2 := HBX.out.later b2 HBX.out.lt
      have e1' : w2.cell? ⟨w.heap.size, 1, none⟩ = some (.slice a 0 cap) := hB2.cell 1
      go_wp2_with fail
      go_returns
      exact ⟨_, _, rfl, HN.out, bt HB1.out b2⟩
    · obtain ⟨k, hk⟩ : ∃ k, xs.length = k + 1 := ⟨xs.length - 1, by have : xs.length ≠ 0 := fun e => hx (List.eq_nil_of_length_eq_zero e); omega⟩
      obtain ⟨l, hl⟩ : ∃ l, ys.length = l + 1 := ⟨ys.length - 1, by omega⟩
      obtain ⟨X, hX⟩ := Int.eq_ofNat_of_zero_le (val_nonneg HRX.out.2.1)
      rw [hk] at HRX lx e1 hX1 HBX HCK ⊢
      rw [hl] at HRY ly e2 hX1 HBX HCK ⊢
      have HNS := hid (fun V (hv : Below X1.heap.size X1 V) => nearestSize_any n a k cap xs b l cap' ys V (HRX.out.later (bt HB1.out hv) (bt HB1.out hv).size) (HRY.out.later (bt HB1.out hv) (bt HB1.out hv).size) (by omega) (by omega) tx ty X Y zP hX hY rfl)
      have HT : Hid (∀ s, Mid (X * 2 ^ zP) Y s → (s = 9218868437227405312 → NrT n xs ys 0 9) ∧ (s < 9218868437227405312 → NrT n xs ys (if n = true ∧ 0 < s then s + 9223372036854775808 else s) 0)) := fun s hm =>
        ⟨fun e => .inr ⟨HK.out, X, Y, s, hX, hY, hY0, hm, .inl ⟨e, rfl, rfl⟩⟩, fun e => .inr ⟨HK.out, X, Y, s, hX, hY, hY0, hm, .inr ⟨e, rfl, rfl⟩⟩⟩
      have hk1 : ¬ (k + 1 = 0) := by omega
      have HFF := hid (fun s V (hs : s < 18446744073709551616) => finite_any s V hs)
      clear tx ty hs hg hy0 hYv hX hY hk hl hx
      go_enter Tryz.func9, Tryz.ntmps9
      go_wp2_with fail
      clear hX1
      refine Calls.mono HCK.out ?_
      rintro e w2 ⟨rfl, b2⟩
      have hB2 := HBX.out.later b2 HBX.out.lt
      have e0' : w2.cell? ⟨w.heap.size, 0, none⟩ = some (.bool n) := hB2.cell 0
      have e1' : w2.cell? ⟨w.heap.size, 1, none⟩ = some (.slice a (k + 1) cap) := hB2.cell 1
      have e2' : w2.cell? ⟨w.heap.size, 2, none⟩ = some (.slice b (l + 1) cap') := hB2.cell 2
      have HB2 := hid hB2
      have HBL := hid b2
      have HN2 := hid (HNS.out w2 b2)
      clear e0 e1 e2 HCK HNS HBX hB2 b2
      go_wp2_with fail
      refine Calls.mono HN2.out ?_
      rintro e w3 ⟨s, rfl, hm, b3⟩
      have hB3 := HB2.out.later b3 HB2.out.lt
      have e0'' : w3.cell? ⟨w.heap.size, 0, none⟩ = some (.bool n) := hB3.cell 0
      have HM := hid hm
      have HBB := hid (bt HB1.out (bt HBL.out b3))
      have hneg : ∀ x, Op.unary .neg (.float .f64 x) = pure (.float .f64 (fneg x)) := fun x => rfl
      clear e0' e1' e2' HB2 HBL HN2 hB3 b3 hm
      by_cases hi : s = 9218868437227405312
      · have HN := hid ((HT.out s HM.out).1 hi)
        have HF1 := hid (HFF.out s w3 (by have := HM.out.top; omega))
        rw [hi, inf_not_fin] at HF1
        subst hi
        go_wp2_with fail
        refine Calls.mono HF1.out ?_
        rintro e w4 ⟨rfl, rfl⟩
        go_wp2_with fail
        go_returns
        exact ⟨_, _, rfl, HN.out, HBB.out⟩
      · obtain ⟨hf, hlt⟩ := mid_fin HM.out hi
        have HN := hid ((HT.out s HM.out).2 hlt)
        have HF1 := hid (HFF.out s w3 (by have := HM.out.top; omega))
        rw [hf] at HF1
        have hgt := f_gt_zero s hlt
        by_cases hn : n = true
        · subst hn
          by_cases h0 : 0 < s
          · have hd : decide (0 < s) = true := by simp [h0]
            rw [hd] at hgt
            have hfn : fneg s = s + 9223372036854775808 := fneg_pos (by omega)
            rw [if_pos ⟨rfl, h0⟩, ← hfn] at HN
            clear hd hi hf hlt HT HFF HM h0 hfn
            go_wp2_with fail
            refine Calls.mono HF1.out ?_
            rintro e w4 ⟨rfl, rfl⟩
            go_wp2_with fail
            go_returns
            exact ⟨_, _, rfl, HN.out, HBB.out⟩
          · have hd : decide (0 < s) = false := by simp [h0]
            rw [hd] at hgt
            rw [if_neg (by intro h; exact h0 h.2)] at HN
            clear hd hi hf hlt HT HFF HM h0
            go_wp2_with fail
            refine Calls.mono HF1.out ?_
            rintro e w4 ⟨rfl, rfl⟩
            go_wp2_with fail
            go_returns
            exact ⟨_, _, rfl, HN.out, HBB.out⟩
        · obtain rfl : n = false := by cases n <;> simp_all
          rw [if_neg (by intro h; cases h.1)] at HN
          clear hgt hi hf hlt HT HFF HM hn
          go_wp2_with fail
          refine Calls.mono HF1.out ?_
          rintro e w4 ⟨rfl, rfl⟩
          go_wp2_with fail
          go_returns
          exact ⟨_, _, rfl, HN.out, HBB.out⟩
  · have HN : Hid (NrT n xs ys 0 ck) := .inl ⟨by rw [HK.out]; exact hz, rfl, HK.out.symm⟩
    have hz' : (ck == 0) = false := by simp [hz]
    go_enter Tryz.func9, Tryz.ntmps9
    go_wp2_with fail
    refine Calls.mono HCK.out ?_
    rintro e w2 ⟨rfl, b2⟩
    go_wp2_with fail
    go_returns
    exact ⟨_, _, rfl, HN.out, bt HB1.out b2⟩

end Go.Proofs.YtabkgpnckaaclaaGreatDoor

/- The nearest float by a count that is rounded to a whole one, as the document makes it: the unit by the fraction's own size. Nothing here speaks of the program. -/
namespace Go.Proofs.YtabkgpnckaaclaaGreatDoor
open Go.RowKit
set_option linter.unusedVariables false

/-- R is the whole number nearest to A / P; of two the even one. -/
structure Ev (A P R : Nat) : Prop where
  up : 2 * A ≤ (2 * R + 1) * P
  down : 2 * R * P ≤ 2 * A + P
  tieUp : 2 * A = (2 * R + 1) * P → R % 2 = 0
  tieDown : 2 * R * P = 2 * A + P → R % 2 = 0
theorem ev_le {x y c : Nat} (hc : 0 < c) (h : x * c ≤ y * c) : x ≤ y := Nat.le_of_mul_le_mul_right h hc
/-- The same fraction, otherwise said. -/
theorem Ev.scale {X Y a b P Q n : Nat} (hb : 0 < b) (hP : 0 < P) (h : P * a = Q * b) (v : Ev (X * a) (Y * b) n) : Ev (X * Q) (Y * P) n := by
  have e1 : 2 * (X * Q) * b = 2 * (X * a) * P := by
    rw [Nat.mul_assoc 2, Nat.mul_assoc X, ← h, Nat.mul_assoc 2, Nat.mul_assoc X, Nat.mul_comm P a]
  have e2 : ∀ k, k * (Y * P) * b = k * (Y * b) * P := fun k => by
    rw [Nat.mul_assoc k, Nat.mul_assoc k, Nat.mul_right_comm Y P b]
  have e3 : Y * P * b = Y * b * P := Nat.mul_right_comm Y P b
  refine ⟨ev_le hb ?_, ev_le hb ?_, fun g => v.tieUp ?_, fun g => v.tieDown ?_⟩
  · rw [e1, e2]; exact Nat.mul_le_mul_right P v.up
  · rw [e2, Nat.add_mul, e1, e3, ← Nat.add_mul]; exact Nat.mul_le_mul_right P v.down
  · refine Nat.eq_of_mul_eq_mul_right hP ?_
    rw [← e1, g, e2]
  · refine Nat.eq_of_mul_eq_mul_right hP ?_
    rw [← e2, g, Nat.add_mul, Nat.add_mul, e1, e3]
theorem ev_up {X Y Q P n K : Nat} (hY : 0 < Y * P) (v : Ev (X * Q) (Y * P) n) (h : X * Q < K * (Y * P)) : n ≤ K := by
  have d := v.down
  by_cases hc : n ≤ K
  · exact hc
  · exfalso
    have h1 : (K + 1) * (Y * P) ≤ n * (Y * P) := Nat.mul_le_mul_right _ (by omega)
    rw [Nat.add_mul, Nat.one_mul] at h1
    rw [Nat.mul_assoc] at d
    omega
theorem ev_down {X Y Q P n K : Nat} (hY : 0 < Y * P) (v : Ev (X * Q) (Y * P) n) (h : K * (Y * P) ≤ X * Q) : K ≤ n := by
  have u := v.up
  by_cases hc : K ≤ n
  · exact hc
  · exfalso
    have h1 : (n + 1) * (Y * P) ≤ K * (Y * P) := Nat.mul_le_mul_right _ (by omega)
    rw [Nat.add_mul, Nat.one_mul] at h1
    rw [Nat.add_mul, Nat.mul_assoc, Nat.one_mul] at u
    omega
/-- The rung of the rounded count is the nearest. -/
theorem ev_mid {X Y Z E n : Nat} (hY : 0 < Y) (v : Ev (X * 2 ^ Z) (Y * 2 ^ E) n) (hhi : X * 2 ^ Z < 9007199254740992 * (Y * 2 ^ E)) (hlo : 0 < E → 4503599627370496 * (Y * 2 ^ E) ≤ X * 2 ^ Z) :
    n ≤ 9007199254740992 ∧ (0 < E → 4503599627370496 ≤ n) ∧ Mid (X * 2 ^ Z) Y (min (E * 4503599627370496 + n) 9218868437227405312) := by
  have hP := Nat.two_pow_pos E
  have hYP : 0 < Y * 2 ^ E := Nat.mul_pos hY hP
  have k1 := ev_up hYP v hhi
  have k2 : 0 < E → 4503599627370496 ≤ n := fun h => ev_down hYP v (hlo h)
  have a1 : ∀ k, k * 2 ^ E * Y = k * (Y * 2 ^ E) := fun k => by rw [Nat.mul_assoc, Nat.mul_comm (2 ^ E) Y]
  refine ⟨k1, k2, mid_of_count hY k1 k2 ?_ ?_ ?_ ?_ ?_⟩
  · rw [a1]; exact v.up
  · rw [a1, Nat.mul_comm (2 ^ E) Y]; exact v.down
  · intro h; rw [a1]; exact hlo h
  · rw [a1]; exact v.tieUp
  · rw [a1, Nat.mul_comm (2 ^ E) Y]; exact v.tieDown
end Go.Proofs.YtabkgpnckaaclaaGreatDoor

/- The document's own floats (slackwaterref06): even. -/
namespace Go.Proofs.YtabkgpnckaaclaaGreatDoor
open Go.RowKit
set_option linter.unusedVariables false

theorem ev_of {A D q r K : Nat} (h : A = q * D + r) (hr : r < D) (hK : (D < 2 * r ∧ K = q + 1) ∨ (2 * r = D ∧ K = q + q % 2) ∨ (2 * r < D ∧ K = q)) : Ev A D K := by
  have e1 : ∀ k, (2 * k + 1) * D = 2 * (k * D) + D := fun k => by rw [Nat.add_mul, Nat.mul_assoc, Nat.one_mul]
  have e2 : ∀ k, 2 * k * D = 2 * (k * D) := fun k => Nat.mul_assoc _ _ _
  have e3 : (q + 1) * D = q * D + D := by rw [Nat.add_mul, Nat.one_mul]
  rcases hK with ⟨h1, rfl⟩ | ⟨h1, h2⟩ | ⟨h1, rfl⟩
  · refine ⟨?_, ?_, fun g => ?_, fun g => ?_⟩ <;> (try rw [e1] at *) <;> (try rw [e2] at *) <;> rw [e3] at * <;> generalize q * D = T at * <;> omega
  · rcases Nat.mod_two_eq_zero_or_one q with hq | hq
    · have hk : K = q := by omega
      subst hk
      refine ⟨?_, ?_, fun g => ?_, fun g => ?_⟩ <;> (try rw [e1] at *) <;> (try rw [e2] at *) <;> generalize K * D = T at * <;> omega
    · have hk : K = q + 1 := by omega
      subst hk
      refine ⟨?_, ?_, fun g => ?_, fun g => ?_⟩ <;> (try rw [e1] at *) <;> (try rw [e2] at *) <;> rw [e3] at * <;> generalize q * D = T at * <;> omega
  · refine ⟨?_, ?_, fun g => ?_, fun g => ?_⟩ <;> (try rw [e1] at *) <;> (try rw [e2] at *) <;> generalize K * D = T at * <;> omega

set_option maxHeartbeats 1600000 in
set_option maxRecDepth 100000 in
theorem ndEven_any (a : Option Addr) (ca : Nat) (xs : List Int) (b : Option Addr) (cb : Nat) (ys : List Int) (w : World) (A D : Nat) (h : Sl w (.slice a xs.length ca) xs) (g : Sl w (.slice b ys.length cb) ys) (wx : Wd xs) (tx : Trimmed xs) (wy : Wd ys) (ty : Trimmed ys) (lx : xs.length ≤ 8192) (ly : ys.length ≤ 4400) (hA : val xs = A) (hD : val ys = D) (h0 : 0 < D) (hq : A < 9223372036854775808 * D) :
    Calls Tryz.prog 83 #[.slice a xs.length ca, .slice b ys.length cb] w fun e w' => ∃ n : Nat, e = .returned (.int .u64 (n : Int)) ∧ Ev A D n ∧ Below w.heap.size w w' := by
  have y0 : 0 < ys.length := by
    rcases Nat.eq_zero_or_pos ys.length with z | z
    · have : ys = [] := List.length_eq_zero_iff.1 z
      subst this
      have e : val [] = 0 := rfl
      omega
    · exact z
  have HH := hid (refDivMod_any _ _ xs ys w h g lx (by omega) tx ty y0)
  have HG := hid (And.intro g (And.intro wy (And.intro ty ly)))
  have HN := hid (And.intro hA (And.intro hD (And.intro h0 hq)))
  clear h g wx tx wy ty lx ly hA hD h0 hq y0
  go_enter Tryz.func83, Tryz.ntmps83
  go_wp2_with fail
  refine Calls.mono HH.out ?_
  rintro e w1 ⟨v1, v2, q, r, rfl, o1, o2, wq, wr, tq, tr, hqr, hlt, hb1⟩
  obtain ⟨gg, wy, ty, ly⟩ := HG.out
  obtain ⟨hA, hD, h0, hbig⟩ := HN.out
  obtain ⟨Q, hQ⟩ := Int.eq_ofNat_of_zero_le (val_nonneg wq)
  obtain ⟨R, hR⟩ := Int.eq_ofNat_of_zero_le (val_nonneg wr)
  rw [hA, hD, hQ, hR] at hqr
  rw [hR, hD] at hlt
  have hE : A = Q * D + R := by exact_mod_cast hqr
  have hRD : R < D := by exact_mod_cast hlt
  have hQb : Q < 9223372036854775808 := by
    rcases Nat.lt_or_ge Q 9223372036854775808 with z | z
    · exact z
    · have := Nat.mul_le_mul_right D z
      omega
  have lq : q.length ≤ 2 := len_of_lt wq tq (nd_two (by rw [hQ]; omega))
  have lr : r.length ≤ ys.length := len_le_of_val wy wr tr (by rw [hR, hD]; omega)
  have HU := hid (refUint64_sl v1 q w1 (Sl.own o1 wq) (by omega))
  rw [u64of_eq lq, hQ] at HU
  have HS := hid (fun V (hv : Below w1.heap.size w1 V) => ndShifted_any v2 r 1 V ((Sl.own o2 wr).later hv) wr tr (by omega) (by omega))
  rw [hR] at HS
  have HB1 := hid hb1
  have HV : Hid (∀ V, Below w1.heap.size w1 V → Sl V (.slice b ys.length cb) ys) := fun V hv => (gg.later hb1).later hv
  have HK := hid (And.intro hE (And.intro hRD (And.intro hQb (And.intro hD (And.intro ly wy)))))
  obtain ⟨a1, c1, hs1⟩ := own_slice' o1
  subst hs1
  obtain ⟨a2, c2, hs2⟩ := own_slice' o2
  subst hs2
  clear o1 o2 wq wr tq tr hqr hlt hb1 HH HG gg wy ty ly hA hD h0 hbig hE hRD hQb lq lr hR HN hQ
  go_wp2_with fail
  refine Calls.mono HU.out ?_
  rintro e w2 ⟨rfl, hb2⟩
  have HS2 := hid (HS.out w2 hb2)
  clear HU HS
  go_wp2_with fail
  refine Calls.mono HS2.out ?_
  rintro e w3 ⟨v3, zs, rfl, o3, wz, tz, hz, hb3⟩
  have lz : zs.length ≤ 281474976710656 := by
    have hl := val_lt (HK.out.2.2.2.2.2)
    have e1 : val zs < 4294967296 ^ (ys.length + 1) := by
      rw [hz]
      have e2 := HK.out.2.1
      have e3 := HK.out.2.2.2.1
      rw [e3] at hl
      have hp := pw_pos ys.length
      rw [Int.pow_succ]
      have e4 : (2 : Int) ^ 1 = 2 := rfl
      omega
    have := len_of_lt wz tz e1
    have := HK.out.2.2.2.2.1
    omega
  have HC := hid (refCompare_sl v3 (.slice b ys.length cb) zs ys w3 (Sl.own o3 wz) (HV.out w3 (bt hb2 hb3)) lz (by have := HK.out.2.2.2.2.1; omega))
  rw [hz, HK.out.2.2.2.1] at HC
  have HB3 := hid (bt HB1.out (bt hb2 hb3))
  obtain ⟨a3, c3, hs3⟩ := own_slice' o3
  subst hs3
  clear o3 wz tz hz hb2 hb3 HS2 HB1 HV lz
  go_wp2_with fail
  refine Calls.mono HC.out ?_
  rintro e w4 ⟨rfl, rfl⟩
  clear HC
  obtain ⟨hE, hRD, hQb, _⟩ := HK.out
  clear HK
  have hp1 : (R : Int) * 2 ^ 1 = 2 * (R : Int) := by omega
  rw [hp1]
  have HEv := hid (fun K hK => ev_of (K := K) hE hRD hK)
  have hw : IntKind.u64.wrap ((Q : Int) + 1) = ((Q + 1 : Nat) : Int) := by rw [IntKind.wrap_u64]; omega
  rcases Nat.lt_trichotomy (2 * R) D with hc | hc | hc
  · rw [cmpI_lt (by omega)]
    have HX := hid (HEv.out Q (.inr (.inr ⟨hc, rfl⟩)))
    clear hE hRD hQb hp1 HEv hw hc
    go_wp2_with fail
    go_ret
    exact ⟨Q, rfl, HX.out, HB3.out⟩
  · rw [cmpI_eq (by omega)]
    rcases Nat.mod_two_eq_zero_or_one Q with z | z
    · have HX := hid (HEv.out Q (.inr (.inl ⟨hc, by omega⟩)))
      have z' : (Q : Int) % 2 = 0 := by omega
      clear hE hRD hp1 HEv hw hc z
      go_wp2_with fail
      go_ret
      exact ⟨Q, rfl, HX.out, HB3.out⟩
    · have HX := hid (HEv.out (Q + 1) (.inr (.inl ⟨hc, by omega⟩)))
      have z' : (Q : Int) % 2 = 1 := by omega
      clear hE hRD hp1 HEv hc z
      go_wp2_with fail
      go_ret
      exact ⟨Q + 1, rfl, HX.out, HB3.out⟩
  · rw [cmpI_gt (by omega)]
    have HX := hid (HEv.out (Q + 1) (.inl ⟨hc, rfl⟩))
    clear hE hRD hQb hp1 HEv hc
    go_wp2_with fail
    go_ret
    exact ⟨Q + 1, rfl, HX.out, HB3.out⟩

end Go.Proofs.YtabkgpnckaaclaaGreatDoor

/- The unit that the document takes, by the fraction's size; what its count is, and the nearest float. Nothing here speaks of the program. -/
namespace Go.Proofs.YtabkgpnckaaclaaGreatDoor
open Go.RowKit
set_option linter.unusedVariables false

theorem ln_hi {X Y S Z E : Nat} {e : Int} {u : Nat} (hu : (u : Int) = e + 1 + S) (h : X * 2 ^ S < Y * 2 ^ u) (hE : e + 1 + Z ≤ 53 + E) : X * 2 ^ Z < 9007199254740992 * (Y * 2 ^ E) := by
  have hS := Nat.two_pow_pos S
  have hZ := Nat.two_pow_pos Z
  refine Nat.lt_of_mul_lt_mul_right (a := 2 ^ S) ?_
  have h1 : X * 2 ^ S * 2 ^ Z < Y * 2 ^ u * 2 ^ Z := Nat.mul_lt_mul_of_pos_right h hZ
  have h2 : Y * 2 ^ u * 2 ^ Z ≤ Y * 2 ^ (53 + E + S) := by
    rw [Nat.mul_assoc, ← Nat.pow_add]
    exact Nat.mul_le_mul_left _ (Nat.pow_le_pow_right (by decide) (by omega))
  have h3 : 9007199254740992 * (Y * 2 ^ E) * 2 ^ S = Y * 2 ^ (53 + E + S) := by
    rw [Nat.pow_add, Nat.pow_add, show (2 : Nat) ^ 53 = 9007199254740992 by decide, Nat.mul_left_comm, Nat.mul_assoc]
  rw [h3, Nat.mul_right_comm]
  exact Nat.lt_of_lt_of_le h1 h2
theorem ln_lo {X Y S Z E : Nat} {e : Int} {u : Nat} (hu : (u : Int) = e + S) (h : Y * 2 ^ u ≤ X * 2 ^ S) (hE : (52 + E : Int) = e + Z) : 4503599627370496 * (Y * 2 ^ E) ≤ X * 2 ^ Z := by
  have hS := Nat.two_pow_pos S
  refine ev_le (c := 2 ^ S) hS ?_
  have h1 : Y * 2 ^ u * 2 ^ Z ≤ X * 2 ^ S * 2 ^ Z := Nat.mul_le_mul_right _ h
  have h3 : 4503599627370496 * (Y * 2 ^ E) * 2 ^ S = Y * 2 ^ u * 2 ^ Z := by
    rw [Nat.mul_assoc Y, ← Nat.pow_add, show u + Z = 52 + E + S by omega, Nat.pow_add, Nat.pow_add, show (2 : Nat) ^ 52 = 4503599627370496 by decide, Nat.mul_left_comm, Nat.mul_assoc]
  rw [h3, Nat.mul_right_comm X (2 ^ Z) (2 ^ S)]
  exact h1
/-- The document's count and unit tell the nearest float. -/
theorem ln_mid {X Y S Z n : Nat} {e p : Int} {u v a b : Nat} (hZ : Z = 1074) (hY : 0 < Y) (hu : (u : Int) = e + S) (hv : (v : Int) = e + 1 + S) (hl : Y * 2 ^ u ≤ X * 2 ^ S) (hh : X * 2 ^ S < Y * 2 ^ v) (hp : p = max (e - 52) (-1074)) (ha : (a : Int) = max (-p) 0) (hb : (b : Int) = max p 0) (ev : Ev (X * 2 ^ a) (Y * 2 ^ b) n) :
    n ≤ 9007199254740992 ∧ (-1074 < p → 4503599627370496 ≤ n) ∧ Mid (X * 2 ^ Z) Y (min ((p + 1074).toNat * 4503599627370496 + n) 9218868437227405312) := by
  obtain ⟨E, hE⟩ : ∃ E : Nat, (p + 1074).toNat = E := ⟨_, rfl⟩
  rw [hE]
  have hEp : (E : Int) = p + 1074 := by omega
  have sc : 2 ^ E * 2 ^ a = 2 ^ Z * 2 ^ b := by rw [← Nat.pow_add, ← Nat.pow_add, show E + a = Z + b by omega]
  have ev2 := Ev.scale (Nat.two_pow_pos b) (Nat.two_pow_pos E) sc ev
  obtain ⟨k1, k2, k3⟩ := ev_mid hY ev2 (ln_hi hv hh (by omega)) (fun h => ln_lo hu hl (by omega))
  exact ⟨k1, fun h => k2 (by omega), k3⟩
end Go.Proofs.YtabkgpnckaaclaaGreatDoor

/- real.fraction: what a float that was taken apart is, in lowest terms, in new memory. -/
namespace Go.Proofs.YtabkgpnckaaclaaGreatDoor
open Go.RowKit
set_option linter.unusedVariables false

theorem one_wd : Wd [1] := Wd.one (by omega)
theorem one_trimmed : Trimmed [1] := rfl
theorem reads_of {W : World} {b g n : Nat} {ys : List Int} (h : OwnW W b g n ys) (hw : Wd ys) : Reads W W.heap.size (some ⟨g, 0, none⟩) n n ys := by
  obtain ⟨a, cap, hv, hr⟩ := Reads.own h hw
  cases hv
  exact hr

theorem len_succ {ys : List Int} {d : Nat} (h : val ys = d) (h0 : d ≠ 0) : ∃ l, ys.length = l + 1 := by
  cases ys with
  | nil => rw [val_nil] at h; omega
  | cons a b => exact ⟨b.length, rfl⟩
theorem end_own {V : World} {b g n p r j : Nat} {ys : List Int} {vs : Array Value} (h : OwnW V b g n ys) (hp : Box V p 25 vs) (hr : Box V r 25 #[.bool false, .slice none 0 0, .slice none 0 0]) (hne : p ≠ r) (x v0 v1 v2 : Value) (_u : Unit) : OwnW ((((V.setCell ⟨p, j, none⟩ x).setCell ⟨r, 0, none⟩ v0).setCell ⟨r, 1, none⟩ v1).setCell ⟨r, 2, none⟩ v2) b g n ys :=
  own_put3 (own_put1 h p (own_ne_box h hp (by decide)) j x) r (own_ne_box (own_put1 h p (own_ne_box h hp (by decide)) j x) (hr.other ⟨p, j, none⟩ x (Ne.symm hne)) (by decide)) v0 v1 v2
theorem end_below {B : Nat} {w V : World} {p r j : Nat} (h : Below B w V) (hp : B ≤ p) (hr : B ≤ r) (x v0 v1 v2 : Value) (_u : Unit) : Below B w ((((V.setCell ⟨p, j, none⟩ x).setCell ⟨r, 0, none⟩ v0).setCell ⟨r, 1, none⟩ v1).setCell ⟨r, 2, none⟩ v2) :=
  below_put3 (h.setCell (p := ⟨p, j, none⟩) hp x) r hr v0 v1 v2

set_option maxHeartbeats 3200000 in
set_option maxRecDepth 100000 in
theorem fraction_any (s : Bool) (m : Nat) (u : Int) (w : World) (hm : m < 18446744073709551616) (h0 : m ≠ 0) (u0 : -1074 ≤ u) (u1 : u ≤ 972) (hT : TabB w) :
    Calls Tryz.prog 36 #[.agg #[.bool s, .int .u64 (m : Int), .int .i64 u]] w fun e w' => ∃ a ca b cb zs ds, e = .returned (.agg #[.bool s, .slice a zs.length ca, .slice b ds.length cb]) ∧ w'.ownsRow w.heap.size 88 1 (.slice a zs.length ca) zs.length (zs.map (Value.int .u32)) ∧ w'.ownsRow w.heap.size 88 1 (.slice b ds.length cb) ds.length (ds.map (Value.int .u32)) ∧ Wd zs ∧ Trimmed zs ∧ Wd ds ∧ Trimmed ds ∧
      val zs = ((m / 2 ^ Lib.ctz 64 m : Nat) : Int) * 2 ^ (u + (Lib.ctz 64 m : Int)).toNat ∧ val ds = 2 ^ (-(u + (Lib.ctz 64 m : Int))).toNat ∧ a ≠ b ∧ Below w.heap.size w w' := by
  obtain ⟨hlow, hk⟩ := Lib.lowest_bit 64 m h0 hm
  have HTZ := hid (fun V hV => tz_any m V hm h0 hV)
  have hm0 : ((m : Int) == 0) = false := beq_eq_false_iff_ne.2 (by omega)
  have HXp := hid ((Box.made w 65 #[.bool s, .int .u64 (m : Int), .int .i64 u]).later (alloc_later _ (.cells #[.bool false, .slice none 0 0, .slice none 0 0] 25)) (by simp))
  have HXr : Hid (Box ((w.alloc (.cells #[.bool s, .int .u64 (m : Int), .int .i64 u] 65)).alloc (.cells #[.bool false, .slice none 0 0, .slice none 0 0] 25)) (w.heap.size + 1) 25 #[.bool false, .slice none 0 0, .slice none 0 0]) := by
    have e := Box.made (w.alloc (.cells #[.bool s, .int .u64 (m : Int), .int .i64 u] 65)) 25 #[.bool false, .slice none 0 0, .slice none 0 0]
    rw [World.size_alloc] at e
    exact e
  have HB := hid (bt (alloc_later w (.cells #[.bool s, .int .u64 (m : Int), .int .i64 u] 65)) (alloc_later _ (.cells #[.bool false, .slice none 0 0, .slice none 0 0] 25)))
  have HTX := hid (hT.later HB.out)
  have HB0 := hid HB.out
  clear hlow hT
  go_enter Tryz.func36, Tryz.ntmps36
  go_wp2_with fail
  refine Calls.mono (HTZ.out _ HTX.out) ?_
  generalize (w.alloc (.cells #[.bool s, .int .u64 (m : Int), .int .i64 u] 65)).alloc (.cells #[.bool false, .slice none 0 0, .slice none 0 0] 25) = X at *
  generalize hkk : Lib.ctz 64 m = k at *
  rintro e w1 ⟨rfl, rfl⟩
  have x0 : w1.cell? ⟨w.heap.size, 0, none⟩ = some (.bool s) := HXp.out.cell 0
  have x1 : w1.cell? ⟨w.heap.size, 1, none⟩ = some (.int .u64 (m : Int)) := HXp.out.cell 1
  have x2 : w1.cell? ⟨w.heap.size, 2, none⟩ = some (.int .i64 u) := HXp.out.cell 2
  obtain ⟨d, hd⟩ : ∃ d : Nat, m / 2 ^ k = d := ⟨_, rfl⟩
  have hsh : (m : Int) / 2 ^ k = (d : Int) := by rw [← hd]; exact cast_div_two m k
  have HD : Hid (d < 18446744073709551616 ∧ d ≠ 0) := div_odd hm h0 hkk hd
  have HK : Hid (∀ V, Below w1.heap.size w1 V → V.cell? ⟨w.heap.size, 0, none⟩ = some (.bool s) ∧ V.cell? ⟨w.heap.size, 1, none⟩ = some (.int .u64 (m : Int))) := fun V hb => by
    have hx := HXp.out.later hb HXp.out.lt
    exact ⟨hx.cell 0, hx.cell 1⟩
  have hs0 := HK.out _ (Below.drew (Below.refl _ w1))
  have HBR := hid (Below.drew (Below.refl w1.heap.size w1))
  have H1 : Hid (∀ ww, Below w1.heap.size w1 ww → Calls Tryz.prog 64 #[.int .u64 (d : Int)] ww fun e w' => ∃ ys : List Int, e = .returned (.slice (some ⟨ww.heap.size, 0, none⟩) ys.length ys.length) ∧ Hid (WordsE ww w' d ys) ∧ Below w1.heap.size w1 w' ∧ w1.heap.size ≤ w'.heap.size ∧ ww.heap.size < w'.heap.size ∧ (w1.heap.size ≠ w'.heap.size ∧ w1.heap.size < w'.heap.size) ∧ (∀ b j, b < ww.heap.size → w'.cell? ⟨b, j, none⟩ = ww.cell? ⟨b, j, none⟩) ∧ (∀ b j, b < ww.heap.size → w'.frozen? ⟨b, j, none⟩ = ww.frozen? ⟨b, j, none⟩) ∧ (w'.cell? ⟨w.heap.size, 0, none⟩ = some (.bool s) ∧ w'.cell? ⟨w.heap.size, 1, none⟩ = some (.int .u64 (m : Int)))) := fun ww hv => by
    refine Calls.mono (rwords64_any d ww HD.out.1 HD.out.2) ?_
    rintro e w' ⟨ys, rfl, a1, a2, a3, a4, a5, a6⟩
    exact ⟨ys, rfl, ⟨a1, a2, a3, a4, a5, a6⟩, bt hv a6, (bt hv a6).size, a1.base.2, ⟨by have h1 := a1.base.2; have h2 := hv.size; omega, by have h1 := a1.base.2; have h2 := hv.size; omega⟩, fun b j h => a6.cell (p := ⟨b, j, none⟩) h, fun b j h => below_frozen a6 h, HK.out _ (bt hv a6)⟩
  go_wp2_with fail
  have hku : ((k : Nat) : Int) ≤ 63 := by omega
  rename_i K hK
  have cont : Hid (∀ (W : World) (p g1 g2 : Nat) (ys : List Int), Hid (FinF w1 W s d p g1 g2 ys) → K { tmps := #[.agg #[.bool s, .int .u64 (m : Int), .int .i64 u], .pointer (some ⟨w.heap.size, 0, none⟩), .pointer (some ⟨w.heap.size + 1, 0, none⟩), .int .i64 (k : Int), .pointer (some ⟨p, 0, none⟩), undef, .pointer (some ⟨w.heap.size, 1, none⟩), .int .u64 (m : Int), .bool false, undef, undef, .pointer (some ⟨w.heap.size, 1, none⟩), .int .u64 (m : Int), .int .i64 (k : Int), .pointer (some ⟨w.heap.size, 0, none⟩), .bool s, .pointer (some ⟨w.heap.size, 1, none⟩), .int .u64 (m : Int), .int .i64 (k : Int), .int .u64 (d : Int), .slice (some ⟨g1, 0, none⟩) ys.length ys.length, .slice (some ⟨g2, 0, none⟩) 1 1, .agg #[.bool s, .slice (some ⟨g1, 0, none⟩) ys.length ys.length, .slice (some ⟨g2, 0, none⟩) 1 1], undef, undef, undef, undef, undef, undef, undef, undef, undef, undef, undef, undef, undef, undef, undef, undef, undef, undef], defers := [] } W) := fun W p g1 g2 ys HF => by
    clear H1 HK hs0 HBR
    refine hK _ _ ?_
    have hxp := HXp.out.later HF.out.2.2.2.2.2.2 HXp.out.lt
    have x2 : W.cell? ⟨w.heap.size, 2, none⟩ = some (.int .i64 u) := hxp.cell 2
    obtain ⟨r0, r1, r2, r3, r4, r5⟩ := res_box3 HF.out.1 (Below.refl _ _)
    by_cases hu : u + (k : Int) < 0
    · obtain ⟨q, t, ht, hqt⟩ : ∃ q t : Nat, t ≤ 31 ∧ -(u + (k : Int)) = 32 * q + t := ⟨(-(u + (k : Int))).toNat / 32, (-(u + (k : Int))).toNat % 32, by omega, by omega⟩
      have HSH := hid (rshifted_any (some ⟨g2, 0, none⟩) 0 1 [1] q t (32 * q + t) W (reads_of HF.out.2.2.1 one_wd) (by omega) one_trimmed (by omega) ht rfl)
      have HQT := hid hqt
      clear HTZ HTX hsh hm h0 hm0
      go_wp2_with fail
      refine Calls.mono HSH.out ?_
      rintro e w3 ⟨zs, rfl, o3, z2, z3, z4, hb3⟩
      have hbx := HF.out.1.later hb3 HF.out.1.lt
      have HBX := hid hbx
      have HRX := hid (HXr.out.later (bt HF.out.2.2.2.2.2.2 hb3) HXr.out.lt)
      have hpne : w.heap.size + 1 ≠ p := by have e1 := HXr.out.lt; have e2 := HF.out.2.2.2.2.2.1; omega
      have hpne2 : p ≠ w.heap.size + 1 := Ne.symm hpne
      obtain ⟨s0, s1, s2, s3, s4, s5⟩ := res_box3 hbx (Below.refl _ _)
      obtain ⟨y0, y1, y2, f0, f1, f2⟩ := res_box3 HRX.out (Below.refl _ _)
      have HO3 := hid o3
      have HZ := hid (And.intro z2 (And.intro z3 z4))
      have HB3 := hid hb3
      clear HSH r0 r1 r2 r3 r4 r5 o3 z2 z3 z4 hb3 hbx hxp x2 x0 x1
      go_wp2_with fail
      refine bodyPost_ret (v := .agg #[.bool s, .slice (some ⟨g1, 0, none⟩) ys.length ys.length, .slice (some ⟨W.heap.size, 0, none⟩) zs.length zs.length]) (by simp [results, Tryz.results36, go_sem, y0, y1, y2]) rfl ?_
      have e0 : w.heap.size ≤ w1.heap.size := HB.out.size
      have e1 := HXr.out.lt
      have e2 := HF.out.2.2.2.2.2.1
      refine ⟨some ⟨g1, 0, none⟩, ys.length, some ⟨W.heap.size, 0, none⟩, zs.length, ys, zs, rfl, owns_base (end_own (owns_later HF.out.2.1 HB3.out) HBX.out HRX.out hpne2 _ _ _ _ ()) e0, owns_base (end_own HO3.out HBX.out HRX.out hpne2 _ _ _ _ ()) (Nat.le_trans e0 HF.out.2.2.2.2.2.2.size), HF.out.2.2.2.1.1, HF.out.2.2.2.1.2.1, HZ.out.1, HZ.out.2.1, ?_, ?_, ?_, end_below (bt HB.out (bt HF.out.2.2.2.2.2.2 HB3.out)) (by omega) (by omega) _ _ _ _ ()⟩
      · rw [hkk, hd, HF.out.2.2.2.1.2.2.1, show (u + (k : Int)).toNat = 0 by omega]; simp
      · rw [hkk, HZ.out.2.2, val_one, show (-(u + (k : Int))).toNat = t + 32 * q by have := HQT.out; omega, Int.pow_add, ← pw_two, Int.one_mul]
      · have e3 := HF.out.2.1.base.2
        intro e4
        injection e4 with e5
        injection e5 with e6
        omega
    · obtain ⟨q, t, ht, hqt⟩ : ∃ q t : Nat, t ≤ 31 ∧ u + (k : Int) = 32 * q + t := ⟨(u + (k : Int)).toNat / 32, (u + (k : Int)).toNat % 32, by omega, by omega⟩
      obtain ⟨l, hl⟩ := len_succ HF.out.2.2.2.1.2.2.1 HD.out.2
      have HLL : Hid (l ≤ 1) := by have := HF.out.2.2.2.1.2.2.2; show _ ≤ _; omega
      have HSH : Hid (Calls Tryz.prog 65 #[.slice (some ⟨g1, 0, none⟩) ys.length ys.length, .int .i64 (32 * q + t)] W fun e w' => ∃ zs : List Int, e = .returned (.slice (some ⟨W.heap.size, 0, none⟩) zs.length zs.length) ∧ OwnW w' W.heap.size W.heap.size zs.length zs ∧ Wd zs ∧ Trimmed zs ∧ val zs = val ys * 2 ^ t * 4294967296 ^ q ∧ Below W.heap.size W w') := by
        have e := rshifted_any (some ⟨g1, 0, none⟩) l ys.length ys q t (32 * q + t) W (by have e := reads_of HF.out.2.1 HF.out.2.2.2.1.1; rw [← hl]; exact e) (by have := HLL.out; omega) HF.out.2.2.2.1.2.1 (by omega) ht rfl
        rw [← hl] at e
        exact e
      clear hl HLL
      have HQT := hid hqt
      clear HTZ HTX hsh hm h0 hm0
      go_wp2_with fail
      refine Calls.mono HSH.out ?_
      rintro e w3 ⟨zs, rfl, o3, z2, z3, z4, hb3⟩
      have hbx := HF.out.1.later hb3 HF.out.1.lt
      have HBX := hid hbx
      have HRX := hid (HXr.out.later (bt HF.out.2.2.2.2.2.2 hb3) HXr.out.lt)
      have hpne : w.heap.size + 1 ≠ p := by have e1 := HXr.out.lt; have e2 := HF.out.2.2.2.2.2.1; omega
      have hpne2 : p ≠ w.heap.size + 1 := Ne.symm hpne
      obtain ⟨s0, s1, s2, s3, s4, s5⟩ := res_box3 hbx (Below.refl _ _)
      obtain ⟨y0, y1, y2, f0, f1, f2⟩ := res_box3 HRX.out (Below.refl _ _)
      have HO3 := hid o3
      have HZ := hid (And.intro z2 (And.intro z3 z4))
      have HB3 := hid hb3
      clear HSH r0 r1 r2 r3 r4 r5 o3 z2 z3 z4 hb3 hbx hxp x2 x0 x1
      go_wp2_with fail
      refine bodyPost_ret (v := .agg #[.bool s, .slice (some ⟨W.heap.size, 0, none⟩) zs.length zs.length, .slice (some ⟨g2, 0, none⟩) 1 1]) (by simp [results, Tryz.results36, go_sem, y0, y1, y2]) rfl ?_
      have e0 : w.heap.size ≤ w1.heap.size := HB.out.size
      have e1 := HXr.out.lt
      have e2 := HF.out.2.2.2.2.2.1
      refine ⟨some ⟨W.heap.size, 0, none⟩, zs.length, some ⟨g2, 0, none⟩, 1, zs, [1], rfl, owns_base (end_own HO3.out HBX.out HRX.out hpne2 _ _ _ _ ()) (Nat.le_trans e0 HF.out.2.2.2.2.2.2.size), owns_base (end_own (owns_later HF.out.2.2.1 HB3.out) HBX.out HRX.out hpne2 _ _ _ _ ()) e0, HZ.out.1, HZ.out.2.1, one_wd, one_trimmed, ?_, ?_, ?_, end_below (bt HB.out (bt HF.out.2.2.2.2.2.2 HB3.out)) (by omega) (by omega) _ _ _ _ ()⟩
      · rw [hkk, hd, HZ.out.2.2, HF.out.2.2.2.1.2.2.1, show (u + (k : Int)).toNat = t + 32 * q by have := HQT.out; omega, Int.pow_add, ← pw_two, Int.mul_assoc]
      · rw [hkk, val_one, show (-(u + (k : Int))).toNat = 0 by omega]; simp
      · have e3 := HF.out.2.2.1.base.2
        intro e4
        injection e4 with e5
        injection e5 with e6
        omega
  clear x0 x1
  go_region_held3 (fun V : World => V.cell? ⟨w.heap.size, 0, none⟩ = some (.bool s) ∧ V.cell? ⟨w.heap.size, 1, none⟩ = some (.int .u64 (m : Int))) (first | exact hs1 | exact hs0 | (refine HK.out _ ?_; repeat' first | exact hb1 | exact HBR.out | exact Below.refl _ _ | refine below_alloc1 ?_ _ | refine Below.drew ?_ | refine below_put3 ?_ _ ?_ _ _ _ | omega | (simp only [World.size_alloc]; omega)))
    (first
      | (go_at_call 64; with_reducible refine Calls.mono (H1.out _ (by first | exact HBR.out | exact bt HBR.out (alloc_later _ _) | exact bt (bt HBR.out (alloc_later _ _)) (alloc_later _ _))) ?_; rintro e w2 ⟨ys, rfl, HE, hb1, hz1, hz2, ⟨hn1, hn2⟩, hcf, hff, hs1⟩))
  · exact cont.out _ _ _ _ ys (fin1 (undrew HE.out))
  · exact cont.out _ _ _ _ ys (fin2 (undrew HE.out))
  · exact cont.out _ _ _ _ ys (fin3 (undrew HE.out))
  · exact cont.out _ _ _ _ ys (fin4 (undrew HE.out))
  · exact cont.out _ _ _ _ ys (fin5 (undrew HE.out))
  · exact cont.out _ _ _ _ ys (fin6 (undrew HE.out))

end Go.Proofs.YtabkgpnckaaclaaGreatDoor

/- Same, Equal, Finite, Abs of parts and of the document's answers, of any complex numbers, by their parts' bits. -/
namespace Go.Proofs.YtabkgpnckaaclaaGreatDoor
open Go.RowKit
set_option linter.unusedVariables false

/-- A float less itself. -/
theorem less_self {x r : Nat} (h : FN .sub x x r) : (FloatKind.f64.format.order r 0 == some .eq) = fin x := by
  cases f : fin x
  · have e : floatBits .sub .f64 x x = none := by
      show (((Ieee.double.read x).sum (Ieee.double.read x).opposite).map _) = none
      rcases read_not f with ⟨s, e⟩ | ⟨s, t, e⟩ <;> rw [e]
      · cases s <;> rfl
      · rfl
    rcases h.2 with g | ⟨_, g⟩
    · rw [e] at g; cases g
    · rw [order_nan_l g]; rfl
  · obtain ⟨s, m, i, e⟩ := read_fin f
    have g : floatBits .sub .f64 x x = some 0 := by
      show (((Ieee.double.read x).sum (Ieee.double.read x).opposite).map _) = some 0
      rw [e]
      have z : Ieee.signed s m (i - min i i).toNat + Ieee.signed (!s) m (i - min i i).toNat = 0 := by
        cases s <;> simp [Ieee.signed] <;> omega
      simp only [Ieee.Datum.opposite, Ieee.Datum.sum, z]
      cases s <;> simp [Ieee.Format.write, Ieee.Format.nearest, Ieee.Format.word]
    rcases h.2 with k | ⟨k, _⟩
    · rw [g] at k; cases k; decide
    · rw [g] at k; cases k

set_option maxHeartbeats 800000 in
set_option maxRecDepth 100000 in
theorem zdFinite1_any (x : Nat) (w : World) :
    Calls Tryz.prog 96 #[.float .f64 x] w fun e w' => e = .returned (.bool (fin x)) ∧ Below w.heap.size w w' := by
  have rS := fsub_run Tryz.prog 26
  have hl := less_self (fval_fn .sub w x x)
  go_enter Tryz.func96, Tryz.ntmps96
  go_wp2
  go_ret
  exact ⟨rfl, fwld_below _ _ _ (Below.refl _ _)⟩

set_option maxHeartbeats 800000 in
set_option maxRecDepth 100000 in
theorem zdFinite_any (a b : Nat) (w : World) :
    Calls Tryz.prog 60 #[.complex .f64 a b] w fun e w' => e = .returned (.bool (fin a && fin b)) ∧ Below w.heap.size w w' := by
  have HX := hid (zdFinite1_any a w)
  have HY := hid (fun V => zdFinite1_any b V)
  cases e : fin a <;> rw [e] at HX <;> clear e
  · rw [Bool.false_and]
    go_enter Tryz.func60, Tryz.ntmps60
    go_wp2_with fail
    refine Calls.mono HX.out ?_
    rintro e w2 ⟨rfl, hb⟩
    go_wp2_with fail
    go_ret
    exact ⟨rfl, hb⟩
  · rw [Bool.true_and]
    go_enter Tryz.func60, Tryz.ntmps60
    go_wp2_with fail
    refine Calls.mono HX.out ?_
    rintro e w2 ⟨rfl, hb⟩
    go_wp2_with fail
    refine Calls.mono (HY.out w2) ?_
    rintro e w3 ⟨rfl, hb3⟩
    go_wp2_with fail
    go_ret
    exact ⟨rfl, hb.trans (hb3.mono hb.size)⟩

end Go.Proofs.YtabkgpnckaaclaaGreatDoor

/- real.Exact and parts.Exact, of finite floats that are not 0. -/
namespace Go.Proofs.YtabkgpnckaaclaaGreatDoor
open Go.RowKit
set_option linter.unusedVariables false

/-- The numerator's and the denominator's value of a float that is not 0. -/
def fnum (x : Nat) : Int := ((fcount x / 2 ^ Lib.ctz 64 (fcount x) : Nat) : Int) * 2 ^ (funit x + (Lib.ctz 64 (fcount x) : Int)).toNat
def fden (x : Nat) : Int := 2 ^ (-(funit x + (Lib.ctz 64 (fcount x) : Int))).toNat
/-- A fraction in memory of the call's own. -/
def OwnR (w : World) (base : Nat) (a : Option Addr) (ca : Nat) (zs : List Int) (b : Option Addr) (cb : Nat) (ds : List Int) : Prop :=
  w.ownsRow base 88 1 (.slice a zs.length ca) zs.length (zs.map (Value.int .u32)) ∧ w.ownsRow base 88 1 (.slice b ds.length cb) ds.length (ds.map (Value.int .u32)) ∧ Wd zs ∧ Trimmed zs ∧ Wd ds ∧ Trimmed ds ∧ a ≠ b
theorem OwnR.later {w w' : World} {base : Nat} {a : Option Addr} {ca : Nat} {zs : List Int} {b : Option Addr} {cb : Nat} {ds : List Int} (h : OwnR w base a ca zs b cb ds) (hb : Below w.heap.size w w') : OwnR w' base a ca zs b cb ds := ⟨owns_later h.1 hb, owns_later h.2.1 hb, h.2.2⟩
theorem OwnR.base {w : World} {base base' : Nat} {a : Option Addr} {ca : Nat} {zs : List Int} {b : Option Addr} {cb : Nat} {ds : List Int} (h : OwnR w base a ca zs b cb ds) (hb : base' ≤ base) : OwnR w base' a ca zs b cb ds := ⟨owns_base h.1 hb, owns_base h.2.1 hb, h.2.2⟩
theorem OwnR.put3 {w : World} {base p t : Nat} {a : Option Addr} {ca : Nat} {zs : List Int} {b : Option Addr} {cb : Nat} {ds : List Int} {vs : Array Value} (h : OwnR w base a ca zs b cb ds) (hb : Box w p t vs) (hne : 88 ≠ t) (v0 v1 v2 : Value) : OwnR (((w.setCell ⟨p, 0, none⟩ v0).setCell ⟨p, 1, none⟩ v1).setCell ⟨p, 2, none⟩ v2) base a ca zs b cb ds :=
  ⟨own_put3 h.1 p (own_ne_box h.1 hb hne) _ _ _, own_put3 h.2.1 p (own_ne_box h.2.1 hb hne) _ _ _, h.2.2⟩

set_option maxHeartbeats 1600000 in
set_option maxRecDepth 100000 in
theorem exact_nz (x : Nat) (w : World) (hx : x < 18446744073709551616) (hf : fin x = true) (h0 : fcount x ≠ 0) (hT : TabB w) :
    Calls Tryz.prog 7 #[.float .f64 x] w fun e w' => ∃ a ca b cb zs ds, e = .returned (.tuple #[.agg #[.bool (x / 9223372036854775808 == 1), .slice a zs.length ca, .slice b ds.length cb], .int .i64 0]) ∧ OwnR w' w.heap.size a ca zs b cb ds ∧ val zs = fnum x ∧ val ds = fden x ∧ Below w.heap.size w w' := by
  have HZ := hid (Box.made w 25 #[.bool false, .slice none 0 0, .slice none 0 0])
  have HB := hid (alloc_later w (.cells #[.bool false, .slice none 0 0, .slice none 0 0] 25))
  have HF := hid (fun V => finite_any x V hx)
  rw [hf] at HF
  have HA := hid (fun V => takeApart_any x V hx)
  have hT2 := hT.later HB.out
  have HTT := hid hT2
  have HU := hid (funit_le x)
  have HC := hid (fcount_lt x)
  have HN := hid h0
  have HV : Hid (fnum x = ((fcount x / 2 ^ Lib.ctz 64 (fcount x) : Nat) : Int) * 2 ^ (funit x + (Lib.ctz 64 (fcount x) : Int)).toNat ∧ fden x = 2 ^ (-(funit x + (Lib.ctz 64 (fcount x) : Int))).toNat) := ⟨rfl, rfl⟩
  generalize fnum x = fN at *
  generalize fden x = fD at *
  generalize (x / 9223372036854775808 == 1) = s at *
  generalize fcount x = m at *
  generalize funit x = u at *
  clear hf h0 hT hT2 hx
  go_enter Tryz.func7, Tryz.ntmps7
  go_wp2_with fail
  generalize w.alloc (.cells #[.bool false, .slice none 0 0, .slice none 0 0] 25) = X at *
  refine Calls.mono (HF.out _) ?_
  rintro e w1 ⟨rfl, rfl⟩
  go_wp2_with fail
  refine Calls.mono (HA.out _) ?_
  rintro e w2 ⟨rfl, hb2⟩
  have HB2 := hid hb2
  have HTT2 := hid (HTT.out.later hb2)
  have HFR := hid (fraction_any s m u w2 (by have := HC.out; omega) HN.out HU.out.1 (by have := HU.out.2; omega) HTT2.out)
  clear hb2
  go_wp2_with fail
  refine Calls.mono HFR.out ?_
  rintro e w3 ⟨a, ca, b, cb, zs, ds, rfl, o1, o2, q1, q2, q3, q4, q5, q6, q7, hb3⟩
  have HO : Hid (OwnR w3 w2.heap.size a ca zs b cb ds) := ⟨o1, o2, q1, q2, q3, q4, q7⟩
  have HQ := hid (And.intro q5 q6)
  have HB3 := hid (bt HB2.out hb3)
  have HZ3 := hid (HZ.out.later HB3.out HZ.out.lt)
  obtain ⟨y0, y1, y2, f0, f1, f2⟩ := res_box3 HZ3.out (Below.refl _ _)
  clear o1 o2 q1 q2 q3 q4 q5 q6 q7 hb3 HFR HTT2 HTT
  go_wp2_with fail
  refine bodyPost_ret (v := .tuple #[.agg #[.bool s, .slice a zs.length ca, .slice b ds.length cb], .int .i64 0]) (by simp [results, Tryz.results7, go_sem, y0, y1, y2]) rfl ?_
  exact ⟨a, ca, b, cb, zs, ds, rfl, (HO.out.put3 HZ3.out (by decide) _ _ _).base (Nat.le_trans HB.out.size HB2.out.size), by rw [HV.out.1]; exact HQ.out.1, by rw [HV.out.2]; exact HQ.out.2, below_put3 (bt HB.out HB3.out) _ (Nat.le_refl _) _ _ _⟩

end Go.Proofs.YtabkgpnckaaclaaGreatDoor

/- real.fraction of nothing; real.Exact of 0, of what is not finite. -/
namespace Go.Proofs.YtabkgpnckaaclaaGreatDoor
open Go.RowKit
set_option linter.unusedVariables false

set_option maxHeartbeats 800000 in
set_option maxRecDepth 100000 in
theorem fraction_zero (s : Bool) (u : Int) (w : World) :
    Calls Tryz.prog 36 #[.agg #[.bool s, .int .u64 0, .int .i64 u]] w fun e w' => ∃ g, e = .returned (.agg #[.bool false, .slice none 0 0, .slice (some ⟨g, 0, none⟩) 1 1]) ∧ OwnW w' w.heap.size g 1 [1] ∧ Below w.heap.size w w' := by
  go_enter Tryz.func36, Tryz.ntmps36
  go_wp2_with fail
  go_returns
  have r := one_row ((w.alloc (.cells #[.bool s, .int .u64 0, .int .i64 u] 65)).alloc (.cells #[.bool false, .slice none 0 0, .slice (some ⟨w.heap.size + 1 + 1, 0, none⟩) 1 1] 25)) (b := w.heap.size) (by rw [World.size_alloc, World.size_alloc]; omega)
  rw [World.size_alloc, World.size_alloc] at r
  exact ⟨_, rfl, r, bt (bt (alloc_later _ _) (alloc_later _ _)) (alloc_later _ _)⟩

set_option maxHeartbeats 800000 in
set_option maxRecDepth 100000 in
theorem exact_bad (x : Nat) (w : World) (hx : x < 18446744073709551616) (hf : fin x = false) :
    Calls Tryz.prog 7 #[.float .f64 x] w fun e w' => e = .returned (.tuple #[.agg #[.bool false, .slice none 0 0, .slice none 0 0], .int .i64 8]) ∧ Below w.heap.size w w' := by
  have HF := hid (fun V => finite_any x V hx)
  rw [hf] at HF
  clear hf hx
  go_enter Tryz.func7, Tryz.ntmps7
  go_wp2_with fail
  refine Calls.mono (HF.out _) ?_
  rintro e w1 ⟨rfl, rfl⟩
  go_wp2_with fail
  go_returns
  exact ⟨rfl, alloc_later _ _⟩

set_option maxHeartbeats 800000 in
set_option maxRecDepth 100000 in
theorem exact_zero (x : Nat) (w : World) (hx : x < 18446744073709551616) (hf : fin x = true) (h0 : fcount x = 0) :
    Calls Tryz.prog 7 #[.float .f64 x] w fun e w' => ∃ g, e = .returned (.tuple #[.agg #[.bool false, .slice none 0 0, .slice (some ⟨g, 0, none⟩) 1 1], .int .i64 0]) ∧ OwnW w' w.heap.size g 1 [1] ∧ Below w.heap.size w w' := by
  have HZ := hid (Box.made w 25 #[.bool false, .slice none 0 0, .slice none 0 0])
  have HB := hid (alloc_later w (.cells #[.bool false, .slice none 0 0, .slice none 0 0] 25))
  have HF := hid (fun V => finite_any x V hx)
  rw [hf] at HF
  have HA := hid (fun V => takeApart_any x V hx)
  rw [h0] at HA
  generalize (x / 9223372036854775808 == 1) = s at *
  generalize funit x = u at *
  clear hf h0 hx
  go_enter Tryz.func7, Tryz.ntmps7
  go_wp2_with fail
  generalize w.alloc (.cells #[.bool false, .slice none 0 0, .slice none 0 0] 25) = X at *
  refine Calls.mono (HF.out _) ?_
  rintro e w1 ⟨rfl, rfl⟩
  go_wp2_with fail
  refine Calls.mono (HA.out _) ?_
  rintro e w2 ⟨rfl, hb2⟩
  have HB2 := hid hb2
  have HFR := hid (fraction_zero s u w2)
  clear hb2
  go_wp2_with fail
  refine Calls.mono HFR.out ?_
  rintro e w3 ⟨g, rfl, o1, hb3⟩
  have HO := hid o1
  have HB3 := hid (bt HB2.out hb3)
  have HZ3 := hid (HZ.out.later HB3.out HZ.out.lt)
  obtain ⟨y0, y1, y2, f0, f1, f2⟩ := res_box3 HZ3.out (Below.refl _ _)
  clear o1 hb3 HFR
  go_wp2_with fail
  refine bodyPost_ret (v := .tuple #[.agg #[.bool false, .slice none 0 0, .slice (some ⟨g, 0, none⟩) 1 1], .int .i64 0]) (by simp [results, Tryz.results7, go_sem, y0, y1, y2]) rfl ?_
  exact ⟨g, rfl, owns_base (own_put3 HO.out w.heap.size (own_ne_box HO.out HZ3.out (by decide)) _ _ _) (Nat.le_trans HB.out.size HB2.out.size), below_put3 (bt HB.out HB3.out) _ (Nat.le_refl _) _ _ _⟩

end Go.Proofs.YtabkgpnckaaclaaGreatDoor

/- real.Exact, of every float: the fraction that it is, in its one form, or the error. -/
namespace Go.Proofs.YtabkgpnckaaclaaGreatDoor
open Go.RowKit
set_option linter.unusedVariables false

/-- The fraction that a finite float is. -/
def fq (x : Nat) : Rat := Rat.divInt (sg (x / 9223372036854775808 == 1) ((fcount x : Int) * 2 ^ (funit x).toNat)) (2 ^ (-(funit x)).toNat)

/-- A fraction told in new memory, Num and Den apart, whichever was made first. -/
def RToldB (w : World) (e : Int) (q : Rat) (x : Ending) (w' : World) : Prop :=
  ∃ n a ca b cb xs ys code, x = .returned (.tuple #[.agg #[.bool n, .slice a (List.length xs) ca, .slice b (List.length ys) cb], .int .i64 code]) ∧ w'.ownsRow w.heap.size 88 1 (.slice a xs.length ca) xs.length (xs.map (Value.int .u32)) ∧ w'.ownsRow w.heap.size 88 1 (.slice b ys.length cb) ys.length (ys.map (Value.int .u32)) ∧ RTells e q n xs ys code ∧ (a = none ∨ a ≠ b) ∧ Below w.heap.size w w'

theorem odd_pow (j e : Nat) : Nat.gcd (2 * j + 1) (2 ^ e) = 1 := by
  have h : Nat.Coprime (2 * j + 1) 2 := by
    unfold Nat.Coprime
    rw [Nat.gcd_comm, Nat.gcd_rec, show (2 * j + 1) % 2 = 1 by omega]
    rfl
  exact Nat.Coprime.pow_right e h

theorem count_odd {m : Nat} (h0 : m ≠ 0) (hm : m < 18446744073709551616) : ∃ j, m = 2 ^ Lib.ctz 64 m * (2 * j + 1) ∧ m / 2 ^ Lib.ctz 64 m = 2 * j + 1 ∧ Lib.ctz 64 m < 64 := by
  obtain ⟨j, hj, hk⟩ := Lib.ctzFrom_spec 64 m (by omega) hm
  have e : Lib.ctz 64 m = Lib.ctzFrom 64 m := by unfold Lib.ctz; rw [if_neg h0]
  rw [e]
  clear e
  generalize Lib.ctzFrom 64 m = k at *
  exact ⟨j, hj, by rw [hj]; exact Nat.mul_div_cancel_left _ (Nat.two_pow_pos _), hk⟩

theorem rtells_self {n : Bool} {xs ys : List Int} (wx : Wd xs) (wy : Wd ys) (h : rchk n xs ys = 0) : RTells 0 (rq n xs ys) n xs ys 0 := by
  obtain ⟨lx, ly, tx, ty, y0, s0, g⟩ := rchk_ok h
  obtain ⟨m, us, vs, c, e1, e2, e3, r⟩ := rtells_of (n := n) wx tx wy ty (val_pos' wy ty y0) g
  have e4 := e1 none 0 none 0
  unfold rtoldV at e4
  rw [if_neg (by omega)] at e4
  have hc : c = 0 := by
    simp at e4
    exact e4.2.symm
  subst hc
  have hm : (n && decide (0 < xs.length)) = n := by
    rcases s0 with rfl | s0
    · rfl
    · rw [decide_eq_true s0, Bool.and_true]
  rw [hm] at e4
  have hn : n = m := by simp at e4; exact e4
  subst hn
  rw [if_pos rfl] at e2 e3
  subst e2 e3
  exact r

/-- In lowest terms, of not too many words, and the float's value. -/
theorem frac_good {x : Nat} {zs ds : List Int} (h0 : fcount x ≠ 0) (wz : Wd zs) (tz : Trimmed zs) (wd : Wd ds) (td : Trimmed ds) (hz : val zs = fnum x) (hd : val ds = fden x) :
    RTells 0 (fq x) (x / 9223372036854775808 == 1) zs ds 0 := by
  have hc := fcount_lt x
  have hu := funit_le x
  obtain ⟨j, hj, hq, hk⟩ := count_odd h0 (by omega)
  unfold fnum at hz
  unfold fden at hd
  rw [hq] at hz
  have hfq : fq x = Rat.divInt (sg (x / 9223372036854775808 == 1) ((fcount x : Int) * 2 ^ (funit x).toNat)) (2 ^ (-(funit x)).toNat) := rfl
  generalize (x / 9223372036854775808 == 1) = n at *
  generalize fcount x = m at *
  generalize funit x = u at *
  generalize Lib.ctz 64 m = k at *
  have hjb : 2 * j + 1 ≤ m := by
    rw [hj]
    exact Nat.le_mul_of_pos_left _ (Nat.two_pow_pos k)
  have hpz := two_pos (u + (k : Int)).toNat
  have hpd := two_pos (-(u + (k : Int))).toNat
  have hz1 : val zs < 4294967296 ^ 40 := by
    have e1 : (2 : Int) ^ (u + (k : Int)).toNat ≤ 2 ^ 1200 := two_le (by omega)
    have e2 : val zs ≤ 9007199254740992 * 2 ^ (u + (k : Int)).toNat := by rw [hz]; exact Int.mul_le_mul_of_nonneg_right (by omega) (Int.le_of_lt hpz)
    have e3 : (9007199254740992 : Int) = 2 ^ 53 := by decide
    have e4 : (9007199254740992 : Int) * 2 ^ (u + (k : Int)).toNat ≤ 2 ^ 1253 := by
      rw [e3, ← Int.pow_add]; exact two_le (by omega)
    have e5 : (2 : Int) ^ 1253 < 4294967296 ^ 40 := by
      rw [pw_two]
      have : (2 : Int) ^ 1254 ≤ 2 ^ (32 * 40) := two_le (by omega)
      have e6 : (2 : Int) ^ 1254 = 2 ^ 1253 * 2 := Int.pow_succ 2 1253
      have e7 := two_pos 1253
      generalize (2 : Int) ^ 1253 = P at *
      omega
    generalize (2 : Int) ^ 1253 = P at *
    generalize (4294967296 : Int) ^ 40 = Q at *
    omega
  have hd1 : val ds < 4294967296 ^ 40 := by
    rw [hd, pw_two]
    have e1 : (2 : Int) ^ (-(u + (k : Int))).toNat ≤ 2 ^ 1074 := two_le (by omega)
    have e2 : (2 : Int) ^ 1075 ≤ 2 ^ (32 * 40) := two_le (by omega)
    have e3 : (2 : Int) ^ 1075 = 2 ^ 1074 * 2 := Int.pow_succ 2 1074
    have e4 := two_pos 1074
    generalize (2 : Int) ^ 1074 = P at *
    generalize (2 : Int) ^ (32 * 40) = Q at *
    omega
  have lz := len_of_lt wz tz hz1
  have ld := len_of_lt wd td hd1
  have zpos : 0 < val zs := by rw [hz]; exact Int.mul_pos (by omega) hpz
  have dpos : 0 < val ds := by rw [hd]; exact hpd
  have zl : 0 < zs.length := by
    cases zs with
    | nil => rw [val_nil] at zpos; omega
    | cons a b => simp
  have dl : 0 < ds.length := by
    cases ds with
    | nil => rw [val_nil] at dpos; omega
    | cons a b => simp
  have hg : gcdI (val zs) (val ds) = 1 := by
    unfold gcdI
    by_cases hU : 0 ≤ u + (k : Int)
    · rw [hd, show (-(u + (k : Int))).toNat = 0 by omega, Int.pow_zero, Int.gcd_one_right]; rfl
    · rw [hz, hd, show (u + (k : Int)).toNat = 0 by omega, Int.pow_zero, Int.mul_one]
      have e : (2 : Int) ^ (-(u + (k : Int))).toNat = ((2 ^ (-(u + (k : Int))).toNat : Nat) : Int) := by rw [Int.natCast_pow]; rfl
      rw [e, Int.gcd_natCast_natCast, odd_pow]; rfl
  have hk0 : rchk n zs ds = 0 := rchk_good (by omega) (by omega) tz td dl (.inr zl) hg
  have hr : rq n zs ds = fq x := by
    rw [hfq]
    show Rat.divInt (sg n (val zs)) (val ds) = _
    rw [Rat.divInt_eq_divInt_iff (by omega) (by have := two_pos (-u).toNat; omega), ← sg_mul, ← sg_mul, hz, hd]
    congr 1
    rw [hj, Int.natCast_mul, Int.natCast_pow]
    have e : (2 : Int) ^ (u + (k : Int)).toNat * 2 ^ (-u).toNat = 2 ^ k * 2 ^ u.toNat * 2 ^ (-(u + (k : Int))).toNat := by
      rw [← Int.pow_add, ← Int.pow_add, ← Int.pow_add]
      congr 1
      omega
    rw [Int.mul_assoc, e]
    show _ = ((2 : Int) ^ k * _ * _) * _
    generalize ((2 * j + 1 : Nat) : Int) = O
    ac_rfl
  rw [← hr]
  exact rtells_self wz wd hk0

theorem zero_good {x : Nat} (h0 : fcount x = 0) : RTells 0 (fq x) false [] [1] 0 := by
  have hk0 : rchk false [] [1] = 0 := by decide
  have hr : rq false [] [1] = fq x := by
    unfold fq
    rw [h0]
    show Rat.divInt 0 1 = _
    have e : sg (x / 9223372036854775808 == 1) (((0 : Nat) : Int) * 2 ^ (funit x).toNat) = 0 := by
      rw [Int.natCast_zero, Int.zero_mul]
      cases (x / 9223372036854775808 == 1) <;> rfl
    rw [e, Rat.zero_divInt, Rat.zero_divInt]
  rw [← hr]
  exact rtells_self Wd.nil one_wd hk0

theorem exact_any (x : Nat) (w : World) (hx : x < 18446744073709551616) (hT : TabB w) :
    Calls Tryz.prog 7 #[.float .f64 x] w (RToldB w (if fin x then 0 else 8) (fq x)) := by
  cases hf : fin x
  · refine Calls.mono (exact_bad x w hx hf) ?_
    rintro e w' ⟨rfl, hb⟩
    exact ⟨false, none, 0, none, 0, [], [], 8, rfl, World.ownsRow_nil _ _ _ _, World.ownsRow_nil _ _ _ _, RTells.err (by decide), .inl rfl, hb⟩
  · by_cases h0 : fcount x = 0
    · refine Calls.mono (exact_zero x w hx hf h0) ?_
      rintro e w' ⟨g, rfl, o, hb⟩
      exact ⟨false, none, 0, some ⟨g, 0, none⟩, 1, [], [1], 0, rfl, World.ownsRow_nil _ _ _ _, o, zero_good h0, .inl rfl, hb⟩
    · refine Calls.mono (exact_nz x w hx hf h0 hT) ?_
      rintro e w' ⟨a, ca, b, cb, zs, ds, rfl, o, vz, vd, hb⟩
      exact ⟨_, a, ca, b, cb, zs, ds, 0, rfl, o.1, o.2.1, frac_good h0 o.2.2.1 o.2.2.2.1 o.2.2.2.2.1 o.2.2.2.2.2.1 vz vd, .inr o.2.2.2.2.2.2, hb⟩

end Go.Proofs.YtabkgpnckaaclaaGreatDoor

/- Finite floats as whole numbers of 2^-1074: what sums, differences and products tell, and bounds that go with them. Nothing here speaks of the program. -/
namespace Go.Proofs.YtabkgpnckaaclaaGreatDoor

/-- Finite, by the bits. -/
def Fi (x : Nat) : Prop := x < 18446744073709551616 ∧ x % 9223372036854775808 < 9218868437227405312
/-- The number that finite bits stand for, in units of 2^-1074. -/
def sv (x : Nat) : Int := if (x / 9223372036854775808 % 2 == 1) = true then -(rungVal (x % 9223372036854775808) : Int) else (rungVal (x % 9223372036854775808) : Int)

theorem sv_low {x : Nat} (h : x < 9223372036854775808) : sv x = (rungVal x : Int) := by
  unfold sv
  rw [Nat.div_eq_of_lt h, Nat.mod_eq_of_lt h]; rfl
theorem sv_high {x : Nat} (h : x < 9223372036854775808) : sv (9223372036854775808 + x) = -(rungVal x : Int) := by
  unfold sv
  rw [show (9223372036854775808 + x) / 9223372036854775808 = 1 by omega, show (9223372036854775808 + x) % 9223372036854775808 = x by omega]; rfl
theorem sv_word (neg : Bool) (s : Nat) (h : s ≤ 9218868437227405312) : sv (Ieee.double.word neg s) = if neg = true then -(rungVal s : Int) else (rungVal s : Int) := by
  cases neg
  · exact sv_low (x := s) (by omega)
  · show sv (Ieee.double.signWeight + s) = _
    rw [dbl_sign]; exact sv_high (by omega)
theorem sv_abs (x : Nat) : (sv x).natAbs = rungVal (x % 9223372036854775808) := by
  unfold sv; split <;> omega
theorem Fi.opp {x : Nat} (h : Fi x) : Fi (fopp x) := ⟨(fopp_mod h.1).2, by rw [(fopp_mod h.1).1]; exact h.2⟩
theorem sv_opp {x : Nat} (h : x < 18446744073709551616) : sv (fopp x) = -sv x := by
  by_cases h1 : x < 9223372036854775808
  · rw [fopp_low h1, sv_high h1, sv_low h1]
  · have e : x = 9223372036854775808 + (x - 9223372036854775808) := by omega
    rw [fopp_high h (by omega), sv_low (by omega)]
    rw [e, sv_high (by omega)]
    simp
theorem Fi.notnan {x : Nat} (h : Fi x) : isnan x = false := by
  unfold isnan; exact decide_eq_false (by have := h.2; omega)
theorem rungVal_zero {r : Nat} : rungVal r = 0 ↔ r = 0 := by
  constructor
  · intro h
    by_cases hz : r = 0
    · exact hz
    · have h1 := rungVal_lt (r := 0) (s := r) (by omega)
      omega
  · intro h; subst h; rfl

/-- r is the float nearest to A / D. -/
def RN (A : Int) (D r : Nat) : Prop := ∃ neg s, r = Ieee.double.word neg s ∧ (A < 0 → neg = true) ∧ (0 < A → neg = false) ∧ Mid A.natAbs D s

theorem mid_zero (D : Nat) : Mid 0 D 0 := ⟨by omega, fun _ => by omega, fun h => by omega, fun _ _ => rfl, fun h => by omega⟩

theorem near_rn {neg : Bool} {mag : Nat} {place : Int} {A : Int} {D : Nat} (hD : 0 < D) (e : mag * 2 ^ (place + 1074).toNat * D = A.natAbs * 2 ^ (-(place + 1074)).toNat) (h1 : A < 0 → neg = true) (h2 : 0 < A → neg = false) :
    RN A D (Ieee.double.nearest neg mag place) := by
  have hB : 0 < 2 ^ (-(place + 1074)).toNat := Nat.two_pow_pos _
  by_cases h0 : mag = 0
  · subst h0
    rw [Nat.zero_mul, Nat.zero_mul] at e
    have hA : A.natAbs = 0 := by
      rcases Nat.mul_eq_zero.1 e.symm with h | h
      · exact h
      · omega
    exact ⟨neg, 0, by simp [Ieee.Format.nearest], h1, h2, by rw [hA]; exact mid_zero D⟩
  · obtain ⟨s, e1, m⟩ := near_is_mid neg mag place h0
    refine ⟨neg, s, e1, h1, h2, ?_⟩
    have m2 := m.scale D hD
    rw [e, Nat.mul_comm (2 ^ (-(place + 1074)).toNat) D] at m2
    exact m2.back _ hB

theorem FN.bits {op : BinOp} {x y r s : Nat} (h : FN op x y r) (g : floatBits op .f64 x y = .some s) : r = s := by
  rcases h.2 with h | ⟨h, _⟩
  · rw [h] at g; exact Option.some.inj g
  · rw [h] at g; cases g

theorem sv_sign {x : Nat} {s : Bool} (hs : (x / 9223372036854775808 % 2 == 1) = s) : sv x = if s = true then -(rungVal (x % 9223372036854775808) : Int) else (rungVal (x % 9223372036854775808) : Int) := by
  unfold sv; rw [hs]

theorem pow_join (E a b m n : Nat) (hE : E = 1074) : m * n * 2 ^ (-1074 + (a : Int) + (-1074 + (b : Int)) + 1074).toNat * 2 ^ E = (m * 2 ^ a) * (n * 2 ^ b) * 2 ^ (-(-1074 + (a : Int) + (-1074 + (b : Int)) + 1074)).toNat := by
  by_cases h : 1074 ≤ a + b
  · have t1 : (-1074 + (a : Int) + (-1074 + (b : Int)) + 1074).toNat = a + b - 1074 := by omega
    have t2 : (-(-1074 + (a : Int) + (-1074 + (b : Int)) + 1074)).toNat = 0 := by omega
    rw [t1, t2, Nat.mul_assoc (m * n), ← Nat.pow_add, show a + b - 1074 + E = a + b by omega, Nat.pow_add, Nat.pow_zero, Nat.mul_one]
    rw [Nat.mul_assoc, Nat.mul_assoc, Nat.mul_left_comm n]
  · have t1 : (-1074 + (a : Int) + (-1074 + (b : Int)) + 1074).toNat = 0 := by omega
    have t2 : (-(-1074 + (a : Int) + (-1074 + (b : Int)) + 1074)).toNat = E - (a + b) := by omega
    rw [t1, t2, Nat.pow_zero, Nat.mul_one]
    have e : 2 ^ E = 2 ^ a * 2 ^ b * 2 ^ (E - (a + b)) := by rw [← Nat.pow_add, ← Nat.pow_add]; congr 1; omega
    rw [e]
    generalize 2 ^ a = A
    generalize 2 ^ b = B
    generalize 2 ^ (E - (a + b)) = C
    rw [← Nat.mul_assoc, ← Nat.mul_assoc]
    congr 1
    rw [Nat.mul_assoc m A, Nat.mul_left_comm A n B, ← Nat.mul_assoc m n, Nat.mul_assoc (m * n)]

/-- A product. -/
theorem mul_rn {x y r : Nat} (E : Nat) (hE : E = 1074) (hx : Fi x) (hy : Fi y) (h : FN .mul x y r) : RN (sv x * sv y) (2 ^ E) r := by
  obtain ⟨m, a, e1, v1⟩ := read_num hx.2
  obtain ⟨n, b, e2, v2⟩ := read_num hy.2
  generalize hs : (x / 9223372036854775808 % 2 == 1) = s at e1
  generalize ht : (y / 9223372036854775808 % 2 == 1) = t at e2
  have hb : floatBits .mul .f64 x y = some (Ieee.double.nearest (s ^^ t) (m * n) (-1074 + (a : Int) + (-1074 + (b : Int)))) := by
    show (((Ieee.double.read x).product (Ieee.double.read y)).map Ieee.double.write) = _
    rw [e1, e2]; rfl
  rw [h.bits hb]
  have hX := sv_sign hs
  have hY := sv_sign ht
  refine near_rn (Nat.two_pow_pos _) ?_ ?_ ?_
  · rw [Int.natAbs_mul, sv_abs, sv_abs, ← v1, ← v2]
    exact pow_join E a b m n hE
  · intro hA
    cases s <;> cases t <;> simp only [Bool.false_eq_true, if_false, if_true] at hX hY <;> rw [hX, hY] at hA
    · exfalso
      have := Int.mul_nonneg (Int.natCast_nonneg (rungVal (x % 9223372036854775808))) (Int.natCast_nonneg (rungVal (y % 9223372036854775808)))
      omega
    · rfl
    · rfl
    · exfalso
      rw [Int.neg_mul_neg] at hA
      have := Int.mul_nonneg (Int.natCast_nonneg (rungVal (x % 9223372036854775808))) (Int.natCast_nonneg (rungVal (y % 9223372036854775808)))
      omega
  · intro hA
    cases s <;> cases t <;> simp only [Bool.false_eq_true, if_false, if_true] at hX hY <;> rw [hX, hY] at hA
    · rfl
    · exfalso
      rw [Int.mul_neg] at hA
      have := Int.mul_nonneg (Int.natCast_nonneg (rungVal (x % 9223372036854775808))) (Int.natCast_nonneg (rungVal (y % 9223372036854775808)))
      omega
    · exfalso
      rw [Int.neg_mul] at hA
      have := Int.mul_nonneg (Int.natCast_nonneg (rungVal (x % 9223372036854775808))) (Int.natCast_nonneg (rungVal (y % 9223372036854775808)))
      omega
    · rfl

theorem signed_pow (s : Bool) (m a c : Nat) (h : c ≤ a) : Ieee.signed s m (a - c) * ((2 ^ c : Nat) : Int) = if s = true then -((m * 2 ^ a : Nat) : Int) else ((m * 2 ^ a : Nat) : Int) := by
  have e : m * 2 ^ a = m * 2 ^ (a - c) * 2 ^ c := by rw [Nat.mul_assoc, ← Nat.pow_add, show a - c + c = a by omega]
  rw [e]
  unfold Ieee.signed
  rw [Nat.shiftLeft_eq]
  generalize m * 2 ^ (a - c) = u
  generalize 2 ^ c = p
  cases s
  · simp
  · simp only [if_true]; rw [Int.neg_mul, Int.natCast_mul]

/-- A sum. -/
theorem add_rn {x y r : Nat} (hx : Fi x) (hy : Fi y) (h : FN .add x y r) : RN (sv x + sv y) 1 r := by
  obtain ⟨m, a, e1, v1⟩ := read_num hx.2
  obtain ⟨n, b, e2, v2⟩ := read_num hy.2
  generalize hs : (x / 9223372036854775808 % 2 == 1) = s at e1
  generalize ht : (y / 9223372036854775808 % 2 == 1) = t at e2
  have t1 : (-1074 + (a : Int) - min (-1074 + (a : Int)) (-1074 + (b : Int))).toNat = a - min a b := by omega
  have t2 : (-1074 + (b : Int) - min (-1074 + (a : Int)) (-1074 + (b : Int))).toNat = b - min a b := by omega
  obtain ⟨T, hT⟩ : ∃ T, Ieee.signed s m (a - min a b) + Ieee.signed t n (b - min a b) = T := ⟨_, rfl⟩
  have hb : floatBits .add .f64 x y = some (Ieee.double.nearest (if T = 0 then s && t else decide (T < 0)) T.natAbs (min (-1074 + (a : Int)) (-1074 + (b : Int)))) := by
    show (((Ieee.double.read x).sum (Ieee.double.read y)).map Ieee.double.write) = _
    rw [e1, e2]
    simp only [Ieee.Datum.sum, t1, t2, hT]
    rfl
  rw [h.bits hb]
  have hp : 0 < 2 ^ min a b := Nat.two_pow_pos _
  have key : sv x + sv y = T * ((2 ^ min a b : Nat) : Int) := by
    rw [← hT, Int.add_mul, signed_pow s m a _ (Nat.min_le_left ..), signed_pow t n b _ (Nat.min_le_right ..), v1, v2, sv_sign hs, sv_sign ht]
  rw [key]
  have hp' : (0 : Int) < ((2 ^ min a b : Nat) : Int) := by omega
  refine near_rn (by omega) ?_ ?_ ?_
  · rw [Int.natAbs_mul, Int.natAbs_natCast, show (min (-1074 + (a : Int)) (-1074 + (b : Int)) + 1074).toNat = min a b by omega, show (-(min (-1074 + (a : Int)) (-1074 + (b : Int)) + 1074)).toNat = 0 by omega, Nat.pow_zero]
  · intro hA
    have h0 : T < 0 := by
      by_cases hz : T < 0
      · exact hz
      · have := Int.mul_nonneg (show 0 ≤ T by omega) (Int.le_of_lt hp'); omega
    rw [if_neg (by omega)]; exact decide_eq_true h0
  · intro hA
    have h0 : 0 < T := by
      by_cases hz : 0 < T
      · exact hz
      · have := Int.mul_nonneg (show 0 ≤ -T by omega) (Int.le_of_lt hp'); rw [Int.neg_mul] at this; omega
    rw [if_neg (by omega)]; exact decide_eq_false (by omega)

/-- Not above a float: so is the nearest. -/
theorem Mid.le {A D s r : Nat} (hD : 0 < D) (h : Mid A D s) (g : A ≤ rungVal r * D) : s ≤ r := by
  by_cases hlt : s ≤ r
  · exact hlt
  · exfalso
    have m := h.down (by omega)
    have g1 : rungVal r < rungVal s := rungVal_lt (by omega)
    have g2 : rungVal r ≤ rungVal (s - 1) := rungVal_le (by omega)
    have g3 : (2 * rungVal r) * D < (rungVal (s - 1) + rungVal s) * D := Nat.mul_lt_mul_of_pos_right (by omega) hD
    rw [Nat.mul_assoc 2] at g3
    omega
theorem Mid.ge {A D s r : Nat} (hD : 0 < D) (h : Mid A D s) (hr : r ≤ 9218868437227405312) (g : rungVal r * D ≤ A) : r ≤ s := by
  by_cases hlt : r ≤ s
  · exact hlt
  · exfalso
    have m := h.up (by omega)
    have g1 : rungVal s < rungVal r := rungVal_lt (by omega)
    have g2 : rungVal (s + 1) ≤ rungVal r := rungVal_le (by omega)
    have g3 : (rungVal s + rungVal (s + 1)) * D < (2 * rungVal r) * D := Nat.mul_lt_mul_of_pos_right (by omega) hD
    rw [Nat.mul_assoc 2] at g3
    omega

/-- A whole number of at most 2^53 in some unit is a float. -/
theorem rep (m k : Nat) (hm : m ≤ 9007199254740992) (h1 : 53 ≤ k) (h2 : k ≤ 2044) : ∃ r, r < 9218868437227405312 ∧ rungVal r = m * 2 ^ k := by
  by_cases h0 : m = 0
  · subst h0; exact ⟨0, by omega, by rw [Nat.zero_mul]; rfl⟩
  by_cases hb : 4503599627370496 ≤ m
  · exact ⟨k * 4503599627370496 + m, by omega, rungVal_count hm (fun _ => hb)⟩
  · have hlo := Nat.log2_self_le h0
    have hhi : m < 2 ^ (m.log2 + 1) := Nat.lt_log2_self
    generalize m.log2 = L at hlo hhi
    have b52 : (2 : Nat) ^ 52 = 4503599627370496 := by decide
    have hL : L < 52 := by
      by_cases hc : L < 52
      · exact hc
      · have := Nat.pow_le_pow_right (show 0 < 2 by decide) (show 52 ≤ L by omega); omega
    have e1 : 2 ^ L * 2 ^ (52 - L) = 4503599627370496 := by rw [← Nat.pow_add, ← b52]; congr 1; omega
    have e2 : 2 ^ (L + 1) * 2 ^ (52 - L) = 9007199254740992 := by rw [← Nat.pow_add, show L + 1 + (52 - L) = 53 by omega]
    have k1 := Nat.mul_le_mul_right (2 ^ (52 - L)) hlo
    have k2 := Nat.mul_le_mul_right (2 ^ (52 - L)) (Nat.le_of_lt hhi)
    rw [e1] at k1
    rw [e2] at k2
    refine ⟨(k - (52 - L)) * 4503599627370496 + m * 2 ^ (52 - L), by omega, ?_⟩
    rw [rungVal_count k2 (fun _ => k1), Nat.mul_assoc, ← Nat.pow_add, show 52 - L + (k - (52 - L)) = k by omega]

/-- From lo to hi units of 2^(k - 1074). -/
def In (k : Nat) (lo hi : Int) (x : Nat) : Prop := Fi x ∧ lo * ((2 ^ k : Nat) : Int) ≤ sv x ∧ sv x ≤ hi * ((2 ^ k : Nat) : Int)

theorem word_fi (neg : Bool) {s : Nat} (h : s < 9218868437227405312) : Fi (Ieee.double.word neg s) := by
  cases neg
  · exact ⟨by show s < _; omega, by show s % _ < _; rw [Nat.mod_eq_of_lt (by omega)]; exact h⟩
  · have e : Ieee.double.word true s = 9223372036854775808 + s := by show Ieee.double.signWeight + s = _; rw [dbl_sign]
    rw [e]; exact ⟨by omega, by omega⟩

theorem mulD_le {a b : Int} {D : Nat} (hD : 0 < D) (h : a * (D : Int) ≤ b * (D : Int)) : a ≤ b := Int.le_of_mul_le_mul_right h (by omega)

/-- Bounds that are floats hold for the nearest too. -/
theorem RN.bounds {A : Int} {D r : Nat} (h : RN A D r) (hD : 0 < D) {k : Nat} {lo hi : Int} (k1 : 53 ≤ k) (k2 : k ≤ 2044) (b1 : -9007199254740992 ≤ lo) (b2 : hi ≤ 9007199254740992)
    (hl : lo * ((2 ^ k : Nat) : Int) * (D : Int) ≤ A) (hh : A ≤ hi * ((2 ^ k : Nat) : Int) * (D : Int)) : In k lo hi r := by
  obtain ⟨neg, s, rfl, n1, n2, m⟩ := h
  have hP : 0 < 2 ^ k := Nat.two_pow_pos k
  have hlh : lo ≤ hi := mulD_le hP (mulD_le hD (Int.le_trans hl hh))
  have hPD : 0 < 2 ^ k * D := Nat.mul_pos hP hD
  have hl' : lo * ((2 ^ k * D : Nat) : Int) ≤ A := by rw [Int.natCast_mul, ← Int.mul_assoc]; exact hl
  have hh' : A ≤ hi * ((2 ^ k * D : Nat) : Int) := by rw [Int.natCast_mul, ← Int.mul_assoc]; exact hh
  -- a whole number c of units, not below 0
  have up : ∀ c : Nat, c ≤ 9007199254740992 → (A.natAbs : Int) ≤ (c : Int) * ((2 ^ k * D : Nat) : Int) → s < 9218868437227405312 ∧ (rungVal s : Int) ≤ (c : Int) * ((2 ^ k : Nat) : Int) := by
    intro c hc hA
    obtain ⟨r, hr, hv⟩ := rep c k hc k1 k2
    have g : A.natAbs ≤ rungVal r * D := by
      rw [hv, Nat.mul_assoc]
      rw [← Int.natCast_mul] at hA
      exact Int.ofNat_le.1 hA
    have hs := m.le hD g
    refine ⟨by omega, ?_⟩
    have := rungVal_le hs
    rw [hv] at this
    rw [← Int.natCast_mul]
    exact Int.ofNat_le.2 this
  have down : ∀ c : Nat, c ≤ 9007199254740992 → (c : Int) * ((2 ^ k * D : Nat) : Int) ≤ (A.natAbs : Int) → (c : Int) * ((2 ^ k : Nat) : Int) ≤ (rungVal s : Int) := by
    intro c hc hA
    obtain ⟨r, hr, hv⟩ := rep c k hc k1 k2
    have g : rungVal r * D ≤ A.natAbs := by
      rw [hv, Nat.mul_assoc]
      rw [← Int.natCast_mul] at hA
      exact Int.ofNat_le.1 hA
    have hs := m.ge hD (by omega) g
    have := rungVal_le hs
    rw [hv] at this
    rw [← Int.natCast_mul]
    exact Int.ofNat_le.2 this
  unfold In
  generalize hQ : 2 ^ k * D = Q at *
  generalize 2 ^ k = P at *
  have key : ∀ n c : Int, n ≤ c → n * (P : Int) ≤ c * (P : Int) := fun n c h => Int.mul_le_mul_of_nonneg_right h (by omega)
  have hrv : (0 : Int) ≤ (rungVal s : Int) := by omega
  cases neg with
  | false =>
    have hA : 0 ≤ A := by
      by_cases hz : A < 0
      · cases n1 hz
      · omega
    have hi0 : 0 ≤ hi := by
      by_cases hz : 0 ≤ hi
      · exact hz
      · have := Int.mul_le_mul_of_nonneg_right (show hi ≤ -1 by omega) (show (0 : Int) ≤ (Q : Int) by omega)
        omega
    obtain ⟨u1, u2⟩ := up hi.toNat (by omega) (by rw [Int.toNat_of_nonneg hi0]; omega)
    rw [Int.toNat_of_nonneg hi0] at u2
    refine ⟨word_fi _ u1, ?_, ?_⟩
    · rw [sv_word _ _ (by omega)]
      simp only [Bool.false_eq_true, if_false]
      by_cases hz : 0 ≤ lo
      · have := down lo.toNat (by omega) (by rw [Int.toNat_of_nonneg hz]; omega)
        rw [Int.toNat_of_nonneg hz] at this
        exact this
      · have := key lo 0 (by omega); omega
    · rw [sv_word _ _ (by omega)]
      simp only [Bool.false_eq_true, if_false]
      exact u2
  | true =>
    have hA : A ≤ 0 := by
      by_cases hz : 0 < A
      · cases n2 hz
      · omega
    have lo0 : 0 ≤ -lo := by
      by_cases hz : 0 ≤ -lo
      · exact hz
      · have := Int.mul_le_mul_of_nonneg_right (show 1 ≤ lo by omega) (show (0 : Int) ≤ (Q : Int) by omega)
        omega
    obtain ⟨u1, u2⟩ := up (-lo).toNat (by omega) (by rw [Int.toNat_of_nonneg lo0, Int.neg_mul]; omega)
    rw [Int.toNat_of_nonneg lo0, Int.neg_mul] at u2
    refine ⟨word_fi _ u1, ?_, ?_⟩
    · rw [sv_word _ _ (by omega)]
      simp only [if_true]
      omega
    · rw [sv_word _ _ (by omega)]
      simp only [if_true]
      by_cases hz : 0 ≤ -hi
      · have := down (-hi).toNat (by omega) (by rw [Int.toNat_of_nonneg hz, Int.neg_mul]; omega)
        rw [Int.toNat_of_nonneg hz, Int.neg_mul] at this
        omega
      · have := key 0 hi (by omega); omega

/-- A product lies between the least and the greatest of the corners. -/
theorem corner_ge {a b c d x y M : Int} (h1 : a ≤ x) (h2 : x ≤ b) (h3 : c ≤ y) (h4 : y ≤ d) (k1 : M ≤ a * c) (k2 : M ≤ a * d) (k3 : M ≤ b * c) (k4 : M ≤ b * d) : M ≤ x * y := by
  have side : ∀ u : Int, M ≤ u * c → M ≤ u * d → M ≤ u * y := by
    intro u g1 g2
    by_cases hu : 0 ≤ u
    · have := Int.mul_le_mul_of_nonneg_left h3 hu; omega
    · have := Int.mul_le_mul_of_nonneg_left h4 (show 0 ≤ -u by omega)
      rw [Int.neg_mul, Int.neg_mul] at this; omega
  have ga := side a k1 k2
  have gb := side b k3 k4
  by_cases hy : 0 ≤ y
  · have := Int.mul_le_mul_of_nonneg_right h1 hy; omega
  · have := Int.mul_le_mul_of_nonneg_right h2 (show 0 ≤ -y by omega)
    rw [Int.mul_neg, Int.mul_neg] at this; omega
theorem corner_le {a b c d x y M : Int} (h1 : a ≤ x) (h2 : x ≤ b) (h3 : c ≤ y) (h4 : y ≤ d) (k1 : a * c ≤ M) (k2 : a * d ≤ M) (k3 : b * c ≤ M) (k4 : b * d ≤ M) : x * y ≤ M := by
  have := corner_ge (a := -b) (b := -a) (c := c) (d := d) (x := -x) (y := y) (M := -M) (by omega) (by omega) h3 h4 (by rw [Int.neg_mul]; omega) (by rw [Int.neg_mul]; omega) (by rw [Int.neg_mul]; omega) (by rw [Int.neg_mul]; omega)
  rw [Int.neg_mul] at this
  omega

theorem In.mul {k k' k'' s x y r : Nat} {a b c d L U : Int} (hx : In k a b x) (hy : In k' c d y) (h : FN .mul x y r) (e : k + k' + s = k'' + 1074) (k1 : 53 ≤ k'') (k2 : k'' ≤ 2044) (b1 : -9007199254740992 ≤ L) (b2 : U ≤ 9007199254740992)
    (l1 : L * ((2 ^ s : Nat) : Int) ≤ a * c) (l2 : L * ((2 ^ s : Nat) : Int) ≤ a * d) (l3 : L * ((2 ^ s : Nat) : Int) ≤ b * c) (l4 : L * ((2 ^ s : Nat) : Int) ≤ b * d)
    (u1 : a * c ≤ U * ((2 ^ s : Nat) : Int)) (u2 : a * d ≤ U * ((2 ^ s : Nat) : Int)) (u3 : b * c ≤ U * ((2 ^ s : Nat) : Int)) (u4 : b * d ≤ U * ((2 ^ s : Nat) : Int)) : In k'' L U r := by
  obtain ⟨fx, x1, x2⟩ := hx
  obtain ⟨fy, y1, y2⟩ := hy
  obtain ⟨E, hE⟩ : ∃ E, E = 1074 := ⟨_, rfl⟩
  have R := mul_rn E hE fx fy h
  have ep : 2 ^ k'' * 2 ^ E = 2 ^ s * (2 ^ k * 2 ^ k') := by
    rw [← Nat.pow_add, ← Nat.pow_add, ← Nat.pow_add]; congr 1; omega
  refine R.bounds (Nat.two_pow_pos _) k1 k2 b1 b2 ?_ ?_
  · have g : L * ((2 ^ k'' : Nat) : Int) * ((2 ^ E : Nat) : Int) = L * ((2 ^ s : Nat) : Int) * (((2 ^ k : Nat) : Int) * ((2 ^ k' : Nat) : Int)) := by
      rw [Int.mul_assoc, ← Int.natCast_mul, ep, Int.natCast_mul, Int.natCast_mul, Int.mul_assoc]
    rw [g]
    have hp : (0 : Int) ≤ ((2 ^ k : Nat) : Int) * ((2 ^ k' : Nat) : Int) := Int.mul_nonneg (Int.natCast_nonneg _) (Int.natCast_nonneg _)
    have sh : ∀ u v : Int, u * ((2 ^ k : Nat) : Int) * (v * ((2 ^ k' : Nat) : Int)) = u * v * (((2 ^ k : Nat) : Int) * ((2 ^ k' : Nat) : Int)) := fun u v => by
      rw [Int.mul_assoc, Int.mul_left_comm ((2 ^ k : Nat) : Int) v, ← Int.mul_assoc u v]
    refine corner_ge x1 x2 y1 y2 ?_ ?_ ?_ ?_ <;> rw [sh] <;> exact Int.mul_le_mul_of_nonneg_right (by assumption) hp
  · have g : U * ((2 ^ k'' : Nat) : Int) * ((2 ^ E : Nat) : Int) = U * ((2 ^ s : Nat) : Int) * (((2 ^ k : Nat) : Int) * ((2 ^ k' : Nat) : Int)) := by
      rw [Int.mul_assoc, ← Int.natCast_mul, ep, Int.natCast_mul, Int.natCast_mul, Int.mul_assoc]
    rw [g]
    have hp : (0 : Int) ≤ ((2 ^ k : Nat) : Int) * ((2 ^ k' : Nat) : Int) := Int.mul_nonneg (Int.natCast_nonneg _) (Int.natCast_nonneg _)
    have sh : ∀ u v : Int, u * ((2 ^ k : Nat) : Int) * (v * ((2 ^ k' : Nat) : Int)) = u * v * (((2 ^ k : Nat) : Int) * ((2 ^ k' : Nat) : Int)) := fun u v => by
      rw [Int.mul_assoc, Int.mul_left_comm ((2 ^ k : Nat) : Int) v, ← Int.mul_assoc u v]
    refine corner_le x1 x2 y1 y2 ?_ ?_ ?_ ?_ <;> rw [sh] <;> exact Int.mul_le_mul_of_nonneg_right (by assumption) hp
theorem In.add {k x y r : Nat} {a b c d L U : Int} (hx : In k a b x) (hy : In k c d y) (h : FN .add x y r) (k1 : 53 ≤ k) (k2 : k ≤ 2044) (b1 : -9007199254740992 ≤ L) (b2 : U ≤ 9007199254740992) (l : L ≤ a + c) (u : b + d ≤ U) : In k L U r := by
  obtain ⟨fx, x1, x2⟩ := hx
  obtain ⟨fy, y1, y2⟩ := hy
  have hp : (0 : Int) ≤ ((2 ^ k : Nat) : Int) := Int.natCast_nonneg _
  refine (add_rn fx fy h).bounds (by decide) k1 k2 b1 b2 ?_ ?_
  · have := Int.mul_le_mul_of_nonneg_right l hp
    rw [Int.add_mul] at this
    omega
  · have := Int.mul_le_mul_of_nonneg_right u hp
    rw [Int.add_mul] at this
    omega
theorem In.opp {k x : Nat} {a b : Int} (h : In k a b x) : In k (-b) (-a) (fopp x) := by
  obtain ⟨f, h1, h2⟩ := h
  refine ⟨f.opp, ?_, ?_⟩ <;> rw [sv_opp f.1, Int.neg_mul] <;> omega
theorem In.wide {k x : Nat} {a b c d : Int} (h : In k a b x) (h1 : c ≤ a) (h2 : b ≤ d) : In k c d x := by
  obtain ⟨f, g1, g2⟩ := h
  have hp : (0 : Int) ≤ ((2 ^ k : Nat) : Int) := Int.natCast_nonneg _
  exact ⟨f, Int.le_trans (Int.mul_le_mul_of_nonneg_right h1 hp) g1, Int.le_trans g2 (Int.mul_le_mul_of_nonneg_right h2 hp)⟩
end Go.Proofs.YtabkgpnckaaclaaGreatDoor

/- Fractions: ratio.add: sums of fractions that may be; what is told is new memory, Num and Den apart. -/
namespace Go.Proofs.YtabkgpnckaaclaaGreatDoor
open Go.RowKit
set_option linter.unusedVariables false

/-- A whole number in a box, behind what was there. -/
def Num (X U F : World) (p : Nat) (k : Bool) (a : Option Addr) (c : Nat) (z : List Int) (T : Int) : Prop := Box F p 136 #[.bool k, .slice a z.length c] ∧ One X F (.slice a z.length c) z T ∧ Below U.heap.size U F
end Go.Proofs.YtabkgpnckaaclaaGreatDoor

/- Fractions: ratio.Add, Mul, Sub: of any fractions, good or refused; what is told is new memory. -/
namespace Go.Proofs.YtabkgpnckaaclaaGreatDoor
open Go.RowKit
set_option linter.unusedVariables false

end Go.Proofs.YtabkgpnckaaclaaGreatDoor

/- Fractions: ratio.Quo, Neg, Sign: of any fractions, good or refused; what is told is new memory. -/
namespace Go.Proofs.YtabkgpnckaaclaaGreatDoor
open Go.RowKit
set_option linter.unusedVariables false

end Go.Proofs.YtabkgpnckaaclaaGreatDoor

/- Fractions: ratio.Neg, Sign: of any fraction, good or refused. -/
namespace Go.Proofs.YtabkgpnckaaclaaGreatDoor
open Go.RowKit
set_option linter.unusedVariables false

end Go.Proofs.YtabkgpnckaaclaaGreatDoor

/- Fractions: Same, Sign; slices.Equal of words. -/
namespace Go.Proofs.YtabkgpnckaaclaaGreatDoor
open Go.RowKit
set_option linter.unusedVariables false

end Go.Proofs.YtabkgpnckaaclaaGreatDoor

/- Fractions: ratio.compareSizes, Compare: of any fractions, good or refused. -/
namespace Go.Proofs.YtabkgpnckaaclaaGreatDoor
open Go.RowKit
set_option linter.unusedVariables false

/-- What Compare tells. -/
def rcmp (n : Bool) (xs ys : List Int) (m : Bool) (us vs : List Int) : Int := if rboth n xs ys m us vs = 0 then cmpI (wval n xs * val vs) (wval m us * val ys) else 0

end Go.Proofs.YtabkgpnckaaclaaGreatDoor

/- The nearest float: of a fraction that is a float it is that float; it keeps the order of fractions. The next float: no float lies between. -/
namespace Go.Proofs.YtabkgpnckaaclaaGreatDoor
open Go.RowKit
set_option linter.unusedVariables false

theorem Mid.mono {A1 D1 s1 A2 D2 s2 : Nat} (h1 : Mid A1 D1 s1) (h2 : Mid A2 D2 s2) (p1 : 0 < D1) (p2 : 0 < D2) (h : A1 * D2 ≤ A2 * D1) : s1 ≤ s2 := by
  rcases Nat.lt_or_ge s2 s1 with g | g
  · exfalso
    have t1 := h1.top
    have d := h1.down (by omega)
    have u := h2.up (by omega)
    have v1 : rungVal s2 ≤ rungVal (s1 - 1) := rungVal_le (by omega)
    have v2 : rungVal (s2 + 1) ≤ rungVal s1 := rungVal_le (by omega)
    have e1 : (rungVal (s1 - 1) + rungVal s1) * D1 * D2 ≤ 2 * A1 * D2 := Nat.mul_le_mul_right _ d
    have e2 : 2 * A2 * D1 ≤ (rungVal s2 + rungVal (s2 + 1)) * D2 * D1 := Nat.mul_le_mul_right _ u
    have e3 : (rungVal s2 + rungVal (s2 + 1)) * (D1 * D2) ≤ (rungVal (s1 - 1) + rungVal s1) * (D1 * D2) := Nat.mul_le_mul_right _ (by omega)
    have pp : 0 < D1 * D2 := Nat.mul_pos p1 p2
    rw [Nat.mul_assoc] at e1
    rw [Nat.mul_assoc (rungVal s2 + rungVal (s2 + 1)), Nat.mul_comm D2 D1] at e2
    rw [Nat.mul_assoc 2] at e1 e2
    have e4 : (rungVal s2 + rungVal (s2 + 1)) * (D1 * D2) = (rungVal (s1 - 1) + rungVal s1) * (D1 * D2) := by omega
    have e5 := Nat.eq_of_mul_eq_mul_right pp e4
    have e6 : s2 + 1 = s1 := by
      rcases Nat.lt_or_ge (s2 + 1) s1 with q | q
      · have := rungVal_lt (r := s2) (s := s1 - 1) (by omega)
        omega
      · omega
    subst e6
    have f1 : (rungVal (s2 + 1 - 1) + rungVal (s2 + 1)) * D1 = 2 * A1 := by
      refine Nat.le_antisymm d ?_
      refine Nat.le_of_mul_le_mul_right (c := D2) ?_ p2
      rw [Nat.mul_assoc, Nat.mul_assoc]
      omega
    have f2 : 2 * A2 = (rungVal s2 + rungVal (s2 + 1)) * D2 := by
      refine Nat.le_antisymm u ?_
      refine Nat.le_of_mul_le_mul_right (c := D1) ?_ p1
      rw [Nat.mul_assoc, Nat.mul_assoc, Nat.mul_comm D2 D1]
      omega
    have p := h1.tieDown (by omega) f1
    have q := h2.tieUp (by omega) f2
    omega
  · exact g
theorem mid_exact {D t : Nat} (hD : 0 < D) (ht : t < 9218868437227405312) : Mid (rungVal t * D) D t := by
  have hs : rungVal t < rungVal (t + 1) := rungVal_lt (by omega)
  have e0 : 2 * (rungVal t * D) = (rungVal t + rungVal t) * D := by rw [Nat.add_mul]; omega
  refine ⟨by omega, fun _ => ?_, fun h => ?_, fun _ e => ?_, fun h e => ?_⟩
  · rw [e0]; exact Nat.mul_le_mul_right _ (by omega)
  · have hd : rungVal (t - 1) < rungVal t := rungVal_lt (by omega)
    rw [e0]; exact Nat.mul_le_mul_right _ (by omega)
  · rw [e0] at e
    have := Nat.eq_of_mul_eq_mul_right hD e
    omega
  · have hd : rungVal (t - 1) < rungVal t := rungVal_lt (by omega)
    rw [e0] at e
    have := Nat.eq_of_mul_eq_mul_right hD e
    omega

theorem ncast_two (X k : Nat) : ((X * 2 ^ k : Nat) : Int) = (X : Int) * 2 ^ k := by rw [Int.natCast_mul, Int.natCast_pow]; rfl
/-- The order of finite floats is that of their numbers. -/
theorem ocmp_scale (u v : Int) {p : Nat} (hp : 0 < p) : compare (u * (p : Int)) (v * (p : Int)) = compare u v := by
  have hp' : (0 : Int) < (p : Int) := by omega
  rcases Int.lt_trichotomy u v with h | rfl | h
  · rw [Int.compare_eq_lt.2 h, Int.compare_eq_lt.2 (Int.mul_lt_mul_of_pos_right h hp')]
  · simp
  · rw [Int.compare_eq_gt.2 h, Int.compare_eq_gt.2 (Int.mul_lt_mul_of_pos_right h hp')]
theorem ordsv {x y : Nat} (hx : Fi x) (hy : Fi y) : FloatKind.f64.format.order x y = some (compare (sv x) (sv y)) := by
  show (Ieee.double.read x).order (Ieee.double.read y) = _
  obtain ⟨m, a, e1, v1⟩ := read_num hx.2
  obtain ⟨n, b, e2, v2⟩ := read_num hy.2
  generalize hs : (x / 9223372036854775808 % 2 == 1) = s at e1
  generalize ht : (y / 9223372036854775808 % 2 == 1) = t at e2
  have t1 : (-1074 + (a : Int) - min (-1074 + (a : Int)) (-1074 + (b : Int))).toNat = a - min a b := by omega
  have t2 : (-1074 + (b : Int) - min (-1074 + (a : Int)) (-1074 + (b : Int))).toNat = b - min a b := by omega
  rw [e1, e2]
  simp only [Ieee.Datum.order, t1, t2]
  rw [← ocmp_scale _ _ (Nat.two_pow_pos (min a b)), signed_pow s m a _ (Nat.min_le_left ..), signed_pow t n b _ (Nat.min_le_right ..), v1, v2, sv_sign hs, sv_sign ht]
theorem RN.only {A : Int} {D v : Nat} (h : RN A 1 D) (f : Fi v) (e : A = sv v) : sv D = A ∧ Fi D := by
  obtain ⟨neg, s, rfl, n1, n2, m⟩ := h
  have hv := sv_abs v
  rw [← e] at hv
  have h1 := m.le (by decide) (r := v % 9223372036854775808) (by rw [← hv]; omega)
  have h2 := m.ge (by decide) (r := v % 9223372036854775808) (by have := f.2; omega) (by rw [← hv]; omega)
  have hs : s = v % 9223372036854775808 := by omega
  subst hs
  refine ⟨?_, word_fi _ f.2⟩
  rw [sv_word _ _ (by have := f.2; omega), ← hv]
  cases neg
  · simp only [Bool.false_eq_true, if_false]
    by_cases hz : A < 0
    · cases n1 hz
    · omega
  · simp only [if_true]
    by_cases hz : 0 < A
    · cases n2 hz
    · omega

theorem ord_lt {x y : Nat} (hx : Fi x) (hy : Fi y) : (FloatKind.f64.format.order x y == some .lt) = decide (sv x < sv y) := by
  rw [ordsv hx hy]
  rcases Int.lt_trichotomy (sv x) (sv y) with h | h | h
  · rw [show compare (sv x) (sv y) = .lt from Int.compare_eq_lt.2 h, decide_eq_true h]; rfl
  · rw [show compare (sv x) (sv y) = .eq from Int.compare_eq_eq.2 h, decide_eq_false (by omega)]; rfl
  · rw [show compare (sv x) (sv y) = .gt from Int.compare_eq_gt.2 h, decide_eq_false (by omega)]; rfl
theorem ord_eq {x y : Nat} (hx : Fi x) (hy : Fi y) : (FloatKind.f64.format.order x y == some .eq) = decide (sv x = sv y) := by
  rw [ordsv hx hy]
  rcases Int.lt_trichotomy (sv x) (sv y) with h | h | h
  · rw [show compare (sv x) (sv y) = .lt from Int.compare_eq_lt.2 h, decide_eq_false (by omega)]; rfl
  · rw [show compare (sv x) (sv y) = .eq from Int.compare_eq_eq.2 h, decide_eq_true h]; rfl
  · rw [show compare (sv x) (sv y) = .gt from Int.compare_eq_gt.2 h, decide_eq_false (by omega)]; rfl
theorem fi_fin {x : Nat} (h : x < 18446744073709551616) : fin x = true ↔ Fi x := ⟨fun g => ⟨h, (fin_iff x).1 g⟩, fun g => (fin_iff x).2 g.2⟩
theorem sv_at {x : Nat} (h : x < 18446744073709551616) : (x < 9223372036854775808 ∧ sv x = (rungVal x : Int)) ∨ (∃ t, x = 9223372036854775808 + t ∧ t < 9223372036854775808 ∧ sv x = -(rungVal t : Int)) := by
  rcases Nat.lt_or_ge x 9223372036854775808 with g | g
  · exact .inl ⟨g, sv_low g⟩
  · exact .inr ⟨x - 9223372036854775808, by omega, by omega, by
      have e := sv_high (x := x - 9223372036854775808) (by omega)
      rw [show 9223372036854775808 + (x - 9223372036854775808) = x by omega] at e
      exact e⟩
end Go.Proofs.YtabkgpnckaaclaaGreatDoor

/- real.Exact of finite floats beside their numbers; real.Next; whether a float lies between two. -/
namespace Go.Proofs.YtabkgpnckaaclaaGreatDoor
open Go.RowKit
set_option linter.unusedVariables false

theorem rtells_ok {q : Rat} {n : Bool} {xs ys : List Int} (h : RTells 0 q n xs ys 0) : rchk n xs ys = 0 ∧ rq n xs ys = q := by
  by_cases hl : rlong q
  · exact absurd (h.long rfl hl).2.2.2 (by decide)
  · exact (h.good rfl hl).2
theorem rung_count (x : Nat) : rungVal (x % 9223372036854775808) = fcount x * 2 ^ (funit x + 1074).toNat := by
  unfold rungVal fcount funit
  by_cases h : x / 4503599627370496 % 2048 = 0
  · rw [if_pos h, if_pos h, if_pos (by omega), show ((-1074 : Int) + 1074).toNat = 0 by decide, Nat.pow_zero]
    omega
  · rw [if_neg h, if_neg h, if_neg (by omega)]
    have e1 : x % 9223372036854775808 % 4503599627370496 = x % 4503599627370496 := by omega
    have e2 : x % 9223372036854775808 / 4503599627370496 - 1 = (-1074 + ((x / 4503599627370496 % 2048 : Nat) : Int) - 1 + 1074).toNat := by omega
    rw [e1, e2]
theorem sv_sg {x : Nat} (h : x < 18446744073709551616) : sv x = sg (x / 9223372036854775808 == 1) (rungVal (x % 9223372036854775808) : Int) := by
  rcases sv_at h with ⟨g, e⟩ | ⟨t, g, g2, e⟩
  · rw [e, Nat.mod_eq_of_lt g, Nat.div_eq_of_lt g]; rfl
  · subst g
    rw [e, show (9223372036854775808 + t) / 9223372036854775808 = 1 by omega, show (9223372036854775808 + t) % 9223372036854775808 = t by omega]
    rfl
theorem pow_units (u : Int) (h : -1074 ≤ u) (Z : Nat) (hZ : Z = 1074) : (2 : Int) ^ u.toNat * 2 ^ Z = 2 ^ (u + 1074).toNat * 2 ^ (-u).toNat := by
  rw [← Int.pow_add, ← Int.pow_add, show u.toNat + Z = (u + 1074).toNat + (-u).toNat by omega]
/-- The fraction that a finite float is, beside its number. -/
def ExT (x : Nat) (n : Bool) (xs ys : List Int) : Prop := rchk n xs ys = 0 ∧ wval n xs * 2 ^ zP = sv x * val ys ∧ rq n xs ys = fq x
theorem ext_arith {w v s m P U Z D W : Int} (h : w * D = s * (m * P) * v) (hu : P * Z = U * D) (hD : 0 < D) : w * Z = s * (m * U) * v := by
  have e : w * Z * D = s * (m * U) * v * D := by
    have e1 : w * Z * D = (w * D) * Z := by grind
    have e2 : s * (m * U) * v * D = s * m * v * (U * D) := by grind
    rw [e1, h, e2, ← hu]
    grind
  exact Int.eq_of_mul_eq_mul_right (by omega) e
theorem sg_one (n : Bool) (t : Int) : sg n t = (if n then -1 else 1) * t := by cases n <;> simp [sg]
theorem ext_of {x : Nat} {n : Bool} {xs ys : List Int} (hx : x < 18446744073709551616) (wy : Wd ys) (h : RTells 0 (fq x) n xs ys 0) : ExT x n xs ys := by
  obtain ⟨h0, hq⟩ := rtells_ok h
  refine ⟨h0, ?_, hq⟩
  obtain ⟨_, _, _, ty, hy0, _, _⟩ := rchk_ok h0
  have hY : 0 < val ys := by
    have e : 0 < sz ys := by rw [show sz ys = ys.length from ty]; exact hy0
    have h := (bits_bounds wy e).2.1
    have := two_pos (bitsOf ys - 1)
    omega
  have hu := funit_le x
  have hD := two_pos (-(funit x)).toNat
  have e := hq
  unfold rq fq at e
  rw [Rat.divInt_eq_divInt_iff (by omega) (by omega)] at e
  have hP := pow_units (funit x) hu.1 zP rfl
  rw [sg_one] at e
  have hc : ((rungVal (x % 9223372036854775808) : Nat) : Int) = (fcount x : Int) * 2 ^ (funit x + 1074).toNat := by
    rw [rung_count]; exact ncast_two _ _
  rw [sv_sg hx, sg_one, hc]
  exact ext_arith (W := 0) e hP hD

set_option maxHeartbeats 400000 in
set_option maxRecDepth 100000 in
theorem exact_fin (x : Nat) (w : World) (hx : Fi x) (hT : TabB w) :
    Calls Tryz.prog 7 #[.float .f64 x] w fun e w' => ∃ n a ca b cb xs ys, e = .returned (.tuple #[.agg #[.bool n, .slice a (List.length xs) ca, .slice b (List.length ys) cb], .int .i64 0]) ∧ w'.ownsRow w.heap.size 88 1 (.slice a xs.length ca) xs.length (xs.map (Value.int .u32)) ∧ w'.ownsRow w.heap.size 88 1 (.slice b ys.length cb) ys.length (ys.map (Value.int .u32)) ∧ Wd xs ∧ Wd ys ∧ ExT x n xs ys ∧ Below w.heap.size w w' := by
  have hf := (fi_fin hx.1).2 hx
  by_cases h0 : fcount x = 0
  · refine Calls.mono (exact_zero x w hx.1 hf h0) ?_
    rintro e w' ⟨g, rfl, o, hb⟩
    exact ⟨false, none, 0, some ⟨g, 0, none⟩, 1, [], [1], rfl, World.ownsRow_nil _ _ _ _, o, Wd.nil, Wd.one (by omega), ext_of hx.1 (Wd.one (by omega)) (zero_good h0), hb⟩
  · refine Calls.mono (exact_nz x w hx.1 hf h0 hT) ?_
    rintro e w' ⟨a, ca, b, cb, zs, ds, rfl, o, vz, vd, hb⟩
    exact ⟨_, a, ca, b, cb, zs, ds, rfl, o.1, o.2.1, o.2.2.1, o.2.2.2.2.1, ext_of hx.1 o.2.2.2.2.1 (frac_good h0 o.2.2.1 o.2.2.2.1 o.2.2.2.2.1 o.2.2.2.2.2.1 vz vd), hb⟩

end Go.Proofs.YtabkgpnckaaclaaGreatDoor

/- No float is nearer than the nearest one, and it is at most half a gap away. Nothing here speaks of the program. -/
namespace Go.Proofs.YtabkgpnckaaclaaGreatDoor
open Go.RowKit
set_option linter.unusedVariables false

/-- A finite float's fraction is its number over 2^zP. -/
theorem fq_sv {x : Nat} (hx : x < 18446744073709551616) : fq x = Rat.divInt (sv x) (2 ^ zP) := by
  have hu := funit_le x
  have hD := two_pos (-(funit x)).toNat
  have hZ := two_pos zP
  have hP := pow_units (funit x) hu.1 zP rfl
  have hc : ((rungVal (x % 9223372036854775808) : Nat) : Int) = (fcount x : Int) * 2 ^ (funit x + 1074).toNat := by
    rw [rung_count]; exact ncast_two _ _
  unfold fq
  rw [Rat.divInt_eq_divInt_iff (by omega) (by omega), sv_sg hx, hc, sg_one, sg_one]
  generalize (2 : Int) ^ zP = Z at *
  generalize (2 : Int) ^ (funit x).toNat = P at *
  generalize (2 : Int) ^ (funit x + 1074).toNat = U at *
  generalize (2 : Int) ^ (-(funit x)).toNat = D at *
  generalize (if (x / 9223372036854775808 == 1) = true then (-1 : Int) else 1) = s
  generalize (fcount x : Int) = m
  have e1 : s * (m * P) * Z = s * m * (P * Z) := by grind
  have e2 : s * (m * U) * D = s * m * (U * D) := by grind
  rw [e1, e2, hP]
end Go.Proofs.YtabkgpnckaaclaaGreatDoor

/- math.Ldexp of 1; real.Gap. -/
namespace Go.Proofs.YtabkgpnckaaclaaGreatDoor
open Go.RowKit
set_option linter.unusedVariables false

theorem mul_some {x y : Nat} (hx : fin x = true) (hy : fin y = true) : ∃ r, floatBits .mul .f64 x y = .some r := by
  obtain ⟨s, m, e, h1⟩ := read_fin hx
  obtain ⟨t, n, j, h2⟩ := read_fin hy
  exact ⟨_, show (((Ieee.double.read x).product (Ieee.double.read y)).map Ieee.double.write) = _ by rw [h1, h2]; rfl⟩
theorem one_sv (E : Nat) (hE : E = 1074) : sv 4607182418800017408 = ((2 ^ E : Nat) : Int) := by
  subst hE; decide +kernel
theorem mul_one_fl {y : Nat} (hy : y < 9218868437227405312) (h0 : 0 < y) : floatBits .mul .f64 4607182418800017408 y = some y := by
  have f1 : Fi 4607182418800017408 := ⟨by decide, by decide⟩
  have fy : Fi y := ⟨by omega, by omega⟩
  obtain ⟨r, hr⟩ := mul_some (x := 4607182418800017408) (y := y) (by decide) ((fi_fin fy.1).2 fy)
  rw [hr]
  obtain ⟨E, hE⟩ : ∃ E, E = 1074 := ⟨_, rfl⟩
  obtain ⟨neg, s, e1, n1, n2, hm⟩ := mul_rn E hE f1 fy (FN.some hr)
  have hl : sv y = (rungVal y : Int) := sv_low (by omega)
  have hp : 0 < rungVal y := by
    rcases Nat.eq_zero_or_pos (rungVal y) with g | g
    · exact absurd (rungVal_zero.1 g) (by omega)
    · exact g
  rw [one_sv E hE, hl, ← Int.natCast_mul] at n1 n2 hm
  have hD := Nat.two_pow_pos E
  have hpos : 0 < 2 ^ E * rungVal y := Nat.mul_pos hD hp
  have hneg : neg = false := n2 (by omega)
  have hab : ((2 ^ E * rungVal y : Nat) : Int).natAbs = rungVal y * 2 ^ E := by rw [Int.natAbs_natCast, Nat.mul_comm]
  rw [hab] at hm
  have hs := hm.unique hD (mid_exact hD hy)
  rw [e1, hneg, hs]
  congr 1

end Go.Proofs.YtabkgpnckaaclaaGreatDoor

/- math.Ldexp of a float that is a whole number, not nothing, where the answer is a float. -/
namespace Go.Proofs.YtabkgpnckaaclaaGreatDoor
open Go.RowKit
set_option linter.unusedVariables false

theorem lx_or (g f : Nat) (hf : f < 4503599627370496) (hg : g ≤ 2046) : bits .or .u64 (f : Int) ((g * 4503599627370496 : Nat) : Int) = ((g * 4503599627370496 + f : Nat) : Int) := by
  have h := u64_or_nat f (g * 4503599627370496) (by omega) (by omega)
  have e : f ||| g * 4503599627370496 = g * 4503599627370496 + f := by
    have h2 := Nat.two_pow_add_eq_or_of_lt (i := 52) (b := f) (by omega) g
    rw [show (4503599627370496 : Nat) = 2 ^ 52 by decide, Nat.mul_comm g, Nat.or_comm]
    exact h2.symm
  rw [e] at h
  exact h
theorem lx_andNot (g f : Nat) (hf : f < 4503599627370496) (hg : g ≤ 2046) : bits .andNot .u64 ((g * 4503599627370496 + f : Nat) : Int) 9218868437227405312 = (f : Int) := by
  have h := u64_andNot_nat (g * 4503599627370496 + f) 9218868437227405312 (by omega) (by decide)
  have e : (g * 4503599627370496 + f) &&& (18446744073709551615 - 9218868437227405312) = f := by
    have hm : 18446744073709551615 - 9218868437227405312 = 2 ^ 63 ||| (2 ^ 52 - 1) := by decide
    have ht : (g * 4503599627370496 + f).testBit 63 = false := Nat.testBit_lt_two_pow (by omega)
    have hz : (g * 4503599627370496 + f) &&& 2 ^ 63 = 0 := by
      apply Nat.eq_of_testBit_eq
      intro i
      rw [Nat.testBit_and, Nat.testBit_two_pow, Nat.zero_testBit]
      by_cases h : 63 = i
      · subst h; rw [ht]; rfl
      · rw [decide_eq_false h, Bool.and_false]
    rw [hm, Nat.and_or_distrib_left, hz, Nat.zero_or, Nat.and_two_pow_sub_one_eq_mod]
    omega
  rw [e] at h
  exact h
theorem lx_and_all : ∀ K : _root_.Fin 2047, bits .and .i64 ((K.val : Nat) : Int) 2047 = ((K.val : Nat) : Int) := by decide +kernel
theorem lx_and (K : Nat) (h : K ≤ 2046) : bits .and .i64 (K : Int) 2047 = (K : Int) := lx_and_all ⟨K, by omega⟩
set_option maxHeartbeats 800000 in
set_option maxRecDepth 100000 in
theorem lx_normalize (F : Nat) (w : World) (hF : F < 9218868437227405312) (h1 : 4607182418800017408 ≤ F) :
    Calls Tryz.prog 120 #[.float .f64 F] w fun e w' => e = .returned (.tuple #[.float .f64 F, .int .i64 0]) ∧ w' = w := by
  have HA := hid (mAbs_any F w (by omega))
  rw [show F % 9223372036854775808 = F by omega] at HA
  have fF : Fi F := ⟨by omega, by omega⟩
  have q : (FloatKind.f64.format.order F 4503599627370496 == some .lt) = false := by
    rw [ord_lt fF ⟨by decide, by decide⟩]
    refine decide_eq_false ?_
    rw [sv_low (by omega), sv_low (by decide)]
    have := rungVal_le (r := 4503599627370496) (s := F) (by omega)
    omega
  clear hF h1 fF
  go_enter Tryz.func120, Tryz.ntmps120
  go_wp2_with fail
  refine Calls.mono HA.out ?_
  rintro e w1 ⟨rfl, rfl⟩
  go_wp2_with fail
  go_returns
  exact ⟨rfl, rfl⟩
set_option maxHeartbeats 1600000 in
set_option maxRecDepth 100000 in
theorem lx_low (F : Nat) (K e s x1 f g : Int) (m : Nat) (N R : Nat) (w : World) (hK : (F : Int) / 4503599627370496 = K) (h0 : 0 ≤ K) (h1 : K ≤ 2046) (hs : K - 1023 = s) (hx : e + s = x1) (h3 : -1075 ≤ x1) (hd : x1 < -1022) (hf : x1 + 53 = f) (hg : f + 1023 = g) (g0 : 0 ≤ g) (g1 : g ≤ 2046) (b0 : -5000 ≤ e) (b1 : e ≤ 5000) (hmul : floatBits .mul .f64 4368491638549381120 N = some R)
    (ha : bits .and .i64 K 2047 = K) (hn : bits .andNot .u64 (F : Int) 9218868437227405312 = (m : Int)) (hor : bits .or .u64 (m : Int) (g * 4503599627370496) = (N : Int)) (q0 : (FloatKind.f64.format.order F 0 == some .eq) = false)
    (HI : Hid (Calls Tryz.prog 118 #[.float .f64 F, .int .i64 0] w fun x w' => x = .returned (.bool false) ∧ w' = w)) (HN : Hid (Calls Tryz.prog 119 #[.float .f64 F] w fun x w' => x = .returned (.bool false) ∧ w' = w)) (HZ : Hid (Calls Tryz.prog 120 #[.float .f64 F] w fun e w' => e = .returned (.tuple #[.float .f64 F, .int .i64 0]) ∧ w' = w)) :
    Calls Tryz.prog 94 #[.float .f64 F, .int .i64 e] w fun x w' => x = .returned (.float .f64 R) ∧ w' = w := by
  have HB := fun V => bits_run F V
  have hmr : ∀ P t V, (binOp .mul t (.float .f64 4368491638549381120) (.float .f64 N)).run P V = .ok (.float .f64 R) V := fun P t V => by
    rw [fmul_run]; unfold fval fwld; rw [hmul]
  have HR := fun V => from_run N V
  clear hmul
  go_enter Tryz.func94, Tryz.ntmps94
  go_wp2_with fail
  refine Calls.mono HI.out ?_
  rintro e w1 ⟨rfl, rfl⟩
  go_wp2_with fail
  refine Calls.mono HN.out ?_
  rintro e w1 ⟨rfl, rfl⟩
  go_wp2_with fail
  refine Calls.mono HZ.out ?_
  rintro e w1 ⟨rfl, rfl⟩
  go_wp2_with fail
  go_ret
  exact ⟨rfl, rfl⟩
set_option maxHeartbeats 1600000 in
set_option maxRecDepth 100000 in
theorem lx_high (F : Nat) (K e s x1 g : Int) (m : Nat) (N R : Nat) (w : World) (hK : (F : Int) / 4503599627370496 = K) (h0 : 0 ≤ K) (h1 : K ≤ 2046) (hs : K - 1023 = s) (hx : e + s = x1) (h3 : x1 ≤ 1023) (hd : ¬ x1 < -1022) (hg : x1 + 1023 = g) (g0 : 0 ≤ g) (g1 : g ≤ 2046) (b0 : -5000 ≤ e) (b1 : e ≤ 5000) (hmul : floatBits .mul .f64 4607182418800017408 N = some R)
    (ha : bits .and .i64 K 2047 = K) (hn : bits .andNot .u64 (F : Int) 9218868437227405312 = (m : Int)) (hor : bits .or .u64 (m : Int) (g * 4503599627370496) = (N : Int)) (q0 : (FloatKind.f64.format.order F 0 == some .eq) = false)
    (HI : Hid (Calls Tryz.prog 118 #[.float .f64 F, .int .i64 0] w fun x w' => x = .returned (.bool false) ∧ w' = w)) (HN : Hid (Calls Tryz.prog 119 #[.float .f64 F] w fun x w' => x = .returned (.bool false) ∧ w' = w)) (HZ : Hid (Calls Tryz.prog 120 #[.float .f64 F] w fun e w' => e = .returned (.tuple #[.float .f64 F, .int .i64 0]) ∧ w' = w)) :
    Calls Tryz.prog 94 #[.float .f64 F, .int .i64 e] w fun x w' => x = .returned (.float .f64 R) ∧ w' = w := by
  have HB := fun V => bits_run F V
  have hmr : ∀ P t V, (binOp .mul t (.float .f64 4607182418800017408) (.float .f64 N)).run P V = .ok (.float .f64 R) V := fun P t V => by
    rw [fmul_run]; unfold fval fwld; rw [hmul]
  have HR := fun V => from_run N V
  clear hmul
  go_enter Tryz.func94, Tryz.ntmps94
  go_wp2_with fail
  refine Calls.mono HI.out ?_
  rintro e w1 ⟨rfl, rfl⟩
  go_wp2_with fail
  refine Calls.mono HN.out ?_
  rintro e w1 ⟨rfl, rfl⟩
  go_wp2_with fail
  refine Calls.mono HZ.out ?_
  rintro e w1 ⟨rfl, rfl⟩
  go_wp2_with fail
  go_ret
  exact ⟨rfl, rfl⟩
end Go.Proofs.YtabkgpnckaaclaaGreatDoor

/- A sum of two floats and what is lost of it, made by six rounded steps, are together the two, exactly. Nothing here speaks of the program. -/
namespace Go.Proofs.YtabkgpnckaaclaaGreatDoor
open Go.RowKit
set_option linter.unusedVariables false

/-- A finite float's number. -/
def Rp (n : Int) : Prop := ∃ v, Fi v ∧ sv v = n
theorem Rp.neg {n : Int} (h : Rp n) : Rp (-n) := by
  obtain ⟨v, f, e⟩ := h
  exact ⟨fopp v, f.opp, by rw [sv_opp f.1, e]⟩
theorem Rp.of {n m : Int} (h : Rp n) (e : n = m) : Rp m := e ▸ h
/-- A whole number of at most 2^53 in some unit is a float, in the least units too. -/
theorem te_rep (m k : Nat) (hm : m ≤ 9007199254740992) (h2 : k ≤ 2044) : ∃ r, r < 9218868437227405312 ∧ rungVal r = m * 2 ^ k := by
  by_cases h0 : m = 0
  · subst h0; exact ⟨0, by omega, by rw [Nat.zero_mul]; rfl⟩
  by_cases hb : 4503599627370496 ≤ m
  · exact ⟨k * 4503599627370496 + m, by omega, rungVal_count hm (fun _ => hb)⟩
  · have hlo := Nat.log2_self_le h0
    have hhi : m < 2 ^ (m.log2 + 1) := Nat.lt_log2_self
    generalize m.log2 = L at hlo hhi
    have b52 : (2 : Nat) ^ 52 = 4503599627370496 := by decide
    have hL : L < 52 := by
      by_cases hc : L < 52
      · exact hc
      · have := Nat.pow_le_pow_right (show 0 < 2 by decide) (show 52 ≤ L by omega); omega
    by_cases hk : 52 - L ≤ k
    · have e1 : 2 ^ L * 2 ^ (52 - L) = 4503599627370496 := by rw [← Nat.pow_add, ← b52]; congr 1; omega
      have e2 : 2 ^ (L + 1) * 2 ^ (52 - L) = 9007199254740992 := by rw [← Nat.pow_add, show L + 1 + (52 - L) = 53 by omega]
      have k1 := Nat.mul_le_mul_right (2 ^ (52 - L)) hlo
      have k2 := Nat.mul_le_mul_right (2 ^ (52 - L)) (Nat.le_of_lt hhi)
      rw [e1] at k1
      rw [e2] at k2
      refine ⟨(k - (52 - L)) * 4503599627370496 + m * 2 ^ (52 - L), by omega, ?_⟩
      rw [rungVal_count k2 (fun _ => k1), Nat.mul_assoc, ← Nat.pow_add, show 52 - L + (k - (52 - L)) = k by omega]
    · have h3 : m * 2 ^ k ≤ 2 ^ (L + 1) * 2 ^ k := Nat.mul_le_mul_right _ (Nat.le_of_lt hhi)
      have h4 : 2 ^ (L + 1) * 2 ^ k ≤ 2 ^ 52 := by rw [← Nat.pow_add]; exact Nat.pow_le_pow_right (by decide) (by omega)
      refine ⟨0 * 4503599627370496 + m * 2 ^ k, by omega, ?_⟩
      rw [rungVal_count (by omega) (fun h => absurd h (by decide)), Nat.pow_zero, Nat.mul_one]

/-- What is known of a rounded whole number of the least units. -/
structure Rd (N : Int) (r : Nat) : Prop where
  fi : Fi r
  near : ∀ v, Fi v → (sv r - N).natAbs ≤ (sv v - N).natAbs
  up : ∀ v, Fi v → (sv v).natAbs ≤ N.natAbs → (sv v).natAbs ≤ (sv r).natAbs
  self : Rp N → sv r = N

end Go.Proofs.YtabkgpnckaaclaaGreatDoor

/- math.Ldexp of a whole number from 1 to 2^53: that number times a power of two, exactly, where it is a float. -/
namespace Go.Proofs.YtabkgpnckaaclaaGreatDoor
open Go.RowKit
set_option linter.unusedVariables false

/-- A rounded fraction that is a whole number of the least units, and a float. -/
theorem lx_exact {T : Int} {D r : Nat} (hD : 0 < D) (h : RN (T * (D : Int)) D r) (g : Rp T) : sv r = T ∧ Fi r := by
  have h1 : RN T 1 r := by
    obtain ⟨neg, s, e, n1, n2, m⟩ := h
    have hD' : (0 : Int) < (D : Int) := by omega
    refine ⟨neg, s, e, fun ht => n1 (Int.mul_neg_of_neg_of_pos ht hD'), fun ht => n2 (Int.mul_pos ht hD'), ?_⟩
    rw [Int.natAbs_mul, Int.natAbs_natCast] at m
    have m2 : Mid (T.natAbs * D) (1 * D) s := by rw [Nat.one_mul]; exact m
    exact m2.back D hD
  obtain ⟨v, fv, ev⟩ := g
  exact RN.only h1 fv ev.symm
/-- What the bits of a whole number are. -/
theorem lx_bits {F n : Nat} {Z : Nat} (hZ : Z = 1074) (hF : F < 9218868437227405312) (hv : rungVal F = n * 2 ^ Z) (h1 : 1 ≤ n) (h2 : n ≤ 9007199254740992) : ∃ E f : Nat, F = (E + 1) * 4503599627370496 + f ∧ f < 4503599627370496 ∧ rungVal F = (4503599627370496 + f) * 2 ^ E ∧ 1022 ≤ E ∧ E ≤ 1075 := by
  have hge : 4503599627370496 ≤ F := by
    by_cases hc : 4503599627370496 ≤ F
    · exact hc
    · exfalso
      have e : rungVal F = F := by unfold rungVal; rw [if_pos (by omega)]
      have h3 : 2 ^ 60 ≤ 2 ^ Z := Nat.pow_le_pow_right (by decide) (by omega)
      have h4 : 1 * 2 ^ Z ≤ n * 2 ^ Z := Nat.mul_le_mul_right _ h1
      have h5 : (2 : Nat) ^ 60 = 1152921504606846976 := by decide
      omega
  have e : rungVal F = (4503599627370496 + F % 4503599627370496) * 2 ^ (F / 4503599627370496 - 1) := by unfold rungVal; rw [if_neg (by omega)]
  refine ⟨F / 4503599627370496 - 1, F % 4503599627370496, ?_, Nat.mod_lt _ (by decide), e, ?_, ?_⟩
  · have := Nat.div_add_mod F 4503599627370496
    have h3 : 1 ≤ F / 4503599627370496 := by omega
    rw [show F / 4503599627370496 - 1 + 1 = F / 4503599627370496 by omega]
    omega
  · have hm : F % 4503599627370496 < 4503599627370496 := Nat.mod_lt _ (by decide)
    generalize F % 4503599627370496 = fr at *
    generalize F / 4503599627370496 - 1 = E at *
    by_cases hc : 1022 ≤ E
    · exact hc
    · exfalso
      have h3 : (4503599627370496 + fr) * 2 ^ E < 2 ^ 53 * 2 ^ E := Nat.mul_lt_mul_of_pos_right (by omega) (Nat.two_pow_pos E)
      rw [← Nat.pow_add] at h3
      have h4 : 2 ^ (53 + E) ≤ 2 ^ Z := Nat.pow_le_pow_right (by decide) (by omega)
      have h5 : 1 * 2 ^ Z ≤ n * 2 ^ Z := Nat.mul_le_mul_right _ h1
      omega
  · generalize F % 4503599627370496 = fr at *
    generalize F / 4503599627370496 - 1 = E at *
    by_cases hc : E ≤ 1075
    · exact hc
    · exfalso
      have h3 : 2 ^ 52 * 2 ^ E ≤ (4503599627370496 + fr) * 2 ^ E := Nat.mul_le_mul_right _ (by omega)
      rw [← Nat.pow_add] at h3
      have h4 : 2 ^ (53 + Z + 1) ≤ 2 ^ (52 + E) := Nat.pow_le_pow_right (by decide) (by omega)
      have h5 : n * 2 ^ Z ≤ 2 ^ 53 * 2 ^ Z := Nat.mul_le_mul_right _ (by omega)
      rw [← Nat.pow_add] at h5
      have h6 : 2 ^ (53 + Z + 1) = 2 * 2 ^ (53 + Z) := by rw [Nat.pow_succ, Nat.mul_comm]
      have h7 := Nat.two_pow_pos (53 + Z)
      omega
end Go.Proofs.YtabkgpnckaaclaaGreatDoor

/- math.Ldexp of a whole number from 1 to 2^53: that number times a power of two, exactly, where it is a float. -/
namespace Go.Proofs.YtabkgpnckaaclaaGreatDoor
open Go.RowKit
set_option linter.unusedVariables false

theorem lx_m : Fi 4368491638549381120 ∧ sv 4368491638549381120 = ((2 ^ 1021 : Nat) : Int) := ⟨⟨by decide, by decide⟩, by decide +kernel⟩
/-- The bits that ldexp makes, and their number. -/
theorem lx_N {g f : Nat} (hf : f < 4503599627370496) (h0 : 1 ≤ g) (h1 : g ≤ 2046) : Fi (g * 4503599627370496 + f) ∧ sv (g * 4503599627370496 + f) = (((4503599627370496 + f) * 2 ^ (g - 1) : Nat) : Int) := by
  refine ⟨⟨by omega, by omega⟩, ?_⟩
  have h := rungVal_count (E := g - 1) (K := 4503599627370496 + f) (by omega) (fun _ => by omega)
  rw [show (g - 1) * 4503599627370496 + (4503599627370496 + f) = g * 4503599627370496 + f by omega] at h
  rw [sv_low (by omega), h]
theorem lx_highval {n c Z E : Nat} {p : Int} {j : Nat} (hZ : Z = 1074) (h : n * 2 ^ Z = c * 2 ^ E) (hj : (j : Int) = p + E) (p0 : -1074 ≤ p) : n * 2 ^ (p + 1074).toNat = c * 2 ^ j := by
  by_cases hp : 0 ≤ p
  · obtain ⟨q, rfl⟩ := Int.eq_ofNat_of_zero_le hp
    have e1 : ((q : Int) + 1074).toNat = Z + q := by omega
    have e2 : j = E + q := by omega
    rw [e1, e2, Nat.pow_add, Nat.pow_add, ← Nat.mul_assoc, h, Nat.mul_assoc]
  · obtain ⟨q, hq⟩ : ∃ q : Nat, p = -(q : Int) := ⟨(-p).toNat, by omega⟩
    subst hq
    have e1 : Z = (-(q : Int) + 1074).toNat + q := by omega
    have e2 : E = j + q := by omega
    rw [e2] at h
    generalize (-(q : Int) + 1074).toNat = t at *
    rw [e1, Nat.pow_add, Nat.pow_add, ← Nat.mul_assoc, ← Nat.mul_assoc] at h
    exact Nat.eq_of_mul_eq_mul_right (Nat.two_pow_pos q) h
theorem lx_lowval {m n c Z E t j : Nat} {p : Int} (hm : m = 1021) (hZ : Z = 1074) (h : n * 2 ^ Z = c * 2 ^ E) (ht : (t : Int) = p + 1074) (hj : (j : Int) = p + E + 53) : 2 ^ m * (c * 2 ^ j) = n * 2 ^ t * 2 ^ Z := by
  have e : 2 ^ m * (c * 2 ^ j) = c * 2 ^ (m + j) := by rw [Nat.pow_add, Nat.mul_left_comm]
  rw [e, Nat.mul_right_comm, h, Nat.mul_assoc, ← Nat.pow_add, show m + j = E + t by omega]

theorem lx_ldexp (F n : Nat) (p : Int) (Z : Nat) (hZ : Z = 1074) (w : World) (hF : F < 9218868437227405312) (hv : rungVal F = n * 2 ^ Z) (h1 : 1 ≤ n) (h2 : n ≤ 9007199254740992) (p0 : -1074 ≤ p) (p1 : p ≤ 971) (hx : n < 9007199254740992 ∨ p < 971) :
    Calls Tryz.prog 94 #[.float .f64 F, .int .i64 p] w fun x w' => ∃ R, x = .returned (.float .f64 R) ∧ Fi R ∧ sv R = ((n * 2 ^ (p + 1074).toNat : Nat) : Int) ∧ w' = w := by
  obtain ⟨E, f, hFe, hf, hval, hE0, hE1⟩ := lx_bits hZ hF hv h1 h2
  have fF : Fi F := ⟨by omega, by omega⟩
  have hc := hv.symm.trans hval
  have HI := mIsInf0_any F w (by omega)
  rw [show isinf (F % 9223372036854775808) = false by unfold isinf; simp; omega] at HI
  have HN := mIsNaN_any F w
  rw [fF.notnan] at HN
  have q0 : (FloatKind.f64.format.order F 0 == some .eq) = false := by
    rw [ord_eq fF ⟨by decide, by decide⟩]
    refine decide_eq_false ?_
    rw [sv_low (by omega), show sv 0 = 0 by decide +kernel, hv]
    have := Nat.mul_pos (show 0 < n by omega) (Nat.two_pow_pos Z)
    omega
  have HZ := lx_normalize F w hF (by omega)
  have hK : (F : Int) / 4503599627370496 = ((E + 1 : Nat) : Int) := by omega
  have ha := lx_and (E + 1) (by omega)
  have hn : bits .andNot .u64 (F : Int) 9218868437227405312 = (f : Int) := by
    have := lx_andNot (E + 1) f hf (by omega)
    rw [← hFe] at this
    exact this
  have hEx : E = 1075 → n = 9007199254740992 := by
    intro he
    rw [show E = Z + 1 by omega, Nat.pow_succ, Nat.mul_comm (2 ^ Z) 2, ← Nat.mul_assoc] at hc
    have := Nat.eq_of_mul_eq_mul_right (Nat.two_pow_pos Z) hc
    omega
  by_cases hd : p + (E : Int) < 0
  · obtain ⟨g, hg⟩ : ∃ g : Nat, (g : Int) = p + E + 54 := ⟨(p + E + 54).toNat, by omega⟩
    obtain ⟨t, ht⟩ : ∃ t : Nat, (t : Int) = p + 1074 := ⟨(p + 1074).toNat, by omega⟩
    obtain ⟨fN, vN⟩ := lx_N (g := g) hf (by omega) (by omega)
    obtain ⟨R, hR⟩ := mul_some (x := 4368491638549381120) (y := g * 4503599627370496 + f) (by decide) ((fi_fin fN.1).2 fN)
    have hrn := mul_rn Z hZ lx_m.1 fN (FN.some hR)
    rw [lx_m.2, vN, ← Int.natCast_mul, lx_lowval (p := p) rfl hZ hc ht (by omega : ((g - 1 : Nat) : Int) = p + E + 53), Int.natCast_mul] at hrn
    obtain ⟨r, hr, hrv⟩ := te_rep n t h2 (by omega)
    have hp : Rp ((n * 2 ^ t : Nat) : Int) := ⟨r, ⟨by omega, by omega⟩, by rw [sv_low (by omega), hrv]⟩
    obtain ⟨e1, e2⟩ := lx_exact (Nat.two_pow_pos Z) hrn hp
    have hor := lx_or g f hf (by omega)
    refine Calls.mono (lx_low F ((E + 1 : Nat) : Int) p ((E : Int) - 1022) (p + E - 1022) (p + E - 1022 + 53) ((g : Nat) : Int) f (g * 4503599627370496 + f) R w hK (by omega) (by omega) (by omega) (by omega) (by omega) (by omega) rfl (by omega) (by omega) (by omega) (by omega) (by omega) hR ha hn (by rw [← hor, Int.natCast_mul]; rfl) q0 (hid HI) (hid HN) (hid HZ)) ?_
    rintro x w' ⟨rfl, rfl⟩
    exact ⟨R, rfl, e2, by rw [e1, show (p + 1074).toNat = t by omega], rfl⟩
  · obtain ⟨g, hg⟩ : ∃ g : Nat, (g : Int) = p + E + 1 := ⟨(p + E + 1).toNat, by omega⟩
    have hg2 : g ≤ 2046 := by
      by_cases he : E = 1075
      · have := hEx he; omega
      · omega
    obtain ⟨fN, vN⟩ := lx_N (g := g) hf (by omega) hg2
    have hval2 := lx_highval (j := g - 1) (p := p) hZ hc (by omega) p0
    have hor := lx_or g f hf hg2
    refine Calls.mono (lx_high F ((E + 1 : Nat) : Int) p ((E : Int) - 1022) (p + E - 1022) ((g : Nat) : Int) f (g * 4503599627370496 + f) (g * 4503599627370496 + f) w hK (by omega) (by omega) (by omega) (by omega) (by omega) (by omega) (by omega) (by omega) (by omega) (by omega) (by omega) (mul_one_fl (by omega) (by omega)) ha hn (by rw [← hor, Int.natCast_mul]; rfl) q0 (hid HI) (hid HN) (hid HZ)) ?_
    rintro x w' ⟨rfl, rfl⟩
    exact ⟨_, rfl, fN, by rw [vN, hval2], rfl⟩
set_option maxHeartbeats 800000 in
set_option maxRecDepth 100000 in
theorem lx_Ldexp (F n : Nat) (p : Int) (Z : Nat) (hZ : Z = 1074) (w : World) (hF : F < 9218868437227405312) (hv : rungVal F = n * 2 ^ Z) (h1 : 1 ≤ n) (h2 : n ≤ 9007199254740992) (p0 : -1074 ≤ p) (p1 : p ≤ 971) (hx : n < 9007199254740992 ∨ p < 971) :
    Calls Tryz.prog 53 #[.float .f64 F, .int .i64 p] w fun x w' => ∃ R, x = .returned (.float .f64 R) ∧ Fi R ∧ sv R = ((n * 2 ^ (p + 1074).toNat : Nat) : Int) ∧ w' = w := by
  have H := hid (lx_ldexp F n p Z hZ w hF hv h1 h2 p0 p1 hx)
  clear hv h1 h2 p0 p1 hx hF hZ
  generalize (p + 1074).toNat = t at *
  go_enter Tryz.func53, Tryz.ntmps53
  go_wp2_with fail
  refine Calls.mono H.out ?_
  rintro e w1 ⟨R, rfl, fR, hR, rfl⟩
  have HR := hid (And.intro fR hR)
  clear fR hR H
  go_wp2_with fail
  go_ret
  exact ⟨R, rfl, HR.out.1, HR.out.2, rfl⟩
end Go.Proofs.YtabkgpnckaaclaaGreatDoor

/- Whole numbers as floats (as in Fv2, which wants turn's texts). Nothing here speaks of the program. -/
namespace Go.Proofs.YtabkgpnckaaclaaGreatDoor
open Go.RowKit
set_option linter.unusedVariables false

theorem In.ndof_eq {k x : Nat} {n : Int} (h : In k n n x) : sv x = n * ((2 ^ k : Nat) : Int) := Int.le_antisymm h.2.2 h.2.1
/-- A whole number as a float. -/
theorem ndint_rn (E : Nat) (hE : E = 1074) (n : Int) : RN (n * ((2 ^ E : Nat) : Int)) 1 (floatOfInt .f64 n) := by
  have hp : (0 : Int) < ((2 ^ E : Nat) : Int) := by have := Nat.two_pow_pos E; omega
  show RN _ 1 (Ieee.double.nearest (decide (n < 0)) n.natAbs 0)
  refine near_rn (by decide) ?_ ?_ ?_
  · rw [Int.natAbs_mul, Int.natAbs_natCast, show ((0 : Int) + 1074).toNat = E by omega, show (-((0 : Int) + 1074)).toNat = 0 by omega]
  · intro h
    refine decide_eq_true ?_
    by_cases hz : n < 0
    · exact hz
    · have := Int.mul_nonneg (show 0 ≤ n by omega) (Int.le_of_lt hp); omega
  · intro h
    refine decide_eq_false ?_
    intro hz
    have := Int.mul_nonneg (show 0 ≤ -n by omega) (Int.le_of_lt hp); rw [Int.neg_mul] at this; omega
theorem ndint_in (n : Int) (h1 : -9007199254740992 ≤ n) (h2 : n ≤ 9007199254740992) : In 1074 n n (floatOfInt .f64 n) := by
  obtain ⟨E, hE⟩ : ∃ E, E = 1074 := ⟨_, rfl⟩
  have h := (ndint_rn E hE n).bounds (k := E) (lo := n) (hi := n) (by decide) (by omega) (by omega) h1 h2 (by simp) (by simp)
  rw [hE] at h; exact h
theorem ndfloat_nonneg (n : Nat) (h : n ≤ 9007199254740992) : floatOfInt .f64 (n : Int) < 9218868437227405312 := by
  have hi := ndint_in (n : Int) (by omega) (by omega)
  have e : floatOfInt .f64 (n : Int) = Ieee.double.nearest false n 0 := by
    show Ieee.double.nearest (decide ((n : Int) < 0)) (n : Int).natAbs 0 = _
    rw [decide_eq_false (by omega), Int.natAbs_natCast]
  have hs : ∃ s, Ieee.double.nearest false n 0 = s ∧ s ≤ 9218868437227405312 := by
    by_cases h0 : n = 0
    · subst h0; exact ⟨0, by simp [Ieee.Format.nearest]; rfl, by omega⟩
    · obtain ⟨s, e1, m⟩ := near_is_mid false n 0 h0
      exact ⟨s, e1, m.top⟩
  obtain ⟨s, e1, h1⟩ := hs
  have f := hi.1.2
  rw [e, e1] at f ⊢
  rw [Nat.mod_eq_of_lt (by omega)] at f
  exact f
theorem ndfloat_val {n F : Nat} (h : n ≤ 9007199254740992) (hF : F = floatOfInt .f64 (n : Int)) (Z : Nat) (hZ : Z = 1074) : F < 9218868437227405312 ∧ rungVal F = n * 2 ^ Z := by
  subst hF
  have h1 := ndfloat_nonneg n h
  refine ⟨h1, ?_⟩
  have := (ndint_in (n : Int) (by omega) (by omega)).ndof_eq
  rw [sv_low (by omega), ← hZ, ← Int.natCast_mul] at this
  exact Int.ofNat.inj this
end Go.Proofs.YtabkgpnckaaclaaGreatDoor

