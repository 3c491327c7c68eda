/- My texts on the way to NodalTells, one behind the other: contracts of the program and of the document's answers. -/
import Derived.Test.YtodihhokodnmkaaJ1
import Derived.Laws.FloatArith
import Derived.RangeFuncNested
import Derived.RangeFuncBound
import Derived.RangeFuncCalls
import Derived.RangeFuncLeaves
import Derived.RangeFuncFrom
import Derived.Shelf.Abstract
import Derived.Shelf.RegionOpen
import Derived.OwnWalkIn
import Derived.TacticsInMore
import Derived.LoopNIn
import Derived.LoopIn
import Derived.Stop.RegionWithIn
import Derived.KernelRfl
/- package nodal: the table of names, of every text; Names. (tools/mkno1.py) -/
namespace Go.Proofs.Ytodihhokodnmkaa
open Go.RowKit
set_option linter.unusedVariables false

/-- A name's row: the factor's base, its slope, the turn's swing, by their bits. -/
def ndR : Nat → Nat × Nat × Nat
  | 0 => (4607182418800017408, 13808865119849376907, 13894873686856433664)
  | 1 => (4607182418800017408, 0, 0)
  | 2 => (4607290505191074300, 4598823737891617767, 13908693723383857152)
  | 3 => (4607209440397781631, 4592951043977526641, 13904224483494854656)
  | 4 => (4607222951196663742, 4595905405333081686, 4682158116698062848)
  | 5 => (4607376073583994339, 4601129580900831461, 13910755307685937152)
  | _ => (4607182418800017408, 13817223800757776548, 0)
/-- Which row a name has. -/
def ndK (l : List UInt8) : Option Nat :=
  if l = [77, 50] then some 0 else
  if l = [78, 50] then some 0 else
  if l = [83, 50] then some 1 else
  if l = [80, 49] then some 1 else
  if l = [75, 50] then some 2 else
  if l = [75, 49] then some 3 else
  if l = [79, 49] then some 4 else
  if l = [81, 49] then some 4 else
  if l = [77, 102] then some 5 else
  if l = [77, 109] then some 6 else none
def ndB (k : Nat) : Nat := (ndR k).1
def ndS (k : Nat) : Nat := (ndR k).2.1
def ndC (k : Nat) : Nat := (ndR k).2.2
def ndV (x : Option Nat) : Value := match x with
  | some k => .tuple #[.agg #[.float .f64 (ndB k), .float .f64 (ndS k), .float .f64 (ndC k)], .int .i64 0]
  | none => .tuple #[.agg #[.float .f64 0, .float .f64 0, .float .f64 0], .int .i64 6]
theorem ndbeq {s : ByteArray} {l : List UInt8} (h : ¬ s.toList = l) : (s.toList == l) = false := beq_eq_false_iff_ne.2 h
theorem ndfput3 {B : Nat} {a w : World} (h : Below B a w) (b : Nat) (hb : B ≤ b) (v0 v1 v2 : Value) : Below B a (((w.setCell ⟨b, 0, none⟩ v0).setCell ⟨b, 1, none⟩ v1).setCell ⟨b, 2, none⟩ v2) :=
  ((h.setCell (p := ⟨b, 0, none⟩) hb _).setCell (p := ⟨b, 1, none⟩) hb _).setCell (p := ⟨b, 2, none⟩) hb _

set_option maxHeartbeats 1600000 in
set_option maxRecDepth 100000 in
theorem ndfind_M2 (s : ByteArray) (w : World) (h0 : (s.toList == [77, 50]) = true) :
    Calls Try.prog 30 #[.string s] w fun e w' => e = .returned (.tuple #[.agg #[.float .f64 4607182418800017408, .float .f64 13808865119849376907, .float .f64 13894873686856433664], .int .i64 0]) ∧ Below w.heap.size w w' := by
  have HX := hid (boxes1 w 49 #[.float .f64 0, .float .f64 0, .float .f64 0])
  obtain ⟨X, hX⟩ : ∃ X, w.alloc (.cells #[.float .f64 0, .float .f64 0, .float .f64 0] 49) = X := ⟨_, rfl⟩
  rw [hX] at HX
  obtain ⟨X1, s1, h1', bl1⟩ := store_box Try.prog HX.out.1 0 (by simp) 4607182418800017408
  obtain ⟨X2, s2, h2', bl2⟩ := store_box Try.prog h1' 1 (by simp) 13808865119849376907
  obtain ⟨X3, s3, h3', bl3⟩ := store_box Try.prog h2' 2 (by simp) 13894873686856433664
  have g0 : X3.cell? ⟨w.heap.size, 0, none⟩ = some (.float .f64 4607182418800017408) := h3'.cell 0
  have g1 : X3.cell? ⟨w.heap.size, 1, none⟩ = some (.float .f64 13808865119849376907) := h3'.cell 1
  have g2 : X3.cell? ⟨w.heap.size, 2, none⟩ = some (.float .f64 13894873686856433664) := h3'.cell 2
  have HB := hid (bl3 _ _ (Nat.le_refl _) (bl2 _ _ (Nat.le_refl _) (bl1 _ _ (Nat.le_refl _) HX.out.2)))
  clear bl1 bl2 bl3 HX h1' h2' h3'
  go_enter Try.func30, Try.ntmps30
  go_wp2_with fail
  refine bodyPost_ret (v := Value.tuple #[.agg #[.float .f64 4607182418800017408, .float .f64 13808865119849376907, .float .f64 13894873686856433664], .int .i64 0]) (by simp [results, Try.results30, go_sem, g0, g1, g2]) rfl ?_
  exact ⟨rfl, HB.out⟩
set_option maxHeartbeats 1600000 in
set_option maxRecDepth 100000 in
theorem ndfind_N2 (s : ByteArray) (w : World) (h0 : (s.toList == [77, 50]) = false) (h1 : (s.toList == [78, 50]) = true) :
    Calls Try.prog 30 #[.string s] w fun e w' => e = .returned (.tuple #[.agg #[.float .f64 4607182418800017408, .float .f64 13808865119849376907, .float .f64 13894873686856433664], .int .i64 0]) ∧ Below w.heap.size w w' := by
  have HX := hid (boxes1 w 49 #[.float .f64 0, .float .f64 0, .float .f64 0])
  obtain ⟨X, hX⟩ : ∃ X, w.alloc (.cells #[.float .f64 0, .float .f64 0, .float .f64 0] 49) = X := ⟨_, rfl⟩
  rw [hX] at HX
  obtain ⟨X1, s1, h1', bl1⟩ := store_box Try.prog HX.out.1 0 (by simp) 4607182418800017408
  obtain ⟨X2, s2, h2', bl2⟩ := store_box Try.prog h1' 1 (by simp) 13808865119849376907
  obtain ⟨X3, s3, h3', bl3⟩ := store_box Try.prog h2' 2 (by simp) 13894873686856433664
  have g0 : X3.cell? ⟨w.heap.size, 0, none⟩ = some (.float .f64 4607182418800017408) := h3'.cell 0
  have g1 : X3.cell? ⟨w.heap.size, 1, none⟩ = some (.float .f64 13808865119849376907) := h3'.cell 1
  have g2 : X3.cell? ⟨w.heap.size, 2, none⟩ = some (.float .f64 13894873686856433664) := h3'.cell 2
  have HB := hid (bl3 _ _ (Nat.le_refl _) (bl2 _ _ (Nat.le_refl _) (bl1 _ _ (Nat.le_refl _) HX.out.2)))
  clear bl1 bl2 bl3 HX h1' h2' h3'
  go_enter Try.func30, Try.ntmps30
  go_wp2_with fail
  refine bodyPost_ret (v := Value.tuple #[.agg #[.float .f64 4607182418800017408, .float .f64 13808865119849376907, .float .f64 13894873686856433664], .int .i64 0]) (by simp [results, Try.results30, go_sem, g0, g1, g2]) rfl ?_
  exact ⟨rfl, HB.out⟩
set_option maxHeartbeats 1600000 in
set_option maxRecDepth 100000 in
theorem ndfind_S2 (s : ByteArray) (w : World) (h0 : (s.toList == [77, 50]) = false) (h1 : (s.toList == [78, 50]) = false) (h2 : (s.toList == [83, 50]) = true) :
    Calls Try.prog 30 #[.string s] w fun e w' => e = .returned (.tuple #[.agg #[.float .f64 4607182418800017408, .float .f64 0, .float .f64 0], .int .i64 0]) ∧ Below w.heap.size w w' := by
  have HX := hid (boxes1 w 49 #[.float .f64 0, .float .f64 0, .float .f64 0])
  obtain ⟨X, hX⟩ : ∃ X, w.alloc (.cells #[.float .f64 0, .float .f64 0, .float .f64 0] 49) = X := ⟨_, rfl⟩
  rw [hX] at HX
  obtain ⟨X1, s1, h1', bl1⟩ := store_box Try.prog HX.out.1 0 (by simp) 4607182418800017408
  obtain ⟨X2, s2, h2', bl2⟩ := store_box Try.prog h1' 1 (by simp) 0
  obtain ⟨X3, s3, h3', bl3⟩ := store_box Try.prog h2' 2 (by simp) 0
  have g0 : X3.cell? ⟨w.heap.size, 0, none⟩ = some (.float .f64 4607182418800017408) := h3'.cell 0
  have g1 : X3.cell? ⟨w.heap.size, 1, none⟩ = some (.float .f64 0) := h3'.cell 1
  have g2 : X3.cell? ⟨w.heap.size, 2, none⟩ = some (.float .f64 0) := h3'.cell 2
  have HB := hid (bl3 _ _ (Nat.le_refl _) (bl2 _ _ (Nat.le_refl _) (bl1 _ _ (Nat.le_refl _) HX.out.2)))
  clear bl1 bl2 bl3 HX h1' h2' h3'
  go_enter Try.func30, Try.ntmps30
  go_wp2_with fail
  refine bodyPost_ret (v := Value.tuple #[.agg #[.float .f64 4607182418800017408, .float .f64 0, .float .f64 0], .int .i64 0]) (by simp [results, Try.results30, go_sem, g0, g1, g2]) rfl ?_
  exact ⟨rfl, HB.out⟩
set_option maxHeartbeats 1600000 in
set_option maxRecDepth 100000 in
theorem ndfind_P1 (s : ByteArray) (w : World) (h0 : (s.toList == [77, 50]) = false) (h1 : (s.toList == [78, 50]) = false) (h2 : (s.toList == [83, 50]) = false) (h3 : (s.toList == [80, 49]) = true) :
    Calls Try.prog 30 #[.string s] w fun e w' => e = .returned (.tuple #[.agg #[.float .f64 4607182418800017408, .float .f64 0, .float .f64 0], .int .i64 0]) ∧ Below w.heap.size w w' := by
  have HX := hid (boxes1 w 49 #[.float .f64 0, .float .f64 0, .float .f64 0])
  obtain ⟨X, hX⟩ : ∃ X, w.alloc (.cells #[.float .f64 0, .float .f64 0, .float .f64 0] 49) = X := ⟨_, rfl⟩
  rw [hX] at HX
  obtain ⟨X1, s1, h1', bl1⟩ := store_box Try.prog HX.out.1 0 (by simp) 4607182418800017408
  obtain ⟨X2, s2, h2', bl2⟩ := store_box Try.prog h1' 1 (by simp) 0
  obtain ⟨X3, s3, h3', bl3⟩ := store_box Try.prog h2' 2 (by simp) 0
  have g0 : X3.cell? ⟨w.heap.size, 0, none⟩ = some (.float .f64 4607182418800017408) := h3'.cell 0
  have g1 : X3.cell? ⟨w.heap.size, 1, none⟩ = some (.float .f64 0) := h3'.cell 1
  have g2 : X3.cell? ⟨w.heap.size, 2, none⟩ = some (.float .f64 0) := h3'.cell 2
  have HB := hid (bl3 _ _ (Nat.le_refl _) (bl2 _ _ (Nat.le_refl _) (bl1 _ _ (Nat.le_refl _) HX.out.2)))
  clear bl1 bl2 bl3 HX h1' h2' h3'
  go_enter Try.func30, Try.ntmps30
  go_wp2_with fail
  refine bodyPost_ret (v := Value.tuple #[.agg #[.float .f64 4607182418800017408, .float .f64 0, .float .f64 0], .int .i64 0]) (by simp [results, Try.results30, go_sem, g0, g1, g2]) rfl ?_
  exact ⟨rfl, HB.out⟩
set_option maxHeartbeats 1600000 in
set_option maxRecDepth 100000 in
theorem ndfind_K2 (s : ByteArray) (w : World) (h0 : (s.toList == [77, 50]) = false) (h1 : (s.toList == [78, 50]) = false) (h2 : (s.toList == [83, 50]) = false) (h3 : (s.toList == [80, 49]) = false) (h4 : (s.toList == [75, 50]) = true) :
    Calls Try.prog 30 #[.string s] w fun e w' => e = .returned (.tuple #[.agg #[.float .f64 4607290505191074300, .float .f64 4598823737891617767, .float .f64 13908693723383857152], .int .i64 0]) ∧ Below w.heap.size w w' := by
  have HX := hid (boxes1 w 49 #[.float .f64 0, .float .f64 0, .float .f64 0])
  obtain ⟨X, hX⟩ : ∃ X, w.alloc (.cells #[.float .f64 0, .float .f64 0, .float .f64 0] 49) = X := ⟨_, rfl⟩
  rw [hX] at HX
  obtain ⟨X1, s1, h1', bl1⟩ := store_box Try.prog HX.out.1 0 (by simp) 4607290505191074300
  obtain ⟨X2, s2, h2', bl2⟩ := store_box Try.prog h1' 1 (by simp) 4598823737891617767
  obtain ⟨X3, s3, h3', bl3⟩ := store_box Try.prog h2' 2 (by simp) 13908693723383857152
  have g0 : X3.cell? ⟨w.heap.size, 0, none⟩ = some (.float .f64 4607290505191074300) := h3'.cell 0
  have g1 : X3.cell? ⟨w.heap.size, 1, none⟩ = some (.float .f64 4598823737891617767) := h3'.cell 1
  have g2 : X3.cell? ⟨w.heap.size, 2, none⟩ = some (.float .f64 13908693723383857152) := h3'.cell 2
  have HB := hid (bl3 _ _ (Nat.le_refl _) (bl2 _ _ (Nat.le_refl _) (bl1 _ _ (Nat.le_refl _) HX.out.2)))
  clear bl1 bl2 bl3 HX h1' h2' h3'
  go_enter Try.func30, Try.ntmps30
  go_wp2_with fail
  refine bodyPost_ret (v := Value.tuple #[.agg #[.float .f64 4607290505191074300, .float .f64 4598823737891617767, .float .f64 13908693723383857152], .int .i64 0]) (by simp [results, Try.results30, go_sem, g0, g1, g2]) rfl ?_
  exact ⟨rfl, HB.out⟩
set_option maxHeartbeats 1600000 in
set_option maxRecDepth 100000 in
theorem ndfind_K1 (s : ByteArray) (w : World) (h0 : (s.toList == [77, 50]) = false) (h1 : (s.toList == [78, 50]) = false) (h2 : (s.toList == [83, 50]) = false) (h3 : (s.toList == [80, 49]) = false) (h4 : (s.toList == [75, 50]) = false) (h5 : (s.toList == [75, 49]) = true) :
    Calls Try.prog 30 #[.string s] w fun e w' => e = .returned (.tuple #[.agg #[.float .f64 4607209440397781631, .float .f64 4592951043977526641, .float .f64 13904224483494854656], .int .i64 0]) ∧ Below w.heap.size w w' := by
  have HX := hid (boxes1 w 49 #[.float .f64 0, .float .f64 0, .float .f64 0])
  obtain ⟨X, hX⟩ : ∃ X, w.alloc (.cells #[.float .f64 0, .float .f64 0, .float .f64 0] 49) = X := ⟨_, rfl⟩
  rw [hX] at HX
  obtain ⟨X1, s1, h1', bl1⟩ := store_box Try.prog HX.out.1 0 (by simp) 4607209440397781631
  obtain ⟨X2, s2, h2', bl2⟩ := store_box Try.prog h1' 1 (by simp) 4592951043977526641
  obtain ⟨X3, s3, h3', bl3⟩ := store_box Try.prog h2' 2 (by simp) 13904224483494854656
  have g0 : X3.cell? ⟨w.heap.size, 0, none⟩ = some (.float .f64 4607209440397781631) := h3'.cell 0
  have g1 : X3.cell? ⟨w.heap.size, 1, none⟩ = some (.float .f64 4592951043977526641) := h3'.cell 1
  have g2 : X3.cell? ⟨w.heap.size, 2, none⟩ = some (.float .f64 13904224483494854656) := h3'.cell 2
  have HB := hid (bl3 _ _ (Nat.le_refl _) (bl2 _ _ (Nat.le_refl _) (bl1 _ _ (Nat.le_refl _) HX.out.2)))
  clear bl1 bl2 bl3 HX h1' h2' h3'
  go_enter Try.func30, Try.ntmps30
  go_wp2_with fail
  refine bodyPost_ret (v := Value.tuple #[.agg #[.float .f64 4607209440397781631, .float .f64 4592951043977526641, .float .f64 13904224483494854656], .int .i64 0]) (by simp [results, Try.results30, go_sem, g0, g1, g2]) rfl ?_
  exact ⟨rfl, HB.out⟩
set_option maxHeartbeats 1600000 in
set_option maxRecDepth 100000 in
theorem ndfind_O1 (s : ByteArray) (w : World) (h0 : (s.toList == [77, 50]) = false) (h1 : (s.toList == [78, 50]) = false) (h2 : (s.toList == [83, 50]) = false) (h3 : (s.toList == [80, 49]) = false) (h4 : (s.toList == [75, 50]) = false) (h5 : (s.toList == [75, 49]) = false) (h6 : (s.toList == [79, 49]) = true) :
    Calls Try.prog 30 #[.string s] w fun e w' => e = .returned (.tuple #[.agg #[.float .f64 4607222951196663742, .float .f64 4595905405333081686, .float .f64 4682158116698062848], .int .i64 0]) ∧ Below w.heap.size w w' := by
  have HX := hid (boxes1 w 49 #[.float .f64 0, .float .f64 0, .float .f64 0])
  obtain ⟨X, hX⟩ : ∃ X, w.alloc (.cells #[.float .f64 0, .float .f64 0, .float .f64 0] 49) = X := ⟨_, rfl⟩
  rw [hX] at HX
  obtain ⟨X1, s1, h1', bl1⟩ := store_box Try.prog HX.out.1 0 (by simp) 4607222951196663742
  obtain ⟨X2, s2, h2', bl2⟩ := store_box Try.prog h1' 1 (by simp) 4595905405333081686
  obtain ⟨X3, s3, h3', bl3⟩ := store_box Try.prog h2' 2 (by simp) 4682158116698062848
  have g0 : X3.cell? ⟨w.heap.size, 0, none⟩ = some (.float .f64 4607222951196663742) := h3'.cell 0
  have g1 : X3.cell? ⟨w.heap.size, 1, none⟩ = some (.float .f64 4595905405333081686) := h3'.cell 1
  have g2 : X3.cell? ⟨w.heap.size, 2, none⟩ = some (.float .f64 4682158116698062848) := h3'.cell 2
  have HB := hid (bl3 _ _ (Nat.le_refl _) (bl2 _ _ (Nat.le_refl _) (bl1 _ _ (Nat.le_refl _) HX.out.2)))
  clear bl1 bl2 bl3 HX h1' h2' h3'
  go_enter Try.func30, Try.ntmps30
  go_wp2_with fail
  refine bodyPost_ret (v := Value.tuple #[.agg #[.float .f64 4607222951196663742, .float .f64 4595905405333081686, .float .f64 4682158116698062848], .int .i64 0]) (by simp [results, Try.results30, go_sem, g0, g1, g2]) rfl ?_
  exact ⟨rfl, HB.out⟩
set_option maxHeartbeats 1600000 in
set_option maxRecDepth 100000 in
theorem ndfind_Q1 (s : ByteArray) (w : World) (h0 : (s.toList == [77, 50]) = false) (h1 : (s.toList == [78, 50]) = false) (h2 : (s.toList == [83, 50]) = false) (h3 : (s.toList == [80, 49]) = false) (h4 : (s.toList == [75, 50]) = false) (h5 : (s.toList == [75, 49]) = false) (h6 : (s.toList == [79, 49]) = false) (h7 : (s.toList == [81, 49]) = true) :
    Calls Try.prog 30 #[.string s] w fun e w' => e = .returned (.tuple #[.agg #[.float .f64 4607222951196663742, .float .f64 4595905405333081686, .float .f64 4682158116698062848], .int .i64 0]) ∧ Below w.heap.size w w' := by
  have HX := hid (boxes1 w 49 #[.float .f64 0, .float .f64 0, .float .f64 0])
  obtain ⟨X, hX⟩ : ∃ X, w.alloc (.cells #[.float .f64 0, .float .f64 0, .float .f64 0] 49) = X := ⟨_, rfl⟩
  rw [hX] at HX
  obtain ⟨X1, s1, h1', bl1⟩ := store_box Try.prog HX.out.1 0 (by simp) 4607222951196663742
  obtain ⟨X2, s2, h2', bl2⟩ := store_box Try.prog h1' 1 (by simp) 4595905405333081686
  obtain ⟨X3, s3, h3', bl3⟩ := store_box Try.prog h2' 2 (by simp) 4682158116698062848
  have g0 : X3.cell? ⟨w.heap.size, 0, none⟩ = some (.float .f64 4607222951196663742) := h3'.cell 0
  have g1 : X3.cell? ⟨w.heap.size, 1, none⟩ = some (.float .f64 4595905405333081686) := h3'.cell 1
  have g2 : X3.cell? ⟨w.heap.size, 2, none⟩ = some (.float .f64 4682158116698062848) := h3'.cell 2
  have HB := hid (bl3 _ _ (Nat.le_refl _) (bl2 _ _ (Nat.le_refl _) (bl1 _ _ (Nat.le_refl _) HX.out.2)))
  clear bl1 bl2 bl3 HX h1' h2' h3'
  go_enter Try.func30, Try.ntmps30
  go_wp2_with fail
  refine bodyPost_ret (v := Value.tuple #[.agg #[.float .f64 4607222951196663742, .float .f64 4595905405333081686, .float .f64 4682158116698062848], .int .i64 0]) (by simp [results, Try.results30, go_sem, g0, g1, g2]) rfl ?_
  exact ⟨rfl, HB.out⟩
set_option maxHeartbeats 1600000 in
set_option maxRecDepth 100000 in
theorem ndfind_Mf (s : ByteArray) (w : World) (h0 : (s.toList == [77, 50]) = false) (h1 : (s.toList == [78, 50]) = false) (h2 : (s.toList == [83, 50]) = false) (h3 : (s.toList == [80, 49]) = false) (h4 : (s.toList == [75, 50]) = false) (h5 : (s.toList == [75, 49]) = false) (h6 : (s.toList == [79, 49]) = false) (h7 : (s.toList == [81, 49]) = false) (h8 : (s.toList == [77, 102]) = true) :
    Calls Try.prog 30 #[.string s] w fun e w' => e = .returned (.tuple #[.agg #[.float .f64 4607376073583994339, .float .f64 4601129580900831461, .float .f64 13910755307685937152], .int .i64 0]) ∧ Below w.heap.size w w' := by
  have HX := hid (boxes1 w 49 #[.float .f64 0, .float .f64 0, .float .f64 0])
  obtain ⟨X, hX⟩ : ∃ X, w.alloc (.cells #[.float .f64 0, .float .f64 0, .float .f64 0] 49) = X := ⟨_, rfl⟩
  rw [hX] at HX
  obtain ⟨X1, s1, h1', bl1⟩ := store_box Try.prog HX.out.1 0 (by simp) 4607376073583994339
  obtain ⟨X2, s2, h2', bl2⟩ := store_box Try.prog h1' 1 (by simp) 4601129580900831461
  obtain ⟨X3, s3, h3', bl3⟩ := store_box Try.prog h2' 2 (by simp) 13910755307685937152
  have g0 : X3.cell? ⟨w.heap.size, 0, none⟩ = some (.float .f64 4607376073583994339) := h3'.cell 0
  have g1 : X3.cell? ⟨w.heap.size, 1, none⟩ = some (.float .f64 4601129580900831461) := h3'.cell 1
  have g2 : X3.cell? ⟨w.heap.size, 2, none⟩ = some (.float .f64 13910755307685937152) := h3'.cell 2
  have HB := hid (bl3 _ _ (Nat.le_refl _) (bl2 _ _ (Nat.le_refl _) (bl1 _ _ (Nat.le_refl _) HX.out.2)))
  clear bl1 bl2 bl3 HX h1' h2' h3'
  go_enter Try.func30, Try.ntmps30
  go_wp2_with fail
  refine bodyPost_ret (v := Value.tuple #[.agg #[.float .f64 4607376073583994339, .float .f64 4601129580900831461, .float .f64 13910755307685937152], .int .i64 0]) (by simp [results, Try.results30, go_sem, g0, g1, g2]) rfl ?_
  exact ⟨rfl, HB.out⟩
set_option maxHeartbeats 1600000 in
set_option maxRecDepth 100000 in
theorem ndfind_Mm (s : ByteArray) (w : World) (h0 : (s.toList == [77, 50]) = false) (h1 : (s.toList == [78, 50]) = false) (h2 : (s.toList == [83, 50]) = false) (h3 : (s.toList == [80, 49]) = false) (h4 : (s.toList == [75, 50]) = false) (h5 : (s.toList == [75, 49]) = false) (h6 : (s.toList == [79, 49]) = false) (h7 : (s.toList == [81, 49]) = false) (h8 : (s.toList == [77, 102]) = false) (h9 : (s.toList == [77, 109]) = true) :
    Calls Try.prog 30 #[.string s] w fun e w' => e = .returned (.tuple #[.agg #[.float .f64 4607182418800017408, .float .f64 13817223800757776548, .float .f64 0], .int .i64 0]) ∧ Below w.heap.size w w' := by
  have HX := hid (boxes1 w 49 #[.float .f64 0, .float .f64 0, .float .f64 0])
  obtain ⟨X, hX⟩ : ∃ X, w.alloc (.cells #[.float .f64 0, .float .f64 0, .float .f64 0] 49) = X := ⟨_, rfl⟩
  rw [hX] at HX
  obtain ⟨X1, s1, h1', bl1⟩ := store_box Try.prog HX.out.1 0 (by simp) 4607182418800017408
  obtain ⟨X2, s2, h2', bl2⟩ := store_box Try.prog h1' 1 (by simp) 13817223800757776548
  obtain ⟨X3, s3, h3', bl3⟩ := store_box Try.prog h2' 2 (by simp) 0
  have g0 : X3.cell? ⟨w.heap.size, 0, none⟩ = some (.float .f64 4607182418800017408) := h3'.cell 0
  have g1 : X3.cell? ⟨w.heap.size, 1, none⟩ = some (.float .f64 13817223800757776548) := h3'.cell 1
  have g2 : X3.cell? ⟨w.heap.size, 2, none⟩ = some (.float .f64 0) := h3'.cell 2
  have HB := hid (bl3 _ _ (Nat.le_refl _) (bl2 _ _ (Nat.le_refl _) (bl1 _ _ (Nat.le_refl _) HX.out.2)))
  clear bl1 bl2 bl3 HX h1' h2' h3'
  go_enter Try.func30, Try.ntmps30
  go_wp2_with fail
  refine bodyPost_ret (v := Value.tuple #[.agg #[.float .f64 4607182418800017408, .float .f64 13817223800757776548, .float .f64 0], .int .i64 0]) (by simp [results, Try.results30, go_sem, g0, g1, g2]) rfl ?_
  exact ⟨rfl, HB.out⟩
set_option maxHeartbeats 1600000 in
set_option maxRecDepth 100000 in
theorem ndfind_no (s : ByteArray) (w : World) (h0 : (s.toList == [77, 50]) = false) (h1 : (s.toList == [78, 50]) = false) (h2 : (s.toList == [83, 50]) = false) (h3 : (s.toList == [80, 49]) = false) (h4 : (s.toList == [75, 50]) = false) (h5 : (s.toList == [75, 49]) = false) (h6 : (s.toList == [79, 49]) = false) (h7 : (s.toList == [81, 49]) = false) (h8 : (s.toList == [77, 102]) = false) (h9 : (s.toList == [77, 109]) = false) :
    Calls Try.prog 30 #[.string s] w fun e w' => e = .returned (.tuple #[.agg #[.float .f64 0, .float .f64 0, .float .f64 0], .int .i64 6]) ∧ Below w.heap.size w w' := by
  have HX := hid (boxes1 w 49 #[.float .f64 0, .float .f64 0, .float .f64 0])
  obtain ⟨X, hX⟩ : ∃ X, w.alloc (.cells #[.float .f64 0, .float .f64 0, .float .f64 0] 49) = X := ⟨_, rfl⟩
  rw [hX] at HX
  obtain ⟨X1, s1, h1', bl1⟩ := store_box Try.prog HX.out.1 0 (by simp) 0
  obtain ⟨X2, s2, h2', bl2⟩ := store_box Try.prog h1' 1 (by simp) 0
  obtain ⟨X3, s3, h3', bl3⟩ := store_box Try.prog h2' 2 (by simp) 0
  have g0 : X3.cell? ⟨w.heap.size, 0, none⟩ = some (.float .f64 0) := h3'.cell 0
  have g1 : X3.cell? ⟨w.heap.size, 1, none⟩ = some (.float .f64 0) := h3'.cell 1
  have g2 : X3.cell? ⟨w.heap.size, 2, none⟩ = some (.float .f64 0) := h3'.cell 2
  have HB := hid (bl3 _ _ (Nat.le_refl _) (bl2 _ _ (Nat.le_refl _) (bl1 _ _ (Nat.le_refl _) HX.out.2)))
  clear bl1 bl2 bl3 HX h1' h2' h3'
  go_enter Try.func30, Try.ntmps30
  go_wp2_with fail
  refine bodyPost_ret (v := Value.tuple #[.agg #[.float .f64 0, .float .f64 0, .float .f64 0], .int .i64 6]) (by simp [results, Try.results30, go_sem, g0, g1, g2]) rfl ?_
  exact ⟨rfl, HB.out⟩
theorem ndfind_any (s : ByteArray) (w : World) :
    Calls Try.prog 30 #[.string s] w fun e w' => e = .returned (ndV (ndK s.toList)) ∧ Below w.heap.size w w' := by
  unfold ndK
  by_cases g0 : s.toList = [77, 50]
  · rw [if_pos g0]; exact ndfind_M2 s w  (beq_iff_eq.2 g0)
  rw [if_neg g0]
  by_cases g1 : s.toList = [78, 50]
  · rw [if_pos g1]; exact ndfind_N2 s w (ndbeq g0) (beq_iff_eq.2 g1)
  rw [if_neg g1]
  by_cases g2 : s.toList = [83, 50]
  · rw [if_pos g2]; exact ndfind_S2 s w (ndbeq g0) (ndbeq g1) (beq_iff_eq.2 g2)
  rw [if_neg g2]
  by_cases g3 : s.toList = [80, 49]
  · rw [if_pos g3]; exact ndfind_P1 s w (ndbeq g0) (ndbeq g1) (ndbeq g2) (beq_iff_eq.2 g3)
  rw [if_neg g3]
  by_cases g4 : s.toList = [75, 50]
  · rw [if_pos g4]; exact ndfind_K2 s w (ndbeq g0) (ndbeq g1) (ndbeq g2) (ndbeq g3) (beq_iff_eq.2 g4)
  rw [if_neg g4]
  by_cases g5 : s.toList = [75, 49]
  · rw [if_pos g5]; exact ndfind_K1 s w (ndbeq g0) (ndbeq g1) (ndbeq g2) (ndbeq g3) (ndbeq g4) (beq_iff_eq.2 g5)
  rw [if_neg g5]
  by_cases g6 : s.toList = [79, 49]
  · rw [if_pos g6]; exact ndfind_O1 s w (ndbeq g0) (ndbeq g1) (ndbeq g2) (ndbeq g3) (ndbeq g4) (ndbeq g5) (beq_iff_eq.2 g6)
  rw [if_neg g6]
  by_cases g7 : s.toList = [81, 49]
  · rw [if_pos g7]; exact ndfind_Q1 s w (ndbeq g0) (ndbeq g1) (ndbeq g2) (ndbeq g3) (ndbeq g4) (ndbeq g5) (ndbeq g6) (beq_iff_eq.2 g7)
  rw [if_neg g7]
  by_cases g8 : s.toList = [77, 102]
  · rw [if_pos g8]; exact ndfind_Mf s w (ndbeq g0) (ndbeq g1) (ndbeq g2) (ndbeq g3) (ndbeq g4) (ndbeq g5) (ndbeq g6) (ndbeq g7) (beq_iff_eq.2 g8)
  rw [if_neg g8]
  by_cases g9 : s.toList = [77, 109]
  · rw [if_pos g9]; exact ndfind_Mm s w (ndbeq g0) (ndbeq g1) (ndbeq g2) (ndbeq g3) (ndbeq g4) (ndbeq g5) (ndbeq g6) (ndbeq g7) (ndbeq g8) (beq_iff_eq.2 g9)
  rw [if_neg g9]
  exact ndfind_no s w (ndbeq g0) (ndbeq g1) (ndbeq g2) (ndbeq g3) (ndbeq g4) (ndbeq g5) (ndbeq g6) (ndbeq g7) (ndbeq g8) (ndbeq g9)
end Go.Proofs.Ytodihhokodnmkaa

/- package nodal: a row's factor and turn; Node, Factor, Turn, of every name and tick. -/
namespace Go.Proofs.Ytodihhokodnmkaa
open Go.RowKit
set_option linter.unusedVariables false

theorem fn_ex (op : BinOp) (x y : Nat) : ∃ r, FN op x y r := by
  cases h : floatBits op .f64 x y with
  | some r => exact ⟨r, FN.some h⟩
  | none => exact ⟨_, FN.none 0 h⟩
theorem horn_ex (q : Nat) : ∀ (l : List Nat) (h : Nat), ∃ r, Horn q h l r
  | [], h => ⟨h, rfl⟩
  | c :: cs, h => by
    obtain ⟨p, hp⟩ := fn_ex .mul h q
    obtain ⟨s, hs⟩ := fn_ex .add p c
    obtain ⟨r, hr⟩ := horn_ex q cs s
    exact ⟨r, p, s, hp, hs, hr⟩
theorem root_ex (p q : Nat) : ∃ re im, RootR p q re im := by
  obtain ⟨f, hf⟩ := fn_ex .quo (floatOfInt .f64 (rootA p q : Int)) (floatOfInt .f64 (q : Int))
  obtain ⟨y, hy⟩ := fn_ex .mul f 4605249457297304856
  obtain ⟨s2, h2⟩ := fn_ex .mul y y
  obtain ⟨hs, k1⟩ := horn_ex s2 (sinC.drop 1) 13648976655441704991
  obtain ⟨hc, k2⟩ := horn_ex s2 (cosC.drop 1) 4407590220077447199
  obtain ⟨a, ha⟩ := fn_ex .mul y s2
  obtain ⟨b, hb⟩ := fn_ex .mul a hs
  obtain ⟨s, hS⟩ := fn_ex .add y b
  obtain ⟨d, hd⟩ := fn_ex .mul s2 hc
  obtain ⟨c, hC⟩ := fn_ex .add 4607182418800017408 d
  exact ⟨_, _, f, y, c, s, hf, hy, ⟨s2, hc, d, h2, k2, hd, hC⟩, ⟨s2, hs, a, b, h2, k1, ha, hb, hS⟩, rfl, rfl⟩

/-- The node's turn at a tick. -/
def ndP (t : Nat) : Nat := agU 4 t / Nat.gcd (agU 4 t) 3600000000
def ndQ (t : Nat) : Nat := 3600000000 / Nat.gcd (agU 4 t) 3600000000
theorem nd_turn (t : Nat) : agA 4 t = ((ndP t : Int), (ndQ t : Int), 0) ∧ ndP t < ndQ t ∧ ndQ t ≤ 3600000000 ∧ Nat.gcd (ndP t) (ndQ t) = 1 := by
  have hu := agU_lt 4 t
  unfold agA ndP ndQ ofR
  generalize agU 4 t = u at *
  have hg : 0 < Nat.gcd u 3600000000 := Nat.gcd_pos_of_pos_right _ (by decide)
  have hd := Nat.gcd_dvd_right u 3600000000
  have hdl := Nat.gcd_dvd_left u 3600000000
  have e1 : ((u : Int) % 3600000000).toNat = u := by omega
  have hle : 3600000000 / Nat.gcd u 3600000000 ≤ 3600000000 := Nat.div_le_self _ _
  refine ⟨?_, ?_, hle, ?_⟩
  · rw [if_neg (by decide), if_neg (by decide), e1]
    unfold lowR
    rw [show (3600000000 : Int).toNat = 3600000000 from rfl, if_pos (by omega)]
  · obtain ⟨a, ha⟩ := hdl
    obtain ⟨b, hb⟩ := hd
    generalize Nat.gcd u 3600000000 = g at *
    rw [ha, hb, Nat.mul_div_cancel_left _ hg, Nat.mul_div_cancel_left _ hg]
    rw [ha, hb] at hu
    exact Nat.lt_of_mul_lt_mul_left hu
  · rw [Nat.gcd_div hdl hd, Nat.div_self hg]
/-- The node's number at a tick. -/
def NodeR (t re im : Nat) : Prop := RootR (ndP t) (ndQ t) re im
theorem node_ex (t : Nat) : ∃ re im, NodeR t re im := root_ex _ _
theorem NodeR.unit {t re im : Nat} (h : NodeR t re im) : Unit1 re ∧ Unit1 im := root_in (nd_turn t).2.1 (by have := (nd_turn t).2.2.1; omega) h

set_option maxHeartbeats 800000 in
set_option maxRecDepth 100000 in
theorem ndNode_ok (t re im : Nat) (w : World) (ht : t ≤ 1048576) (h : NodeR t re im) :
    Calls Try.prog 5 #[.int .i64 (t : Int)] w fun e w' => e = .returned (.tuple #[.complex .f64 re im, .int .i64 0]) ∧ Below w.heap.size w w' := by
  have HA := hid (fun V => agAngle_ok 4 t V (by decide) ht)
  have hT := nd_turn t
  obtain ⟨e1, e2, e3, e4⟩ := hT
  rw [e1, show ∀ a b c, tV (a, b, c) = Value.tuple #[.agg #[.int .i64 a, .int .i64 b], .int .i64 c] from fun _ _ _ => rfl] at HA
  have HR : Hid (∀ V, Calls Try.prog 21 #[.agg #[.int .i64 (ndP t : Int), .int .i64 (ndQ t : Int)]] V fun e w' => e = .returned (.tuple #[.complex .f64 re im, .int .i64 0]) ∧ Below V.heap.size V w') := by
    intro V
    refine Calls.mono (troot_ok (ndP t) (ndQ t) V e2 (by omega) e4) ?_
    rintro e w' ⟨a, b, rfl, hr, hb⟩
    obtain ⟨rfl, rfl⟩ := root_one e2 (by omega) hr h
    exact ⟨rfl, hb⟩
  generalize ndP t = p at *
  generalize ndQ t = q at *
  have HX : Hid (∀ V : World, FBox (V.alloc (.cells #[.int .i64 (p : Int), .int .i64 (q : Int)] 31)) V.heap.size 31 #[.int .i64 (p : Int), .int .i64 (q : Int)] ∧ Below V.heap.size V (V.alloc (.cells #[.int .i64 (p : Int), .int .i64 (q : Int)] 31))) := fun V => boxes1 V _ _
  clear h ht e1 e2 e3 e4
  go_enter Try.func5, Try.ntmps5
  go_wp2_with fail
  refine Calls.mono (HA.out _) ?_
  rintro e w1 ⟨rfl, hb1⟩
  have HB1 := hid (b2 hb1 (HX.out w1).2)
  obtain ⟨c0, c1, f0, f1⟩ := fbox_facts (HX.out w1).1 (Below.refl _ _)
  clear hb1
  go_wp2_with fail
  generalize w1.alloc (.cells #[.int .i64 (p : Int), .int .i64 (q : Int)] 31) = X at *
  refine Calls.mono (HR.out _) ?_
  rintro e w2 ⟨rfl, hb2⟩
  go_wp2_with fail
  go_returns
  exact ⟨rfl, b2 HB1.out hb2⟩
set_option maxHeartbeats 800000 in
set_option maxRecDepth 100000 in
theorem ndNode_err (t : Int) (w : World) (hi : I64 t) (h : ¬ (0 ≤ t ∧ t ≤ 1048576)) :
    Calls Try.prog 5 #[.int .i64 t] w fun e w' => e = .returned (.tuple #[.complex .f64 0 0, .int .i64 2]) ∧ Below w.heap.size w w' := by
  have HA := hid (fun V => agAngle_err 4 t V ⟨by decide, by decide⟩ hi (fun x => h x.2))
  unfold tT at HA
  clear h hi
  go_enter Try.func5, Try.ntmps5
  go_wp2_with fail
  refine Calls.mono (HA.out _) ?_
  rintro e w1 ⟨rfl, hb1⟩
  have HB1 : Hid (Below w.heap.size w (w1.alloc (.cells #[.int .i64 0, .int .i64 0] 31))) := hb1.alloc hb1.size _
  clear hb1
  go_wp2_with fail
  go_returns
  exact ⟨rfl, HB1.out⟩

/-- The factor and the turn's units, as the machine makes them. -/
def FacR (k re f : Nat) : Prop := ∃ p, FN .mul (ndS k) re p ∧ FN .add p (ndB k) f
def UnR (k im : Nat) (n : Int) : Prop := ∃ u, FN .mul (ndC k) im u ∧ RI u n

theorem FN.fin {op : BinOp} {x y r : Nat} (h : FN op x y r) (f : Fi r) : floatBits op .f64 x y = Option.some r := by
  rcases h.2 with h | ⟨_, h⟩
  · exact h
  · rw [f.notnan] at h; cases h

set_option maxHeartbeats 800000 in
set_option maxRecDepth 100000 in
theorem ndfactor_any (b s c re im p f : Nat) (w : World) (h1 : floatBits .mul .f64 s re = some p) (h2 : floatBits .add .f64 p b = some f) :
    Calls Try.prog 25 #[.agg #[.float .f64 b, .float .f64 s, .float .f64 c], .complex .f64 re im] w fun e w' => e = .returned (.float .f64 f) ∧ Below w.heap.size w w' := by
  have rM : ∀ V, (binOp .mul 27 (.float .f64 s) (.float .f64 re)).run Try.prog V = .ok (.float .f64 p) V := fun V => run_float_arith V _ _ _ _ _ _ h1
  have rA : ∀ V, (binOp .add 27 (.float .f64 p) (.float .f64 b)).run Try.prog V = .ok (.float .f64 f) V := fun V => run_float_arith V _ _ _ _ _ _ h2
  have HX := hid (boxes1 w 49 #[.float .f64 b, .float .f64 s, .float .f64 c])
  obtain ⟨c0, c1, c2, f0, f1, f2⟩ := box3 HX.out.1 (Below.refl _ _)
  clear h1 h2
  go_enter Try.func25, Try.ntmps25
  go_wp2_with fail
  go_ret
  exact ⟨rfl, HX.out.2⟩

theorem toInt_eq (u : Nat) : Extern.MathFloor.toIntegral "math.RoundToEven" .even #[.float .f64 u] = (match FloatKind.f64.decode u with
    | .nan s t => if FloatKind.f64.format.quiet t = t then pure (.float .f64 u) else do
      let kept ← choose (.extern "math.Floor,Ceil,Trunc,RoundToEven.signallingNaN kept" 2)
      pure (.float .f64 (if kept == 1 then u else FloatKind.f64.encode (.nan s (FloatKind.f64.format.quiet t))))
    | d => pure (.float .f64 (FloatKind.f64.encode (d.integral .even)))) := rfl
theorem round_run {u : Nat} (f : Fi u) (w : World) : (callFunc 47 #[.float .f64 u]).run Try.prog w = .ok (.value (.float .f64 (FloatKind.f64.encode ((FloatKind.f64.decode u).integral .even)))) w := by
  rw [run_callFunc_extern (fn := Try.f47) Try.func47 (by kernel_rfl) (by kernel_rfl) (by kernel_rfl) (e := Extern.MathFloor.toIntegral "math.RoundToEven" .even) (by kernel_rfl)]
  obtain ⟨m, a, e1, v1⟩ := read_num f.2
  have e1' : FloatKind.f64.decode u = .number (u / 9223372036854775808 % 2 == 1) m (-1074 + (a : Int)) := e1
  have e2 : Extern.MathFloor.toIntegral "math.RoundToEven" .even #[.float .f64 u] = pure (.float .f64 (FloatKind.f64.encode ((FloatKind.f64.decode u).integral .even))) := by
    rw [toInt_eq, e1']
  rw [e2]
  rfl

theorem boxes2t (w : World) (t t' : Nat) (u v : Array Value) : FBox ((w.alloc (.cells u t)).alloc (.cells v t')) w.heap.size t u ∧ FBox ((w.alloc (.cells u t)).alloc (.cells v t')) (w.heap.size + 1) t' v ∧ Below w.heap.size w ((w.alloc (.cells u t)).alloc (.cells v t')) := by
  have e : (w.alloc (.cells u t)).heap.size = w.heap.size + 1 := by unfold World.alloc; simp
  have h := FBox.made (w.alloc (.cells u t)) t' v
  rw [e] at h
  have hb := (Below.refl (w.alloc (.cells u t)).heap.size (w.alloc (.cells u t))).alloc (Nat.le_refl _) (.cells v t')
  exact ⟨(FBox.made w t u).later hb (FBox.made w t u).lt, h, b2 ((Below.refl _ _).alloc (Nat.le_refl _) _) hb⟩
set_option maxHeartbeats 1600000 in
set_option maxRecDepth 100000 in
theorem ndturn_any (b s c re im u v : Nat) (n : Int) (w : World) (h1 : floatBits .mul .f64 c im = some u) (hf : Fi u) (h2 : FloatKind.f64.encode ((FloatKind.f64.decode u).integral .even) = v) (h3 : floatToIntVal .f64 v .i64 = some n) (hn : I64 n) :
    Calls Try.prog 27 #[.agg #[.float .f64 b, .float .f64 s, .float .f64 c], .complex .f64 re im] w fun e w' => e = .returned (tV (ofR n 3600000)) ∧ Below w.heap.size w w' := by
  have rM : ∀ V, (binOp .mul 27 (.float .f64 c) (.float .f64 im)).run Try.prog V = .ok (.float .f64 u) V := fun V => run_float_arith V _ _ _ _ _ _ h1
  have rR : ∀ V, (callFunc 47 #[.float .f64 u]).run Try.prog V = .ok (.value (.float .f64 v)) V := fun V => by rw [round_run hf V, h2]
  have rC : ∀ V, (convert 27 2 (.float .f64 v)).run Try.prog V = .ok (.int .i64 n) V := fun V => run_convert_float_int V _ _ _ _ _ _ (by kernel_rfl) (by kernel_rfl) h3
  have HO := hid (fun V => tof_any n 3600000 V ⟨hn, by decide, by decide⟩)
  have HX := hid (boxes2t w 49 31 #[.float .f64 b, .float .f64 s, .float .f64 c] #[.int .i64 0, .int .i64 0])
  obtain ⟨c0, c1, c2, f0, f1, f2⟩ := box3 HX.out.1 (Below.refl _ _)
  clear h1 h2 h3 hn hf
  generalize ofR n 3600000 = T at *
  obtain ⟨t1, t2, t3⟩ := T
  rw [show tV (t1, t2, t3) = Value.tuple #[.agg #[.int .i64 t1, .int .i64 t2], .int .i64 t3] from rfl] at *
  go_enter Try.func27, Try.ntmps27
  go_wp2_with fail
  generalize ((w.alloc (.cells #[.float .f64 b, .float .f64 s, .float .f64 c] 49)).alloc (.cells #[.int .i64 0, .int .i64 0] 31)) = X at *
  refine Calls.mono (HO.out _) ?_
  rintro e w2 ⟨rfl, hb2⟩
  obtain ⟨d2, d3, g2, g3⟩ := fbox_facts HX.out.2.1 hb2
  have HB := hid (b2 HX.out.2.2 hb2)
  clear hb2 HX
  go_wp2_with fail
  refine bodyPost_ret (v := Value.tuple #[.agg #[.int .i64 t1, .int .i64 t2], .int .i64 t3]) (by simp [results, Try.results27, go_sem, d2, d3]) rfl ?_
  exact ⟨rfl, fput2 HB.out _ (by omega) _ _⟩
end Go.Proofs.Ytodihhokodnmkaa

/- package nodal: at, Factor, Turn, of every name and tick. -/
namespace Go.Proofs.Ytodihhokodnmkaa
open Go.RowKit
set_option linter.unusedVariables false

/-- Three floats stored into a box, each world named. -/
theorem put3f (P : Program) {X : World} {b t : Nat} {u0 u1 u2 : Value} (h : FBox X b t #[u0, u1, u2]) (x y z : Nat) :
    ∃ X1 X2 X3, (store ⟨b, 0, none⟩ (.float .f64 x)).run P X = .ok () X1 ∧ (store ⟨b, 1, none⟩ (.float .f64 y)).run P X1 = .ok () X2 ∧ (store ⟨b, 2, none⟩ (.float .f64 z)).run P X2 = .ok () X3 ∧ FBox X3 b t #[.float .f64 x, .float .f64 y, .float .f64 z] ∧
      (∀ B a, B ≤ b → Below B a X → Below B a X3) ∧ (∀ b' t' vs, b' ≠ b → FBox X b' t' vs → FBox X3 b' t' vs) ∧ X3.heap.size = X.heap.size := by
  have hh := (h.set 0 (.float .f64 x)).set 1 (.float .f64 y)
  have st : ∀ {W : World} {v0 v1 v2 : Value} (j k : Nat), j < 3 → FBox W b t #[v0, v1, v2] → (store ⟨b, j, none⟩ (.float .f64 k)).run P W = .ok () (W.setCell ⟨b, j, none⟩ (.float .f64 k)) := by
    intro W v0 v1 v2 j k hj g
    have c : W.cell? ⟨b, j, none⟩ = some #[v0, v1, v2][j] := by rw [g.cell j]; simp [hj]
    have f := g.free j
    rw [store_flt]
    simp [go_sem, c, f]
  refine ⟨_, _, _, st 0 x (by decide) h, st 1 y (by decide) (h.set 0 _), st 2 z (by decide) hh, hh.set 2 _, fun B a hB hb => ndfput3 hb b hB _ _ _, fun b' t' vs hne g => ((g.other _ _ hne).other _ _ hne).other _ _ hne, ?_⟩
  simp

set_option maxHeartbeats 1600000 in
set_option maxRecDepth 100000 in
theorem ndat_ok (n : ByteArray) (t : Int) (re im b s c : Nat) (w : World) (HN : Hid (∀ V, Calls Try.prog 5 #[.int .i64 t] V fun e w' => e = .returned (.tuple #[.complex .f64 re im, .int .i64 0]) ∧ Below V.heap.size V w'))
    (HF : Hid (∀ V, Calls Try.prog 30 #[.string n] V fun e w' => e = .returned (.tuple #[.agg #[.float .f64 b, .float .f64 s, .float .f64 c], .int .i64 0]) ∧ Below V.heap.size V w')) :
    Calls Try.prog 24 #[.string n, .int .i64 t] w fun e w' => e = .returned (.tuple #[.agg #[.float .f64 b, .float .f64 s, .float .f64 c], .complex .f64 re im, .int .i64 0]) ∧ Below w.heap.size w w' := by
  have HX := hid (boxes1 w 49 #[.float .f64 0, .float .f64 0, .float .f64 0])
  go_enter Try.func24, Try.ntmps24
  go_wp2_with fail
  generalize w.alloc (.cells #[.float .f64 0, .float .f64 0, .float .f64 0] 49) = X at *
  refine Calls.mono (HN.out _) ?_
  rintro e w1 ⟨rfl, hb1⟩
  go_wp2_with fail
  refine Calls.mono (HF.out _) ?_
  rintro e w2 ⟨rfl, hb2⟩
  have hx2 : FBox w2 w.heap.size _ _ := HX.out.1.later (b2 hb1 hb2) HX.out.1.lt
  have hBw := b2 HX.out.2 (b2 hb1 hb2)
  have hy := boxes1 w2 49 #[.float .f64 0, .float .f64 0, .float .f64 0]
  obtain ⟨Y, hY⟩ : ∃ Y, w2.alloc (.cells #[.float .f64 0, .float .f64 0, .float .f64 0] 49) = Y := ⟨_, rfl⟩
  rw [hY] at hy
  have hlt := hx2.lt
  have hx3 := hx2.later hy.2 hlt
  obtain ⟨Y1, Y2, Y3, r1, r2, r3, k1, k2, k3, k4⟩ := put3f Try.prog hy.1 b s c
  have hx4 := k3 _ _ _ (by omega) hx3
  obtain ⟨Z1, Z2, Z3, q1, q2, q3, m1, m2, m3, m4⟩ := put3f Try.prog hx4 b s c
  have HB := hid (m2 _ _ (Nat.le_refl _) (k2 _ _ hBw.size (b2 hBw hy.2)))
  have d0 : Y3.cell? ⟨w2.heap.size, 0, none⟩ = some (.float .f64 b) := k1.cell 0
  have d1 : Y3.cell? ⟨w2.heap.size, 1, none⟩ = some (.float .f64 s) := k1.cell 1
  have d2 : Y3.cell? ⟨w2.heap.size, 2, none⟩ = some (.float .f64 c) := k1.cell 2
  have g0 : Z3.cell? ⟨w.heap.size, 0, none⟩ = some (.float .f64 b) := m1.cell 0
  have g1 : Z3.cell? ⟨w.heap.size, 1, none⟩ = some (.float .f64 s) := m1.cell 1
  have g2 : Z3.cell? ⟨w.heap.size, 2, none⟩ = some (.float .f64 c) := m1.cell 2
  clear hx2 hBw hy hlt hx3 k1 k2 k3 k4 hx4 m1 m2 m3 m4 hb1 hb2 HX HN HF
  go_wp2_with fail
  refine bodyPost_ret (v := Value.tuple #[.agg #[.float .f64 b, .float .f64 s, .float .f64 c], .complex .f64 re im, .int .i64 0]) (by simp [results, Try.results24, go_sem, g0, g1, g2]) rfl ?_
  exact ⟨rfl, HB.out⟩
set_option maxHeartbeats 1600000 in
set_option maxRecDepth 100000 in
theorem ndat_none (n : ByteArray) (t : Int) (re im : Nat) (w : World) (HN : Hid (∀ V, Calls Try.prog 5 #[.int .i64 t] V fun e w' => e = .returned (.tuple #[.complex .f64 re im, .int .i64 0]) ∧ Below V.heap.size V w'))
    (HF : Hid (∀ V, Calls Try.prog 30 #[.string n] V fun e w' => e = .returned (.tuple #[.agg #[.float .f64 0, .float .f64 0, .float .f64 0], .int .i64 6]) ∧ Below V.heap.size V w')) :
    Calls Try.prog 24 #[.string n, .int .i64 t] w fun e w' => e = .returned (.tuple #[.agg #[.float .f64 0, .float .f64 0, .float .f64 0], .complex .f64 0 0, .int .i64 6]) ∧ Below w.heap.size w w' := by
  have HX := hid (boxes1 w 49 #[.float .f64 0, .float .f64 0, .float .f64 0])
  go_enter Try.func24, Try.ntmps24
  go_wp2_with fail
  generalize w.alloc (.cells #[.float .f64 0, .float .f64 0, .float .f64 0] 49) = X at *
  refine Calls.mono (HN.out _) ?_
  rintro e w1 ⟨rfl, hb1⟩
  go_wp2_with fail
  refine Calls.mono (HF.out _) ?_
  rintro e w2 ⟨rfl, hb2⟩
  have hx2 : FBox w2 w.heap.size _ _ := HX.out.1.later (b2 hb1 hb2) HX.out.1.lt
  have hBw := b2 HX.out.2 (b2 hb1 hb2)
  have hy := boxes1 w2 49 #[.float .f64 0, .float .f64 0, .float .f64 0]
  obtain ⟨Y, hY⟩ : ∃ Y, w2.alloc (.cells #[.float .f64 0, .float .f64 0, .float .f64 0] 49) = Y := ⟨_, rfl⟩
  rw [hY] at hy
  have hlt := hx2.lt
  have hx3 := hx2.later hy.2 hlt
  obtain ⟨Y1, Y2, Y3, r1, r2, r3, k1, k2, k3, k4⟩ := put3f Try.prog hy.1 0 0 0
  have hx4 := k3 _ _ _ (by omega) hx3
  obtain ⟨Z1, Z2, Z3, q1, q2, q3, m1, m2, m3, m4⟩ := put3f Try.prog hx4 0 0 0
  have HB := hid (m2 _ _ (Nat.le_refl _) (k2 _ _ hBw.size (b2 hBw hy.2)))
  have g0 : Z3.cell? ⟨w.heap.size, 0, none⟩ = some (.float .f64 0) := m1.cell 0
  have g1 : Z3.cell? ⟨w.heap.size, 1, none⟩ = some (.float .f64 0) := m1.cell 1
  have g2 : Z3.cell? ⟨w.heap.size, 2, none⟩ = some (.float .f64 0) := m1.cell 2
  clear hx2 hBw hy hlt hx3 k1 k2 k3 k4 hx4 m1 m2 m3 m4 hb1 hb2 HX HN HF
  go_wp2_with fail
  refine bodyPost_ret (v := Value.tuple #[.agg #[.float .f64 0, .float .f64 0, .float .f64 0], .complex .f64 0 0, .int .i64 6]) (by simp [results, Try.results24, go_sem, g0, g1, g2]) rfl ?_
  exact ⟨rfl, HB.out⟩
set_option maxHeartbeats 1600000 in
set_option maxRecDepth 100000 in
theorem ndat_err (n : ByteArray) (t : Int) (w : World) (HN : Hid (∀ V, Calls Try.prog 5 #[.int .i64 t] V fun e w' => e = .returned (.tuple #[.complex .f64 0 0, .int .i64 2]) ∧ Below V.heap.size V w')) :
    Calls Try.prog 24 #[.string n, .int .i64 t] w fun e w' => e = .returned (.tuple #[.agg #[.float .f64 0, .float .f64 0, .float .f64 0], .complex .f64 0 0, .int .i64 2]) ∧ Below w.heap.size w w' := by
  have HX := hid (boxes1 w 49 #[.float .f64 0, .float .f64 0, .float .f64 0])
  go_enter Try.func24, Try.ntmps24
  go_wp2_with fail
  generalize w.alloc (.cells #[.float .f64 0, .float .f64 0, .float .f64 0] 49) = X at *
  refine Calls.mono (HN.out _) ?_
  rintro e w1 ⟨rfl, hb1⟩
  have hx2 : FBox w1 w.heap.size _ _ := HX.out.1.later hb1 HX.out.1.lt
  have hBw := b2 HX.out.2 hb1
  obtain ⟨Z1, Z2, Z3, q1, q2, q3, m1, m2, m3, m4⟩ := put3f Try.prog hx2 0 0 0
  have HB := hid (m2 _ _ (Nat.le_refl _) hBw)
  have g0 : Z3.cell? ⟨w.heap.size, 0, none⟩ = some (.float .f64 0) := m1.cell 0
  have g1 : Z3.cell? ⟨w.heap.size, 1, none⟩ = some (.float .f64 0) := m1.cell 1
  have g2 : Z3.cell? ⟨w.heap.size, 2, none⟩ = some (.float .f64 0) := m1.cell 2
  clear hx2 hBw m1 m2 m3 m4 hb1 HX HN
  go_wp2_with fail
  refine bodyPost_ret (v := Value.tuple #[.agg #[.float .f64 0, .float .f64 0, .float .f64 0], .complex .f64 0 0, .int .i64 2]) (by simp [results, Try.results24, go_sem, g0, g1, g2]) rfl ?_
  exact ⟨rfl, HB.out⟩

/-- A new box of three floats, made and filled, each world named. -/
theorem newrow (P : Program) (w : World) (t x y z : Nat) :
    ∃ Y Y1 Y2 Y3, w.alloc (.cells #[.float .f64 0, .float .f64 0, .float .f64 0] t) = Y ∧ (store ⟨w.heap.size, 0, none⟩ (.float .f64 x)).run P Y = .ok () Y1 ∧ (store ⟨w.heap.size, 1, none⟩ (.float .f64 y)).run P Y1 = .ok () Y2 ∧ (store ⟨w.heap.size, 2, none⟩ (.float .f64 z)).run P Y2 = .ok () Y3 ∧
      (Y3.cell? ⟨w.heap.size, 0, none⟩ = some (.float .f64 x) ∧ Y3.cell? ⟨w.heap.size, 1, none⟩ = some (.float .f64 y) ∧ Y3.cell? ⟨w.heap.size, 2, none⟩ = some (.float .f64 z)) ∧ FBox Y3 w.heap.size t #[.float .f64 x, .float .f64 y, .float .f64 z] ∧ Below w.heap.size w Y3 := by
  have hy := boxes1 w t #[.float .f64 0, .float .f64 0, .float .f64 0]
  obtain ⟨Y1, Y2, Y3, r1, r2, r3, k1, k2, k3, k4⟩ := put3f P hy.1 x y z
  exact ⟨_, Y1, Y2, Y3, rfl, r1, r2, r3, ⟨k1.cell 0, k1.cell 1, k1.cell 2⟩, k1, k2 _ _ (Nat.le_refl _) hy.2⟩

set_option maxHeartbeats 1600000 in
set_option maxRecDepth 100000 in
theorem ndFactor_ok (n : ByteArray) (t : Int) (re im b s c p f : Nat) (w : World) (h1 : floatBits .mul .f64 s re = some p) (h2 : floatBits .add .f64 p b = some f)
    (HA : Hid (∀ V, Calls Try.prog 24 #[.string n, .int .i64 t] V fun e w' => e = .returned (.tuple #[.agg #[.float .f64 b, .float .f64 s, .float .f64 c], .complex .f64 re im, .int .i64 0]) ∧ Below V.heap.size V w')) :
    Calls Try.prog 7 #[.string n, .int .i64 t] w fun e w' => e = .returned (.tuple #[.float .f64 f, .int .i64 0]) ∧ Below w.heap.size w w' := by
  have HC := hid (fun V => ndfactor_any b s c re im p f V h1 h2)
  clear h1 h2
  go_enter Try.func7, Try.ntmps7
  go_wp2_with fail
  refine Calls.mono (HA.out _) ?_
  rintro e w1 ⟨rfl, hb1⟩
  obtain ⟨Y, Y1, Y2, Y3, r0, r1, r2, r3, ⟨d0, d1, d2⟩, k1, k2⟩ := newrow Try.prog w1 49 b s c
  have HB1 := hid (b2 hb1 k2)
  clear hb1 k1 k2 HA
  go_wp2_with fail
  refine Calls.mono (HC.out _) ?_
  rintro e w2 ⟨rfl, hb2⟩
  go_wp2_with fail
  go_returns
  exact ⟨rfl, b2 HB1.out hb2⟩
set_option maxHeartbeats 1600000 in
set_option maxRecDepth 100000 in
theorem ndFactor_err (n : ByteArray) (t E : Int) (w : World) (hE : (E == 0) = false)
    (HA : Hid (∀ V, Calls Try.prog 24 #[.string n, .int .i64 t] V fun e w' => e = .returned (.tuple #[.agg #[.float .f64 0, .float .f64 0, .float .f64 0], .complex .f64 0 0, .int .i64 E]) ∧ Below V.heap.size V w')) :
    Calls Try.prog 7 #[.string n, .int .i64 t] w fun e w' => e = .returned (.tuple #[.float .f64 0, .int .i64 E]) ∧ Below w.heap.size w w' := by
  go_enter Try.func7, Try.ntmps7
  go_wp2_with fail
  refine Calls.mono (HA.out _) ?_
  rintro e w1 ⟨rfl, hb1⟩
  obtain ⟨Y, Y1, Y2, Y3, r0, r1, r2, r3, ⟨d0, d1, d2⟩, k1, k2⟩ := newrow Try.prog w1 49 0 0 0
  have HB1 := hid (b2 hb1 k2)
  clear hb1 k1 k2 HA
  go_wp2_with fail
  go_returns
  exact ⟨rfl, HB1.out⟩

set_option maxHeartbeats 1600000 in
set_option maxRecDepth 100000 in
theorem ndTurn_ok (n : ByteArray) (t : Int) (re im b s c : Nat) (T : Int × Int × Int) (w : World)
    (HT : Hid (∀ V, Calls Try.prog 27 #[.agg #[.float .f64 b, .float .f64 s, .float .f64 c], .complex .f64 re im] V fun e w' => e = .returned (tV T) ∧ Below V.heap.size V w'))
    (HA : Hid (∀ V, Calls Try.prog 24 #[.string n, .int .i64 t] V fun e w' => e = .returned (.tuple #[.agg #[.float .f64 b, .float .f64 s, .float .f64 c], .complex .f64 re im, .int .i64 0]) ∧ Below V.heap.size V w')) :
    Calls Try.prog 9 #[.string n, .int .i64 t] w fun e w' => e = .returned (tV T) ∧ Below w.heap.size w w' := by
  obtain ⟨t1, t2, t3⟩ := T
  rw [show tV (t1, t2, t3) = Value.tuple #[.agg #[.int .i64 t1, .int .i64 t2], .int .i64 t3] from rfl] at *
  have HX := hid (boxes1 w 31 #[.int .i64 0, .int .i64 0])
  go_enter Try.func9, Try.ntmps9
  go_wp2_with fail
  generalize w.alloc (.cells #[.int .i64 0, .int .i64 0] 31) = X at *
  refine Calls.mono (HA.out _) ?_
  rintro e w1 ⟨rfl, hb1⟩
  obtain ⟨Y, Y1, Y2, Y3, r0, r1, r2, r3, ⟨d0, d1, d2⟩, k1, k2⟩ := newrow Try.prog w1 49 b s c
  have HB1 := hid (b2 hb1 k2)
  clear hb1 k1 k2 HA
  go_wp2_with fail
  refine Calls.mono (HT.out _) ?_
  rintro e w2 ⟨rfl, hb2⟩
  obtain ⟨c2, c3, f2, f3⟩ := fbox_facts HX.out.1 (b2 HB1.out hb2)
  have HB := hid (b2 HX.out.2 (b2 HB1.out hb2))
  clear hb2 HX HB1
  go_wp2_with fail
  refine bodyPost_ret (v := Value.tuple #[.agg #[.int .i64 t1, .int .i64 t2], .int .i64 t3]) (by simp [results, Try.results9, go_sem, c2, c3]) rfl ?_
  exact ⟨rfl, fput2 HB.out _ (Nat.le_refl _) _ _⟩
set_option maxHeartbeats 1600000 in
set_option maxRecDepth 100000 in
theorem ndTurn_err (n : ByteArray) (t E : Int) (w : World) (hE : (E == 0) = false)
    (HA : Hid (∀ V, Calls Try.prog 24 #[.string n, .int .i64 t] V fun e w' => e = .returned (.tuple #[.agg #[.float .f64 0, .float .f64 0, .float .f64 0], .complex .f64 0 0, .int .i64 E]) ∧ Below V.heap.size V w')) :
    Calls Try.prog 9 #[.string n, .int .i64 t] w fun e w' => e = .returned (.tuple #[.agg #[.int .i64 0, .int .i64 0], .int .i64 E]) ∧ Below w.heap.size w w' := by
  have HX := hid (boxes1 w 31 #[.int .i64 0, .int .i64 0])
  go_enter Try.func9, Try.ntmps9
  go_wp2_with fail
  generalize w.alloc (.cells #[.int .i64 0, .int .i64 0] 31) = X at *
  refine Calls.mono (HA.out _) ?_
  rintro e w1 ⟨rfl, hb1⟩
  obtain ⟨Y, Y1, Y2, Y3, r0, r1, r2, r3, ⟨d0, d1, d2⟩, k1, k2⟩ := newrow Try.prog w1 49 0 0 0
  obtain ⟨c2, c3, f2, f3⟩ := fbox_facts HX.out.1 (b2 hb1 k2)
  have HB := hid (b2 HX.out.2 (b2 hb1 k2))
  clear hb1 k1 k2 HA HX
  go_wp2_with fail
  refine bodyPost_ret (v := Value.tuple #[.agg #[.int .i64 0, .int .i64 0], .int .i64 E]) (by simp [results, Try.results9, go_sem, c2, c3]) rfl ?_
  exact ⟨rfl, by first | exact fput2 HB.out _ (Nat.le_refl _) _ _ | exact HB.out⟩
end Go.Proofs.Ytodihhokodnmkaa

/- package nodal: Names; each row's factor is from 0.5 to 1.5, its units at most 237,000 in size. (tools/mkno4.py) -/
namespace Go.Proofs.Ytodihhokodnmkaa
open Go.RowKit
set_option linter.unusedVariables false

/-- The names, rising, and their rows. -/
def ndN : Nat → ByteArray
  | 0 => { data := #[75, 49] }
  | 1 => { data := #[75, 50] }
  | 2 => { data := #[77, 50] }
  | 3 => { data := #[77, 102] }
  | 4 => { data := #[77, 109] }
  | 5 => { data := #[78, 50] }
  | 6 => { data := #[79, 49] }
  | 7 => { data := #[80, 49] }
  | 8 => { data := #[81, 49] }
  | _ => { data := #[83, 50] }
def ndI : Nat → Nat
  | 0 => 3
  | 1 => 2
  | 2 => 0
  | 3 => 5
  | 4 => 6
  | 5 => 0
  | 6 => 4
  | 7 => 1
  | 8 => 4
  | _ => 1
def ndA : Array Value := #[.string { data := #[75, 49] }, .string { data := #[75, 50] }, .string { data := #[77, 50] }, .string { data := #[77, 102] }, .string { data := #[77, 109] }, .string { data := #[78, 50] }, .string { data := #[79, 49] }, .string { data := #[80, 49] }, .string { data := #[81, 49] }, .string { data := #[83, 50] }]
theorem nd_ten {i : Nat} (h : i < 10) : i = 0 ∨ i = 1 ∨ i = 2 ∨ i = 3 ∨ i = 4 ∨ i = 5 ∨ i = 6 ∨ i = 7 ∨ i = 8 ∨ i = 9 := by omega
theorem ndA_at {i : Nat} (h : i < 10) : ndA[i]? = some (.string (ndN i)) := by
  rcases nd_ten h with rfl | rfl | rfl | rfl | rfl | rfl | rfl | rfl | rfl | rfl <;> rfl
theorem ndN_row {i : Nat} (h : i < 10) : ndK (ndN i).toList = some (ndI i) := by
  rcases nd_ten h with rfl | rfl | rfl | rfl | rfl | rfl | rfl | rfl | rfl | rfl <;> decide +kernel
theorem ndI_lt {i : Nat} (h : i < 10) : ndI i < 7 := by
  rcases nd_ten h with rfl | rfl | rfl | rfl | rfl | rfl | rfl | rfl | rfl | rfl <;> decide
/-- Which names stand still, which turn none. -/
theorem ndN_still {i : Nat} (h : i < 10) : (((ndN i).toList == [83, 50]) = true → ndI i = 1) ∧ (((ndN i).toList == [80, 49]) = true → ndI i = 1) ∧ (((ndN i).toList == [77, 109]) = true → ndI i = 6) := by
  rcases nd_ten h with rfl | rfl | rfl | rfl | rfl | rfl | rfl | rfl | rfl | rfl <;> decide +kernel
set_option maxHeartbeats 1600000 in
set_option maxRecDepth 100000 in
theorem ndNames_any (w : World) :
    Calls Try.prog 19 #[] w fun e w' => e = .returned (.slice (some ⟨w.heap.size, 0, none⟩) 10 10) ∧ FBox w' w.heap.size 9 ndA ∧ Below w.heap.size w w' ∧ w'.heap.size = w.heap.size + 1 := by
  have HX := hid (boxes1 w 9 ndA)
  have HS : Hid ((w.alloc (.cells ndA 9)).heap.size = w.heap.size + 1) := World.size_alloc _ _
  go_enter Try.func19, Try.ntmps19
  go_wp2_with fail
  go_ret
  exact ⟨rfl, HX.out.1, HX.out.2, HS.out⟩

theorem In.abs {x c : Nat} {d : Int} (h : In 1064 (-d) d x) (hd : d = (c : Int) * 1024) : (sv x).natAbs ≤ c * 2 ^ 1074 := by
  obtain ⟨f, h1, h2⟩ := h
  obtain ⟨E, hE⟩ : ∃ E, E = 1064 := ⟨_, rfl⟩
  have e : 2 ^ 1074 = 1024 * 2 ^ E := by rw [show 1074 = 10 + E by omega, Nat.pow_add]
  rw [e]
  rw [← hE, hd] at h1 h2
  generalize 2 ^ E = P at *
  rw [Int.neg_mul] at h1
  have e2 : (c : Int) * 1024 * (P : Int) = ((c * (1024 * P) : Nat) : Int) := by rw [Int.natCast_mul, Int.natCast_mul, Int.mul_assoc]; rfl
  rw [e2] at h1 h2
  omega
theorem fac_0 {re : Nat} (h : Unit1 re) : ∃ p f, floatBits .mul .f64 13808865119849376907 re = some p ∧ floatBits .add .f64 p 4607182418800017408 = some f ∧ In 1024 (562949953421312) (1688849860263936) f := by
  obtain ⟨p, hp⟩ := fn_ex .mul 13808865119849376907 re
  obtain ⟨f, hf⟩ := fn_ex .add p 4607182418800017408
  have is : In 1024 (-41658296553178) (-41658296553177) 13808865119849376907 := ⟨⟨by decide, by decide⟩, by decide +kernel, by decide +kernel⟩
  have ib : In 1024 (1125899906842624) (1125899906842624) 4607182418800017408 := ⟨⟨by decide, by decide⟩, by decide +kernel, by decide +kernel⟩
  have ip : In 1024 (-41658296553178) (41658296553178) p := In.mul is h hp (s := 50) (by decide) (by decide) (by decide) (by decide) (by decide) (by decide) (by decide) (by decide) (by decide) (by decide) (by decide) (by decide) (by decide)
  have if' : In 1024 (1084241610289446) (1167558203395802) f := In.add ip ib hf (by decide) (by decide) (by decide) (by decide) (by decide) (by decide)
  exact ⟨p, f, hp.fin ip.1, hf.fin if'.1, if'.wide (by decide) (by decide)⟩
theorem un_0 {im : Nat} (h : Unit1 im) : ∃ u v n, floatBits .mul .f64 13894873686856433664 im = some u ∧ Fi u ∧ FloatKind.f64.encode ((FloatKind.f64.decode u).integral .even) = v ∧ floatToIntVal .f64 v .i64 = some n ∧ RI u n ∧ n.natAbs ≤ 21000 := by
  obtain ⟨u, hu⟩ := fn_ex .mul 13894873686856433664 im
  have ic : In 1074 (-21000) (-21000) 13894873686856433664 := ⟨⟨by decide, by decide⟩, by decide +kernel, by decide +kernel⟩
  have iu : In 1064 (-21504000) 21504000 u := In.mul ic h hu (s := 40) (by decide) (by decide) (by decide) (by decide) (by decide) (by decide) (by decide) (by decide) (by decide) (by decide) (by decide) (by decide) (by decide)
  have hb := iu.abs (c := 21000) (by decide)
  obtain ⟨v, n, e1, e2, e3, e4, e5, e6⟩ := round_ex iu.1 21000 (by decide) hb
  exact ⟨u, v, n, hu.fin iu.1, iu.1, e1, e3, e4, e5⟩
theorem fac_1 {re : Nat} (h : Unit1 re) : ∃ p f, floatBits .mul .f64 0 re = some p ∧ floatBits .add .f64 p 4607182418800017408 = some f ∧ In 1024 (1125899906842624) (1125899906842624) f := by
  obtain ⟨p, hp⟩ := fn_ex .mul 0 re
  obtain ⟨f, hf⟩ := fn_ex .add p 4607182418800017408
  have is : In 1024 (0) (0) 0 := ⟨⟨by decide, by decide⟩, by decide +kernel, by decide +kernel⟩
  have ib : In 1024 (1125899906842624) (1125899906842624) 4607182418800017408 := ⟨⟨by decide, by decide⟩, by decide +kernel, by decide +kernel⟩
  have ip : In 1024 (0) (0) p := In.mul is h hp (s := 50) (by decide) (by decide) (by decide) (by decide) (by decide) (by decide) (by decide) (by decide) (by decide) (by decide) (by decide) (by decide) (by decide)
  have if' : In 1024 (1125899906842624) (1125899906842624) f := In.add ip ib hf (by decide) (by decide) (by decide) (by decide) (by decide) (by decide)
  exact ⟨p, f, hp.fin ip.1, hf.fin if'.1, if'.wide (by decide) (by decide)⟩
theorem un_1 {im : Nat} (h : Unit1 im) : ∃ u v n, floatBits .mul .f64 0 im = some u ∧ Fi u ∧ FloatKind.f64.encode ((FloatKind.f64.decode u).integral .even) = v ∧ floatToIntVal .f64 v .i64 = some n ∧ RI u n ∧ n.natAbs ≤ 0 := by
  obtain ⟨u, hu⟩ := fn_ex .mul 0 im
  have ic : In 1074 (0) (0) 0 := ⟨⟨by decide, by decide⟩, by decide +kernel, by decide +kernel⟩
  have iu : In 1064 (-0) 0 u := In.mul ic h hu (s := 40) (by decide) (by decide) (by decide) (by decide) (by decide) (by decide) (by decide) (by decide) (by decide) (by decide) (by decide) (by decide) (by decide)
  have hb := iu.abs (c := 0) (by decide)
  obtain ⟨v, n, e1, e2, e3, e4, e5, e6⟩ := round_ex iu.1 0 (by decide) hb
  exact ⟨u, v, n, hu.fin iu.1, iu.1, e1, e3, e4, e5⟩
theorem fac_2 {re : Nat} (h : Unit1 re) : ∃ p f, floatBits .mul .f64 4598823737891617767 re = some p ∧ floatBits .add .f64 p 4607290505191074300 = some f ∧ In 1024 (562949953421312) (1688849860263936) f := by
  obtain ⟨p, hp⟩ := fn_ex .mul 4598823737891617767 re
  obtain ⟨f, hf⟩ := fn_ex .add p 4607290505191074300
  have is : In 1024 (322007373356990) (322007373356991) 4598823737891617767 := ⟨⟨by decide, by decide⟩, by decide +kernel, by decide +kernel⟩
  have ib : In 1024 (1152921504606847) (1152921504606847) 4607290505191074300 := ⟨⟨by decide, by decide⟩, by decide +kernel, by decide +kernel⟩
  have ip : In 1024 (-322007373356991) (322007373356991) p := In.mul is h hp (s := 50) (by decide) (by decide) (by decide) (by decide) (by decide) (by decide) (by decide) (by decide) (by decide) (by decide) (by decide) (by decide) (by decide)
  have if' : In 1024 (830914131249856) (1474928877963838) f := In.add ip ib hf (by decide) (by decide) (by decide) (by decide) (by decide) (by decide)
  exact ⟨p, f, hp.fin ip.1, hf.fin if'.1, if'.wide (by decide) (by decide)⟩
theorem un_2 {im : Nat} (h : Unit1 im) : ∃ u v n, floatBits .mul .f64 13908693723383857152 im = some u ∧ Fi u ∧ FloatKind.f64.encode ((FloatKind.f64.decode u).integral .even) = v ∧ floatToIntVal .f64 v .i64 = some n ∧ RI u n ∧ n.natAbs ≤ 177000 := by
  obtain ⟨u, hu⟩ := fn_ex .mul 13908693723383857152 im
  have ic : In 1074 (-177000) (-177000) 13908693723383857152 := ⟨⟨by decide, by decide⟩, by decide +kernel, by decide +kernel⟩
  have iu : In 1064 (-181248000) 181248000 u := In.mul ic h hu (s := 40) (by decide) (by decide) (by decide) (by decide) (by decide) (by decide) (by decide) (by decide) (by decide) (by decide) (by decide) (by decide) (by decide)
  have hb := iu.abs (c := 177000) (by decide)
  obtain ⟨v, n, e1, e2, e3, e4, e5, e6⟩ := round_ex iu.1 177000 (by decide) hb
  exact ⟨u, v, n, hu.fin iu.1, iu.1, e1, e3, e4, e5⟩
theorem fac_3 {re : Nat} (h : Unit1 re) : ∃ p f, floatBits .mul .f64 4592951043977526641 re = some p ∧ floatBits .add .f64 p 4607209440397781631 = some f ∧ In 1024 (562949953421312) (1688849860263936) f := by
  obtain ⟨p, hp⟩ := fn_ex .mul 4592951043977526641 re
  obtain ⟨f, hf⟩ := fn_ex .add p 4607209440397781631
  have is : In 1024 (129478489286901) (129478489286902) 4592951043977526641 := ⟨⟨by decide, by decide⟩, by decide +kernel, by decide +kernel⟩
  have ib : In 1024 (1132655306283679) (1132655306283680) 4607209440397781631 := ⟨⟨by decide, by decide⟩, by decide +kernel, by decide +kernel⟩
  have ip : In 1024 (-129478489286902) (129478489286902) p := In.mul is h hp (s := 50) (by decide) (by decide) (by decide) (by decide) (by decide) (by decide) (by decide) (by decide) (by decide) (by decide) (by decide) (by decide) (by decide)
  have if' : In 1024 (1003176816996777) (1262133795570582) f := In.add ip ib hf (by decide) (by decide) (by decide) (by decide) (by decide) (by decide)
  exact ⟨p, f, hp.fin ip.1, hf.fin if'.1, if'.wide (by decide) (by decide)⟩
theorem un_3 {im : Nat} (h : Unit1 im) : ∃ u v n, floatBits .mul .f64 13904224483494854656 im = some u ∧ Fi u ∧ FloatKind.f64.encode ((FloatKind.f64.decode u).integral .even) = v ∧ floatToIntVal .f64 v .i64 = some n ∧ RI u n ∧ n.natAbs ≤ 89000 := by
  obtain ⟨u, hu⟩ := fn_ex .mul 13904224483494854656 im
  have ic : In 1074 (-89000) (-89000) 13904224483494854656 := ⟨⟨by decide, by decide⟩, by decide +kernel, by decide +kernel⟩
  have iu : In 1064 (-91136000) 91136000 u := In.mul ic h hu (s := 40) (by decide) (by decide) (by decide) (by decide) (by decide) (by decide) (by decide) (by decide) (by decide) (by decide) (by decide) (by decide) (by decide)
  have hb := iu.abs (c := 89000) (by decide)
  obtain ⟨v, n, e1, e2, e3, e4, e5, e6⟩ := round_ex iu.1 89000 (by decide) hb
  exact ⟨u, v, n, hu.fin iu.1, iu.1, e1, e3, e4, e5⟩
theorem fac_4 {re : Nat} (h : Unit1 re) : ∃ p f, floatBits .mul .f64 4595905405333081686 re = some p ∧ floatBits .add .f64 p 4607222951196663742 = some f ∧ In 1024 (562949953421312) (1688849860263936) f := by
  obtain ⟨p, hp⟩ := fn_ex .mul 4595905405333081686 re
  obtain ⟨f, hf⟩ := fn_ex .add p 4607222951196663742
  have is : In 1024 (210543282579570) (210543282579571) 4595905405333081686 := ⟨⟨by decide, by decide⟩, by decide +kernel, by decide +kernel⟩
  have ib : In 1024 (1136033006004207) (1136033006004208) 4607222951196663742 := ⟨⟨by decide, by decide⟩, by decide +kernel, by decide +kernel⟩
  have ip : In 1024 (-210543282579571) (210543282579571) p := In.mul is h hp (s := 50) (by decide) (by decide) (by decide) (by decide) (by decide) (by decide) (by decide) (by decide) (by decide) (by decide) (by decide) (by decide) (by decide)
  have if' : In 1024 (925489723424636) (1346576288583779) f := In.add ip ib hf (by decide) (by decide) (by decide) (by decide) (by decide) (by decide)
  exact ⟨p, f, hp.fin ip.1, hf.fin if'.1, if'.wide (by decide) (by decide)⟩
theorem un_4 {im : Nat} (h : Unit1 im) : ∃ u v n, floatBits .mul .f64 4682158116698062848 im = some u ∧ Fi u ∧ FloatKind.f64.encode ((FloatKind.f64.decode u).integral .even) = v ∧ floatToIntVal .f64 v .i64 = some n ∧ RI u n ∧ n.natAbs ≤ 108000 := by
  obtain ⟨u, hu⟩ := fn_ex .mul 4682158116698062848 im
  have ic : In 1074 (108000) (108000) 4682158116698062848 := ⟨⟨by decide, by decide⟩, by decide +kernel, by decide +kernel⟩
  have iu : In 1064 (-110592000) 110592000 u := In.mul ic h hu (s := 40) (by decide) (by decide) (by decide) (by decide) (by decide) (by decide) (by decide) (by decide) (by decide) (by decide) (by decide) (by decide) (by decide)
  have hb := iu.abs (c := 108000) (by decide)
  obtain ⟨v, n, e1, e2, e3, e4, e5, e6⟩ := round_ex iu.1 108000 (by decide) hb
  exact ⟨u, v, n, hu.fin iu.1, iu.1, e1, e3, e4, e5⟩
theorem fac_5 {re : Nat} (h : Unit1 re) : ∃ p f, floatBits .mul .f64 4601129580900831461 re = some p ∧ floatBits .add .f64 p 4607376073583994339 = some f ∧ In 1024 (562949953421312) (1688849860263936) f := by
  obtain ⟨p, hp⟩ := fn_ex .mul 4601129580900831461 re
  obtain ⟨f, hf⟩ := fn_ex .add p 4607376073583994339
  have is : In 1024 (466122561432846) (466122561432847) 4601129580900831461 := ⟨⟨by decide, by decide⟩, by decide +kernel, by decide +kernel⟩
  have ib : In 1024 (1174313602836856) (1174313602836857) 4607376073583994339 := ⟨⟨by decide, by decide⟩, by decide +kernel, by decide +kernel⟩
  have ip : In 1024 (-466122561432847) (466122561432847) p := In.mul is h hp (s := 50) (by decide) (by decide) (by decide) (by decide) (by decide) (by decide) (by decide) (by decide) (by decide) (by decide) (by decide) (by decide) (by decide)
  have if' : In 1024 (708191041404009) (1640436164269704) f := In.add ip ib hf (by decide) (by decide) (by decide) (by decide) (by decide) (by decide)
  exact ⟨p, f, hp.fin ip.1, hf.fin if'.1, if'.wide (by decide) (by decide)⟩
theorem un_5 {im : Nat} (h : Unit1 im) : ∃ u v n, floatBits .mul .f64 13910755307685937152 im = some u ∧ Fi u ∧ FloatKind.f64.encode ((FloatKind.f64.decode u).integral .even) = v ∧ floatToIntVal .f64 v .i64 = some n ∧ RI u n ∧ n.natAbs ≤ 237000 := by
  obtain ⟨u, hu⟩ := fn_ex .mul 13910755307685937152 im
  have ic : In 1074 (-237000) (-237000) 13910755307685937152 := ⟨⟨by decide, by decide⟩, by decide +kernel, by decide +kernel⟩
  have iu : In 1064 (-242688000) 242688000 u := In.mul ic h hu (s := 40) (by decide) (by decide) (by decide) (by decide) (by decide) (by decide) (by decide) (by decide) (by decide) (by decide) (by decide) (by decide) (by decide)
  have hb := iu.abs (c := 237000) (by decide)
  obtain ⟨v, n, e1, e2, e3, e4, e5, e6⟩ := round_ex iu.1 237000 (by decide) hb
  exact ⟨u, v, n, hu.fin iu.1, iu.1, e1, e3, e4, e5⟩
theorem fac_6 {re : Nat} (h : Unit1 re) : ∃ p f, floatBits .mul .f64 13817223800757776548 re = some p ∧ floatBits .add .f64 p 4607182418800017408 = some f ∧ In 1024 (562949953421312) (1688849860263936) f := by
  obtain ⟨p, hp⟩ := fn_ex .mul 13817223800757776548 re
  obtain ⟨f, hf⟩ := fn_ex .add p 4607182418800017408
  have is : In 1024 (-146366987889542) (-146366987889541) 13817223800757776548 := ⟨⟨by decide, by decide⟩, by decide +kernel, by decide +kernel⟩
  have ib : In 1024 (1125899906842624) (1125899906842624) 4607182418800017408 := ⟨⟨by decide, by decide⟩, by decide +kernel, by decide +kernel⟩
  have ip : In 1024 (-146366987889542) (146366987889542) p := In.mul is h hp (s := 50) (by decide) (by decide) (by decide) (by decide) (by decide) (by decide) (by decide) (by decide) (by decide) (by decide) (by decide) (by decide) (by decide)
  have if' : In 1024 (979532918953082) (1272266894732166) f := In.add ip ib hf (by decide) (by decide) (by decide) (by decide) (by decide) (by decide)
  exact ⟨p, f, hp.fin ip.1, hf.fin if'.1, if'.wide (by decide) (by decide)⟩
theorem un_6 {im : Nat} (h : Unit1 im) : ∃ u v n, floatBits .mul .f64 0 im = some u ∧ Fi u ∧ FloatKind.f64.encode ((FloatKind.f64.decode u).integral .even) = v ∧ floatToIntVal .f64 v .i64 = some n ∧ RI u n ∧ n.natAbs ≤ 0 := by
  obtain ⟨u, hu⟩ := fn_ex .mul 0 im
  have ic : In 1074 (0) (0) 0 := ⟨⟨by decide, by decide⟩, by decide +kernel, by decide +kernel⟩
  have iu : In 1064 (-0) 0 u := In.mul ic h hu (s := 40) (by decide) (by decide) (by decide) (by decide) (by decide) (by decide) (by decide) (by decide) (by decide) (by decide) (by decide) (by decide) (by decide)
  have hb := iu.abs (c := 0) (by decide)
  obtain ⟨v, n, e1, e2, e3, e4, e5, e6⟩ := round_ex iu.1 0 (by decide) hb
  exact ⟨u, v, n, hu.fin iu.1, iu.1, e1, e3, e4, e5⟩
theorem nd_seven {k : Nat} (h : k < 7) : k = 0 ∨ k = 1 ∨ k = 2 ∨ k = 3 ∨ k = 4 ∨ k = 5 ∨ k = 6 := by omega
/-- Each row's factor, and the still one's. -/
theorem fac_ex {re : Nat} (h : Unit1 re) {k : Nat} (hk : k < 7) : ∃ p f, floatBits .mul .f64 (ndS k) re = some p ∧ floatBits .add .f64 p (ndB k) = some f ∧ In 1024 (562949953421312) (1688849860263936) f ∧ (k = 1 → In 1024 (1125899906842624) (1125899906842624) f) := by
  rcases nd_seven hk with rfl | rfl | rfl | rfl | rfl | rfl | rfl
  · obtain ⟨p, f, h1, h2, h3⟩ := fac_0 h; exact ⟨p, f, h1, h2, h3, fun e => by cases e⟩
  · obtain ⟨p, f, h1, h2, h3⟩ := fac_1 h; exact ⟨p, f, h1, h2, h3.wide (by decide) (by decide), fun _ => h3⟩
  · obtain ⟨p, f, h1, h2, h3⟩ := fac_2 h; exact ⟨p, f, h1, h2, h3, fun e => by cases e⟩
  · obtain ⟨p, f, h1, h2, h3⟩ := fac_3 h; exact ⟨p, f, h1, h2, h3, fun e => by cases e⟩
  · obtain ⟨p, f, h1, h2, h3⟩ := fac_4 h; exact ⟨p, f, h1, h2, h3, fun e => by cases e⟩
  · obtain ⟨p, f, h1, h2, h3⟩ := fac_5 h; exact ⟨p, f, h1, h2, h3, fun e => by cases e⟩
  · obtain ⟨p, f, h1, h2, h3⟩ := fac_6 h; exact ⟨p, f, h1, h2, h3, fun e => by cases e⟩
/-- Each row's units. -/
theorem un_ex {im : Nat} (h : Unit1 im) {k : Nat} (hk : k < 7) : ∃ u v n, floatBits .mul .f64 (ndC k) im = some u ∧ Fi u ∧ FloatKind.f64.encode ((FloatKind.f64.decode u).integral .even) = v ∧ floatToIntVal .f64 v .i64 = some n ∧ RI u n ∧ n.natAbs ≤ 237000 ∧ (k = 1 ∨ k = 6 → n = 0) := by
  rcases nd_seven hk with rfl | rfl | rfl | rfl | rfl | rfl | rfl
  · obtain ⟨u, v, n, h1, h2, h3, h4, h5, h6⟩ := un_0 h; exact ⟨u, v, n, h1, h2, h3, h4, h5, by omega, fun e => by omega⟩
  · obtain ⟨u, v, n, h1, h2, h3, h4, h5, h6⟩ := un_1 h; exact ⟨u, v, n, h1, h2, h3, h4, h5, by omega, fun e => by omega⟩
  · obtain ⟨u, v, n, h1, h2, h3, h4, h5, h6⟩ := un_2 h; exact ⟨u, v, n, h1, h2, h3, h4, h5, by omega, fun e => by omega⟩
  · obtain ⟨u, v, n, h1, h2, h3, h4, h5, h6⟩ := un_3 h; exact ⟨u, v, n, h1, h2, h3, h4, h5, by omega, fun e => by omega⟩
  · obtain ⟨u, v, n, h1, h2, h3, h4, h5, h6⟩ := un_4 h; exact ⟨u, v, n, h1, h2, h3, h4, h5, by omega, fun e => by omega⟩
  · obtain ⟨u, v, n, h1, h2, h3, h4, h5, h6⟩ := un_5 h; exact ⟨u, v, n, h1, h2, h3, h4, h5, by omega, fun e => by omega⟩
  · obtain ⟨u, v, n, h1, h2, h3, h4, h5, h6⟩ := un_6 h; exact ⟨u, v, n, h1, h2, h3, h4, h5, by omega, fun e => by omega⟩

/-- Factor and Turn of a name of the table, at a tick that there is. -/
theorem ndat_k {s : ByteArray} {k t re im : Nat} (hk : ndK s.toList = some k) (ht : t ≤ 1048576) (h : NodeR t re im) (w : World) :
    Calls Try.prog 24 #[.string s, .int .i64 (t : Int)] w fun e w' => e = .returned (.tuple #[.agg #[.float .f64 (ndB k), .float .f64 (ndS k), .float .f64 (ndC k)], .complex .f64 re im, .int .i64 0]) ∧ Below w.heap.size w w' :=
  ndat_ok s t re im (ndB k) (ndS k) (ndC k) w (hid fun V => ndNode_ok t re im V ht h) (hid fun V => by have := ndfind_any s V; rw [hk] at this; exact this)
theorem ndFactor_k {s : ByteArray} {k t re im p f : Nat} (hk : ndK s.toList = some k) (ht : t ≤ 1048576) (h : NodeR t re im) (h1 : floatBits .mul .f64 (ndS k) re = some p) (h2 : floatBits .add .f64 p (ndB k) = some f) (w : World) :
    Calls Try.prog 7 #[.string s, .int .i64 (t : Int)] w fun e w' => e = .returned (.tuple #[.float .f64 f, .int .i64 0]) ∧ Below w.heap.size w w' :=
  ndFactor_ok s t re im _ _ _ p f w h1 h2 (hid fun V => ndat_k hk ht h V)
theorem ndTurn_k {s : ByteArray} {k t re im u v : Nat} {n : Int} (hk : ndK s.toList = some k) (ht : t ≤ 1048576) (h : NodeR t re im) (h1 : floatBits .mul .f64 (ndC k) im = some u) (hf : Fi u) (h2 : FloatKind.f64.encode ((FloatKind.f64.decode u).integral .even) = v) (h3 : floatToIntVal .f64 v .i64 = some n) (hn : n.natAbs ≤ 237000) (w : World) :
    Calls Try.prog 9 #[.string s, .int .i64 (t : Int)] w fun e w' => e = .returned (tV (ofR n 3600000)) ∧ Below w.heap.size w w' :=
  ndTurn_ok s t re im _ _ _ _ w (hid fun V => ndturn_any _ _ _ re im u v n V h1 hf h2 h3 ⟨by omega, by omega⟩) (hid fun V => ndat_k hk ht h V)
end Go.Proofs.Ytodihhokodnmkaa

/- The laws' own Pick, parts, sameTurn, awake of layer 12. -/
namespace Go.Proofs.Ytodihhokodnmkaa
open Go.RowKit
set_option linter.unusedVariables false

/-- A turn of so many 3,600,000ths, taken back. -/
theorem of_parts (n : Int) : ∃ a b g : Nat, ofR n 3600000 = ((a : Int), (b : Int), 0) ∧ b * g = 3600000 ∧ a * g = (n % 3600000).toNat ∧ a < b ∧ Nat.gcd a b = 1 := by
  have h0 := Int.emod_nonneg n (show (3600000 : Int) ≠ 0 by decide)
  have h1 := Int.emod_lt_of_pos n (show (0 : Int) < 3600000 by decide)
  have hu : (n % 3600000).toNat < 3600000 := by omega
  unfold ofR
  rw [if_neg (by decide), if_neg (by decide), show (3600000 : Int).toNat = 3600000 from rfl]
  generalize (n % 3600000).toNat = u at *
  have hg : 0 < Nat.gcd u 3600000 := Nat.gcd_pos_of_pos_right _ (by decide)
  have hd := Nat.gcd_dvd_right u 3600000
  have hdl := Nat.gcd_dvd_left u 3600000
  refine ⟨u / Nat.gcd u 3600000, 3600000 / Nat.gcd u 3600000, Nat.gcd u 3600000, ?_, Nat.div_mul_cancel hd, Nat.div_mul_cancel hdl, ?_, ?_⟩
  · unfold lowR
    have hle : 3600000 / Nat.gcd u 3600000 ≤ 3600000 := Nat.div_le_self _ _
    rw [if_pos (by omega)]
  · have e1 := Nat.div_mul_cancel hd
    have e2 := Nat.div_mul_cancel hdl
    generalize Nat.gcd u 3600000 = g at *
    refine Nat.lt_of_mul_lt_mul_right (a := g) ?_
    omega
  · rw [Nat.gcd_div hdl hd, Nat.div_self hg]

set_option maxHeartbeats 800000 in
set_option maxRecDepth 100000 in
theorem ndsame_eq (a b : Int) (w : World) : Calls Try.prog 15 #[.agg #[.int .i64 a, .int .i64 b], .agg #[.int .i64 a, .int .i64 b]] w fun e w' => e = .returned (.bool true) ∧ Below w.heap.size w w' := by
  have HX := hid (boxes2 w 31 #[.int .i64 a, .int .i64 b] #[.int .i64 a, .int .i64 b])
  obtain ⟨c0, c1, f0, f1⟩ := fbox_facts HX.out.1 (Below.refl _ _)
  obtain ⟨d0, d1, g0, g1⟩ := fbox_facts HX.out.2.1 (Below.refl _ _)
  go_enter Try.func15, Try.ntmps15
  go_wp2_with fail
  go_returns
  exact ⟨rfl, HX.out.2.2⟩

/-- Comparisons of a factor with 0.5, 1.5 and 1. -/
theorem half_in : In 1024 562949953421312 562949953421312 4602678819172646912 := ⟨⟨by decide, by decide⟩, by decide +kernel, by decide +kernel⟩
theorem half3_in : In 1024 1688849860263936 1688849860263936 4609434218613702656 := ⟨⟨by decide, by decide⟩, by decide +kernel, by decide +kernel⟩
theorem in_geq {k x y : Nat} {a b c d : Int} (hx : In k a b x) (hy : In k c d y) (h : d ≤ a) : (FloatKind.f64.format.order x y == some .gt || FloatKind.f64.format.order x y == some .eq) = true := by
  have hp : (0 : Int) ≤ ((2 ^ k : Nat) : Int) := Int.natCast_nonneg _
  have h1 : sv y ≤ sv x := Int.le_trans hy.2.2 (Int.le_trans (Int.mul_le_mul_of_nonneg_right h hp) hx.2.1)
  rw [order_sv hx.1 hy.1]
  rcases Int.lt_or_eq_of_le h1 with h2 | h2
  · rw [Int.compare_eq_gt.2 h2]; rfl
  · rw [h2]; simp
theorem in_leq {k x y : Nat} {a b c d : Int} (hx : In k a b x) (hy : In k c d y) (h : b ≤ c) : (FloatKind.f64.format.order x y == some .lt || FloatKind.f64.format.order x y == some .eq) = true := by
  have hp : (0 : Int) ≤ ((2 ^ k : Nat) : Int) := Int.natCast_nonneg _
  have h1 : sv x ≤ sv y := Int.le_trans hx.2.2 (Int.le_trans (Int.mul_le_mul_of_nonneg_right h hp) hy.2.1)
  rw [order_sv hx.1 hy.1]
  rcases Int.lt_or_eq_of_le h1 with h2 | h2
  · rw [Int.compare_eq_lt.2 h2]; rfl
  · rw [h2]; simp
theorem in_eq {k x y : Nat} {a : Int} (hx : In k a a x) (hy : In k a a y) : FloatKind.f64.format.order x y = some .eq := by
  rw [order_sv hx.1 hy.1, hx.of_eq, hy.of_eq]; simp

theorem ndK_S2 : ndK (ByteArray.mk #[83, 50]).toList = some 1 := by decide +kernel
theorem ndK_P1 : ndK (ByteArray.mk #[80, 49]).toList = some 1 := by decide +kernel
theorem ndK_M4 : ndK (ByteArray.mk #[77, 52]).toList = none := by decide +kernel
theorem of_zero : ofR 0 3600000 = (0, 1, 0) := by decide +kernel

end Go.Proofs.Ytodihhokodnmkaa

/- Turns are a group: sums, opposites, multiples of sizes, whole turns left out. Nothing here speaks of the program. -/
namespace Go.Proofs.Ytodihhokodnmkaa
open Go.RowKit
set_option linter.unusedVariables false

/-- A size in lowest terms, or refused. -/
def canon (r : Rat) : Int × Int × Int := if r.den ≤ 4294967296 then (r.num, (r.den : Int), 0) else (0, 0, 3)

theorem frac_bounds (x : Rat) : 0 ≤ frac x ∧ frac x < 1 := by
  unfold frac
  have a := Rat.floor_le x
  have b := Rat.lt_floor_add_one x
  rw [Rat.intCast_add] at b
  constructor
  · grind
  · have : (((1 : Int) : Rat)) = 1 := rfl
    grind
theorem frac_self {x : Rat} (h0 : 0 ≤ x) (h1 : x < 1) : frac x = x := frac_unique 0 (by simp; grind) h0 h1
theorem frac_add_frac (x y : Rat) : frac (x + frac y) = frac (x + y) := by
  have e : x + y = (x + frac y) + (y.floor : Rat) := by unfold frac; grind
  rw [e, frac_add_int]
theorem frac_frac_add (x y : Rat) : frac (frac x + y) = frac (x + y) := by
  rw [Rat.add_comm, frac_add_frac, Rat.add_comm]

theorem lowR_canon (p q : Nat) (hq : 0 < q) : lowR p q = canon (mkRat p q) := by
  obtain ⟨a, b⟩ := mkRat_nd p q hq
  unfold lowR canon
  rw [a, b]

theorem mkRat_unit (z : Int) (q : Nat) (hq : 0 < q) (h0 : 0 ≤ z) (h1 : z < q) : 0 ≤ mkRat z q ∧ mkRat z q < 1 := by
  rw [Rat.mkRat_eq_div]
  have hq' : (0 : Rat) < (q : Rat) := by exact_mod_cast hq
  have h0' : (0 : Rat) ≤ (z : Rat) := by exact_mod_cast h0
  have h1' : (z : Rat) < ((q : Int) : Rat) := by exact_mod_cast h1
  have e : (((q : Int) : Rat)) = (q : Rat) := rfl
  rw [e] at h1'
  constructor
  · refine Rat.not_lt.1 fun h => ?_
    rw [Rat.div_lt_iff hq'] at h; grind
  · rw [Rat.div_lt_iff hq']; grind

/-- What is left of whole turns. -/
theorem mkRat_mod (z : Int) (q : Nat) (hq : 0 < q) : mkRat (z % q) q = frac (mkRat z q) := by
  have hb := mkRat_unit (z % q) q hq (Int.emod_nonneg _ (by omega)) (Int.emod_lt_of_pos _ (by omega))
  refine (frac_unique (z / q) ?_ hb.1 hb.2).symm
  have hq' : ((q : Rat)) ≠ 0 := by
    intro h; have : q = 0 := by exact_mod_cast h
    omega
  rw [Rat.mkRat_eq_div, Rat.mkRat_eq_div]
  have e : (z : Rat) = ((z % q : Int) : Rat) + ((z / q : Int) : Rat) * (q : Rat) := by
    have := Int.emod_add_mul_ediv z q
    have e2 : ((((z % q) + q * (z / q) : Int)) : Rat) = (z : Rat) := by rw [this]
    rw [Rat.intCast_add, Rat.intCast_mul] at e2
    have e3 : (((q : Int) : Rat)) = (q : Rat) := rfl
    rw [e3] at e2
    grind
  rw [e]
  grind

/-- A turn's size. -/
def vI (p q : Int) : Rat := mkRat p q.toNat

theorem vI_nd {p q : Int} (h : okI p q) : (vI p q).num = p ∧ ((vI p q).den : Int) = q ∧ 0 ≤ vI p q ∧ vI p q < 1 := by
  obtain ⟨h1, h2, h3, h4, h5⟩ := h
  obtain ⟨a, rfl⟩ := Int.eq_ofNat_of_zero_le h3
  obtain ⟨b, rfl⟩ := Int.eq_ofNat_of_zero_le (show 0 ≤ q by omega)
  have e := mkRat_nd a b (by omega)
  simp only [Int.toNat_natCast] at h5
  rw [h5, Nat.div_one, Nat.div_one] at e
  unfold vI
  simp only [Int.toNat_natCast]
  have u := mkRat_unit a b (by omega) (by omega) (by omega)
  exact ⟨e.1, by rw [e.2], u.1, u.2⟩
theorem canon_vI {p q : Int} (h : okI p q) : canon (vI p q) = (p, q, 0) := by
  obtain ⟨a, b, _, _⟩ := vI_nd h
  have := h.2.1
  unfold canon
  rw [if_pos (by omega), a, b]
theorem canon_ok {r : Rat} (h0 : 0 ≤ r) (h1 : r < 1) (hd : r.den ≤ 4294967296) : okI r.num r.den ∧ vI r.num r.den = r := by
  have hn : 0 ≤ r.num := Rat.num_nonneg.2 h0
  have hdp := r.den_pos
  have hl : r.num < (r.den : Int) := by
    have h2 : mkRat r.num r.den < 1 := by rw [Rat.mkRat_self]; exact h1
    have hq' : (0 : Rat) < (r.den : Rat) := by exact_mod_cast hdp
    rw [Rat.mkRat_eq_div, Rat.div_lt_iff hq'] at h2
    have e : (r.num : Rat) < (((r.den : Int)) : Rat) := by
      have e3 : ((((r.den : Int)) : Rat)) = (r.den : Rat) := rfl
      rw [e3]; grind
    exact_mod_cast e
  refine ⟨⟨by omega, by omega, hn, hl, ?_⟩, ?_⟩
  · have := r.reduced
    unfold Nat.Coprime at this
    rw [← this]
    simp only [Int.toNat_natCast]
    congr 1
    omega
  · unfold vI; simp only [Int.toNat_natCast]; exact Rat.mkRat_self r
theorem canon_cases (r : Rat) : (canon r = (r.num, (r.den : Int), 0) ∧ r.den ≤ 4294967296) ∨ (canon r = (0, 0, 3) ∧ ¬ r.den ≤ 4294967296) := by
  unfold canon
  by_cases h : r.den ≤ 4294967296
  · rw [if_pos h]; exact .inl ⟨rfl, h⟩
  · rw [if_neg h]; exact .inr ⟨rfl, h⟩

theorem sumR_canon {p q r s : Nat} (hq : 0 < q) (hs : 0 < s) : sumR p q r s = canon (frac (mkRat p q + mkRat r s)) := by
  have hd : 0 < Nat.gcd q s := Nat.gcd_pos_of_pos_right _ hs
  obtain ⟨a, ha⟩ := Nat.gcd_dvd_left q s
  obtain ⟨b, hb⟩ := Nat.gcd_dvd_right q s
  have e1 : q / Nat.gcd q s = a := Nat.div_eq_of_eq_mul_right hd ha
  have e2 : s / Nat.gcd q s = b := Nat.div_eq_of_eq_mul_right hd hb
  have a0 : 0 < a := by
    rcases Nat.eq_zero_or_pos a with h | h
    · rw [h] at ha; omega
    · exact h
  unfold sumR
  rw [e1, e2]
  have hW : 0 < a * s := Nat.mul_pos a0 hs
  rw [lowR_canon _ _ hW]
  congr 1
  have h1 := mkRat_mod ((p * b + r * a : Nat) : Int) (a * s) hW
  have h2 : (((p * b + r * a : Nat) : Int)) % ((a * s : Nat) : Int) = (((p * b + r * a) % (a * s) : Nat) : Int) := rfl
  rw [h2] at h1
  rw [h1]
  congr 1
  rw [Rat.mkRat_add_mkRat _ _ (by omega) (by omega)]
  generalize hD : Nat.gcd q s = d at *
  have e3 : ((p : Int) * (s : Int) + (r : Int) * (q : Int)) = (((p * b + r * a : Nat) : Int)) * (d : Int) := by
    rw [ha, hb]; push_cast; grind
  have e4 : q * s = (a * s) * d := by rw [ha]; grind
  rw [e3, e4, Rat.mkRat_mul_right (by omega)]

theorem nat_of {p q : Int} (h : okI p q) : ∃ a b : Nat, p = a ∧ q = b ∧ 0 < b := by
  obtain ⟨h1, h2, h3, h4, h5⟩ := h
  obtain ⟨a, rfl⟩ := Int.eq_ofNat_of_zero_le h3
  obtain ⟨b, rfl⟩ := Int.eq_ofNat_of_zero_le (show 0 ≤ q by omega)
  exact ⟨a, b, rfl, rfl, by omega⟩
theorem addR_canon {p q r s : Int} (h : okI p q) (g : okI r s) : addR p q r s = canon (frac (vI p q + vI r s)) := by
  unfold addR
  rw [if_pos ⟨h, g⟩]
  obtain ⟨a, b, rfl, rfl, hb⟩ := nat_of h
  obtain ⟨c, d, rfl, rfl, hd⟩ := nat_of g
  unfold vI
  simp only [Int.toNat_natCast]
  exact sumR_canon hb hd
theorem vI_neg {p q : Int} (h : okI p q) : vI ((-p) % q) q = frac (-(vI p q)) := by
  obtain ⟨a, b, rfl, rfl, hb⟩ := nat_of h
  unfold vI
  simp only [Int.toNat_natCast]
  rw [mkRat_mod _ _ hb, Rat.neg_mkRat]
theorem times_v {p q : Int} (h : okI p q) (n : Int) : mkRat ((p * n) % q) q.toNat = frac ((n : Rat) * vI p q) := by
  obtain ⟨a, b, rfl, rfl, hb⟩ := nat_of h
  unfold vI
  simp only [Int.toNat_natCast]
  rw [mkRat_mod _ _ hb]
  congr 1
  rw [Rat.mkRat_eq_div, Rat.mkRat_eq_div, Rat.intCast_mul]
  grind
theorem timesR_canon {p q : Int} (h : okI p q) (n : Int) : timesR p q n = canon (frac ((n : Rat) * vI p q)) := by
  unfold timesR
  rw [if_pos h, ← times_v h]
  have hq : 0 < q.toNat := by have := h.1; omega
  rw [lowR_canon _ _ hq]
  congr 2
  have := Int.emod_nonneg (p * n) (show q ≠ 0 by have := h.1; omega)
  omega
theorem times_den {p q : Int} (h : okI p q) (n : Int) : (frac ((n : Rat) * vI p q)).den ≤ 4294967296 := by
  rw [← times_v h, Rat.den_mkRat]
  have := h.2.1
  split
  · omega
  · exact Nat.le_trans (Nat.div_le_self _ _) (by omega)

/-- Sums in any order. -/
theorem add_comm' {p q r s : Int} (h : okI p q) (g : okI r s) : addR p q r s = addR r s p q := by
  rw [addR_canon h g, addR_canon g h, Rat.add_comm]
theorem add_told {p q r s : Int} (h : okI p q) (g : okI r s) (e : (addR p q r s).2.2 = 0) : okI (addR p q r s).1 (addR p q r s).2.1 ∧ vI (addR p q r s).1 (addR p q r s).2.1 = frac (vI p q + vI r s) := by
  rw [addR_canon h g] at e ⊢
  have b := frac_bounds (vI p q + vI r s)
  rcases canon_cases (frac (vI p q + vI r s)) with ⟨e1, hd⟩ | ⟨e1, _⟩
  · rw [e1]; exact canon_ok b.1 b.2 hd
  · rw [e1] at e; exact absurd e (by decide)
theorem add_assoc' {p q r s t u : Int} (h : okI p q) (g : okI r s) (k : okI t u) (e : (addR p q r s).2.2 = 0) (f : (addR r s t u).2.2 = 0) : addR (addR p q r s).1 (addR p q r s).2.1 t u = addR p q (addR r s t u).1 (addR r s t u).2.1 := by
  obtain ⟨o1, v1⟩ := add_told h g e
  obtain ⟨o2, v2⟩ := add_told g k f
  rw [addR_canon o1 k, addR_canon h o2, v1, v2, frac_frac_add, frac_add_frac, Rat.add_assoc]
theorem sub_back' {p q r s : Int} (h : okI p q) (g : okI r s) (e : (addR p q r s).2.2 = 0) : subR (addR p q r s).1 (addR p q r s).2.1 r s = (p, q, 0) := by
  obtain ⟨o1, v1⟩ := add_told h g e
  unfold subR
  rw [if_pos ⟨o1, g⟩, addR_canon o1 (gcd_back g), v1, vI_neg g, frac_frac_add, frac_add_frac]
  have e2 : vI p q + vI r s + -vI r s = vI p q := by grind
  obtain ⟨_, _, b0, b1⟩ := vI_nd h
  rw [e2, frac_self b0 b1, canon_vI h]
theorem ok01 : okI 0 1 := ⟨by decide, by decide, by decide, by decide, by decide⟩
theorem v01 : vI 0 1 = 0 := by unfold vI; simp
theorem neg_zero' {p q : Int} (h : okI p q) : negR p q = ((-p) % q, q, 0) ∧ addR p q ((-p) % q) q = (0, 1, 0) := by
  refine ⟨by unfold negR; rw [if_pos h], ?_⟩
  rw [addR_canon h (gcd_back h), vI_neg h, frac_add_frac]
  have e2 : vI p q + -vI p q = 0 := by grind
  rw [e2, frac_self (Rat.le_refl) (by decide), ← v01, canon_vI ok01]
/-- A turn added again and again. -/
def iterR (p q : Int) (i : Nat) : Int × Int × Int := canon (frac (((i : Int) : Rat) * vI p q))
theorem iter_ok {p q : Int} (h : okI p q) (i : Nat) : (iterR p q i).2.2 = 0 ∧ okI (iterR p q i).1 (iterR p q i).2.1 ∧ vI (iterR p q i).1 (iterR p q i).2.1 = frac (((i : Int) : Rat) * vI p q) := by
  have b := frac_bounds (((i : Int) : Rat) * vI p q)
  have hd := times_den h (i : Int)
  unfold iterR
  rcases canon_cases (frac (((i : Int) : Rat) * vI p q)) with ⟨e1, hd⟩ | ⟨e1, hn⟩
  · rw [e1]; exact ⟨rfl, canon_ok b.1 b.2 hd⟩
  · exact absurd hd hn
theorem iter_zero (p q : Int) : iterR p q 0 = (0, 1, 0) := by
  unfold iterR
  have e : (((0 : Nat) : Int) : Rat) * vI p q = 0 := by simp
  rw [e, frac_self (Rat.le_refl) (by decide), ← v01, canon_vI ok01]
theorem iter_succ {p q : Int} (h : okI p q) (i : Nat) : addR (iterR p q i).1 (iterR p q i).2.1 p q = iterR p q (i + 1) := by
  obtain ⟨_, o, v⟩ := iter_ok h i
  rw [addR_canon o h, v, frac_frac_add]
  unfold iterR
  congr 2
  have e : (((i + 1 : Nat) : Int) : Rat) = ((i : Int) : Rat) + 1 := by
    rw [Int.natCast_add, Rat.intCast_add]; rfl
  rw [e]; grind
theorem times_iter {p q : Int} (h : okI p q) (n : Nat) : timesR p q (n : Int) = iterR p q n := timesR_canon h n

end Go.Proofs.Ytodihhokodnmkaa

/- Angles as turns: an angle goes on by as many of its speeds. No program. -/
namespace Go.Proofs.Ytodihhokodnmkaa
open Go.RowKit
set_option linter.unusedVariables false

theorem of_circle (n : Nat) (h : n < 3600000000) : ∃ p q : Int, ofR (n : Int) 3600000000 = (p, q, 0) ∧ okI p q ∧ vI p q = mkRat (n : Int) 3600000000 := by
  have hb := mkRat_unit (n : Int) 3600000000 (by decide) (by omega) (by omega)
  have e : ofR (n : Int) 3600000000 = canon (mkRat (n : Int) 3600000000) := by
    unfold ofR
    rw [if_neg (by decide), if_neg (by decide), show ((n : Int) % 3600000000).toNat = n by omega]
    exact lowR_canon n 3600000000 (by decide)
  have hd : (mkRat (n : Int) 3600000000).den ≤ 4294967296 := by
    rw [Rat.den_mkRat]
    split
    · decide
    · exact Nat.le_trans (Nat.div_le_self _ _) (by decide)
  obtain ⟨o, v⟩ := canon_ok hb.1 hb.2 hd
  refine ⟨_, _, ?_, o, v⟩
  rw [e]
  rcases canon_cases (mkRat (n : Int) 3600000000) with ⟨c, _⟩ | ⟨_, c⟩
  · exact c
  · exact absurd hd c

theorem times_told {p q : Int} (h : okI p q) (n : Int) : ∃ x y : Int, timesR p q n = (x, y, 0) ∧ okI x y ∧ vI x y = frac ((n : Rat) * vI p q) := by
  have hb := frac_bounds ((n : Rat) * vI p q)
  have hd := times_den h n
  obtain ⟨o, v⟩ := canon_ok hb.1 hb.2 hd
  refine ⟨_, _, ?_, o, v⟩
  rw [timesR_canon h n]
  rcases canon_cases (frac ((n : Rat) * vI p q)) with ⟨c, _⟩ | ⟨_, c⟩
  · exact c
  · exact absurd hd c

theorem circle_sum (b s f n : Nat) : mkRat ((b + f * s : Nat) : Int) 3600000000 + (((n : Nat) : Int) : Rat) * mkRat ((s : Nat) : Int) 3600000000 = mkRat ((b + (f + n) * s : Nat) : Int) 3600000000 := by
  rw [Rat.mkRat_eq_div, Rat.mkRat_eq_div, Rat.mkRat_eq_div, Rat.div_def, Rat.div_def, Rat.div_def]
  generalize (((3600000000 : Nat) : Rat))⁻¹ = c
  have e : (((b + (f + n) * s : Nat) : Int) : Rat) = (((b + f * s : Nat) : Int) : Rat) + (((n : Nat) : Int) : Rat) * (((s : Nat) : Int) : Rat) := by
    rw [← Rat.intCast_mul, ← Rat.intCast_add]
    congr 1
    rw [Nat.add_mul, ← Nat.add_assoc]
    simp
  rw [e]
  grind

theorem agU_v (k t : Nat) : mkRat (agU k t : Int) 3600000000 = frac (mkRat ((agB k + t * agS k : Nat) : Int) 3600000000) := by
  rw [← mkRat_mod _ _ (by decide)]
  rfl

/-- From a tick to a later one an angle goes on by as many of its speeds. -/
theorem ag_goes (k f n : Nat) : ∃ a1 a2 b1 b2 s1 s2 w1 w2 : Int, agA k f = (a1, a2, 0) ∧ agA k (f + n) = (b1, b2, 0) ∧ agV k = (s1, s2, 0) ∧ timesR s1 s2 (n : Int) = (w1, w2, 0) ∧ addR a1 a2 w1 w2 = (b1, b2, 0) ∧ okI a1 a2 ∧ okI b1 b2 ∧ okI s1 s2 ∧ okI w1 w2 := by
  obtain ⟨a1, a2, ha, oa, va⟩ := of_circle (agU k f) (agU_lt k f)
  obtain ⟨b1, b2, hb, ob, vb⟩ := of_circle (agU k (f + n)) (agU_lt k (f + n))
  obtain ⟨s1, s2, hs, os, vs⟩ := of_circle (agS k) (by have := (ag_small k).2; omega)
  obtain ⟨w1, w2, hw, ow, vw⟩ := times_told os (n : Int)
  refine ⟨a1, a2, b1, b2, s1, s2, w1, w2, ha, hb, hs, hw, ?_, oa, ob, os, ow⟩
  rw [addR_canon oa ow, va, vw, vs, frac_add_frac, agU_v, frac_frac_add, circle_sum, ← agU_v, ← vb, canon_vI ob]
end Go.Proofs.Ytodihhokodnmkaa

/- Turns of a circle of 3,600,000,000 units: sums, differences, opposites and multiples of what so many units make. No program. -/
namespace Go.Proofs.Ytodihhokodnmkaa
open Go.RowKit
set_option linter.unusedVariables false

/-- The turn of so many units. -/
def circ (z : Int) : Int × Int × Int := ofR z 3600000000

theorem circ_mod (z : Int) : circ (z % 3600000000) = circ z := by
  unfold circ ofR
  rw [if_neg (by decide), if_neg (by decide), if_neg (by decide), if_neg (by decide), Int.emod_emod]
theorem circ_add (z k : Int) : circ (z + k * 3600000000) = circ z := by
  rw [← circ_mod (z + k * 3600000000), ← circ_mod z, Int.add_mul_emod_self_right]

theorem circ_told (z : Int) : ∃ p q : Int, circ z = (p, q, 0) ∧ okI p q ∧ vI p q = frac (mkRat z 3600000000) := by
  obtain ⟨n, hn⟩ := Int.eq_ofNat_of_zero_le (Int.emod_nonneg z (show (3600000000 : Int) ≠ 0 by decide))
  have hl : z % 3600000000 < 3600000000 := Int.emod_lt_of_pos _ (by decide)
  obtain ⟨p, q, e, o, v⟩ := of_circle n (by omega)
  refine ⟨p, q, ?_, o, ?_⟩
  · rw [← circ_mod, hn]; exact e
  · rw [v, ← hn]; exact mkRat_mod z 3600000000 (by decide)

theorem circ_unique {z p q : Int} (o : okI p q) (v : vI p q = frac (mkRat z 3600000000)) : circ z = (p, q, 0) := by
  obtain ⟨p', q', e, o', v'⟩ := circ_told z
  rw [e, ← canon_vI o', ← canon_vI o, v, v']

theorem frac_idem (x : Rat) : frac (frac x) = frac x := frac_self (frac_bounds x).1 (frac_bounds x).2
theorem frac_mul_int (n : Int) (x : Rat) : frac ((n : Rat) * frac x) = frac ((n : Rat) * x) := by
  have e : (n : Rat) * x = (n : Rat) * frac x + ((n * x.floor : Int) : Rat) := by
    unfold frac; rw [Rat.intCast_mul]; grind
  rw [e, frac_add_int]
theorem frac_neg_frac (x : Rat) : frac (-(frac x)) = frac (-x) := by
  have e : -x = -(frac x) + ((-x.floor : Int) : Rat) := by
    unfold frac; rw [Rat.intCast_neg]; grind
  rw [e, frac_add_int]

theorem mkRat_sum (a b : Int) : mkRat a 3600000000 + mkRat b 3600000000 = mkRat (a + b) 3600000000 := by
  rw [Rat.mkRat_eq_div, Rat.mkRat_eq_div, Rat.mkRat_eq_div, Rat.div_def, Rat.div_def, Rat.div_def, Rat.intCast_add]
  grind
theorem mkRat_times (n a : Int) : (n : Rat) * mkRat a 3600000000 = mkRat (n * a) 3600000000 := by
  rw [Rat.mkRat_eq_div, Rat.mkRat_eq_div, Rat.div_def, Rat.div_def, Rat.intCast_mul]
  grind

theorem add_circ {a b p q r s : Int} (h : circ a = (p, q, 0)) (g : circ b = (r, s, 0)) : addR p q r s = circ (a + b) := by
  obtain ⟨p', q', e, o, v⟩ := circ_told a
  obtain ⟨r', s', f, o2, v2⟩ := circ_told b
  rw [e] at h; rw [f] at g
  cases h; cases g
  obtain ⟨x, y, e3, o3, v3⟩ := circ_told (a + b)
  rw [addR_canon o o2, v, v2, frac_frac_add, frac_add_frac, mkRat_sum, ← v3, canon_vI o3, e3]
theorem times_circ {a p q : Int} (n : Int) (h : circ a = (p, q, 0)) : timesR p q n = circ (n * a) := by
  obtain ⟨p', q', e, o, v⟩ := circ_told a
  rw [e] at h
  cases h
  obtain ⟨x, y, e3, o3, v3⟩ := circ_told (n * a)
  rw [timesR_canon o n, v, frac_mul_int, mkRat_times, ← v3, canon_vI o3, e3]
theorem neg_circ {a p q : Int} (h : circ a = (p, q, 0)) : negR p q = circ (-a) := by
  obtain ⟨p', q', e, o, v⟩ := circ_told a
  rw [e] at h
  cases h
  refine (by unfold negR; rw [if_pos o] : negR p q = _).trans (circ_unique (gcd_back o) ?_).symm
  rw [vI_neg o, v, frac_neg_frac, Rat.neg_mkRat]
theorem sub_circ {a b p q r s : Int} (h : circ a = (p, q, 0)) (g : circ b = (r, s, 0)) : subR p q r s = circ (a - b) := by
  obtain ⟨p', q', e, o, v⟩ := circ_told a
  obtain ⟨r', s', f, o2, v2⟩ := circ_told b
  rw [e] at h; rw [f] at g
  cases h; cases g
  have hn : circ (-b) = ((-r) % s, s, 0) := by rw [← neg_circ f]; unfold negR; rw [if_pos o2]
  unfold subR
  rw [if_pos ⟨o, o2⟩, add_circ e hn]
  rfl

theorem dok_in {p q : Int} (h : okI p q) : in64 p q := by
  obtain ⟨a, b, c, d, _⟩ := h
  exact ⟨⟨by omega, by omega⟩, by omega, by omega⟩

/-- So many of each angle, added up. -/
def dS (d : Nat → Int) (u : Nat → Int) : Nat → Int
  | 0 => 0
  | k + 1 => dS d u k + d k * u k
theorem dS_add (d e u : Nat → Int) (k : Nat) : dS (fun j => d j + e j) u k = dS d u k + dS e u k := by
  induction k with
  | zero => rfl
  | succ k ih => unfold dS; rw [ih, Int.add_mul]; omega
theorem dS_sub (d e u : Nat → Int) (k : Nat) : dS (fun j => d j - e j) u k = dS d u k - dS e u k := by
  induction k with
  | zero => rfl
  | succ k ih => unfold dS; rw [ih, Int.sub_mul]; omega
theorem dS_neg (d u : Nat → Int) (k : Nat) : dS (fun j => 0 - d j) u k = -dS d u k := by
  induction k with
  | zero => rfl
  | succ k ih => unfold dS; rw [ih, Int.sub_mul, Int.zero_mul]; omega
theorem dS_congr {d e u : Nat → Int} (k : Nat) (h : ∀ j, j < k → d j = e j) : dS d u k = dS e u k := by
  induction k with
  | zero => rfl
  | succ k ih => unfold dS; rw [ih (fun j hj => h j (by omega)), h k (by omega)]
/-- Angles that stand on the circle as those others do. -/
theorem dS_mod {d u v : Nat → Int} (k : Nat) (h : ∀ j, j < k → ∃ z : Int, u j = v j + z * 3600000000) : ∃ z : Int, dS d u k = dS d v k + z * 3600000000 := by
  induction k with
  | zero => exact ⟨0, rfl⟩
  | succ k ih =>
    obtain ⟨z, hz⟩ := ih (fun j hj => h j (by omega))
    obtain ⟨y, hy⟩ := h k (by omega)
    refine ⟨z + d k * y, ?_⟩
    unfold dS
    rw [hz, hy, Int.mul_add, Int.add_mul, Int.mul_assoc]
    omega
theorem dS_two (d u v : Nat → Int) (k : Nat) : dS d (fun j => u j + v j) k = dS d u k + dS d v k := by
  induction k with
  | zero => rfl
  | succ k ih => unfold dS; rw [ih, Int.mul_add]; omega
end Go.Proofs.Ytodihhokodnmkaa

/- package nodal: turns of 3,600,000ths added; refuse, ahead. -/
namespace Go.Proofs.Ytodihhokodnmkaa
open Go.RowKit
set_option linter.unusedVariables false

theorem of_canon (n : Int) (q : Nat) (h0 : 0 < q) (hq : q ≤ 4294967296) : ofR n (q : Int) = canon (frac (mkRat n q)) := by
  have h1 := Int.emod_nonneg n (show (q : Int) ≠ 0 by omega)
  unfold ofR
  rw [if_neg (by omega), if_neg (by omega), show ((q : Int)).toNat = q by omega, lowR_canon _ _ h0]
  rw [← mkRat_mod n q h0, Int.toNat_of_nonneg h1]
theorem of_circ (n : Int) : ofR n 3600000 = circ (n * 1000) := by
  rw [show (3600000 : Int) = ((3600000 : Nat) : Int) from rfl, of_canon n 3600000 (by decide) (by decide)]
  unfold circ
  rw [show (3600000000 : Int) = ((3600000000 : Nat) : Int) from rfl, of_canon (n * 1000) 3600000000 (by decide) (by decide)]
  rw [show mkRat n 3600000 = mkRat (n * 1000) 3600000000 from (Rat.mkRat_mul_right (a := 1000) (n := n) (d := 3600000) (by decide)).symm]
theorem of_add {m n p q r s : Int} (h : ofR m 3600000 = (p, q, 0)) (g : ofR n 3600000 = (r, s, 0)) : addR p q r s = ofR (m + n) 3600000 := by
  rw [of_circ] at h g
  rw [add_circ h g, of_circ, Int.add_mul]
theorem of_in64 (m : Int) {p q : Int} (h : ofR m 3600000 = (p, q, 0)) : in64 p q := by
  obtain ⟨a, b, g, o1, o2, o3, o4, o5⟩ := of_parts m
  rw [o1] at h
  cases h
  have hb : b ≤ 3600000 := by
    have g0 : 0 < g := by
      by_cases hz : g = 0
      · subst hz; omega
      · omega
    rw [← o2]; exact Nat.le_mul_of_pos_right _ g0
  exact ⟨⟨by omega, by omega⟩, by omega, by omega⟩

set_option maxHeartbeats 800000 in
set_option maxRecDepth 100000 in
theorem ndrefuse_any (e i : Int) (w : World) :
    Calls Try.prog 29 #[.int .i64 e, .int .i64 i] w fun x w' => x = .returned (.tuple #[.float .f64 0, .agg #[.int .i64 0, .int .i64 0], .agg #[.int .i64 e, .int .i64 i]]) ∧ Below w.heap.size w w' := by
  have HX := hid (boxes2t w 31 35 #[.int .i64 0, .int .i64 0] #[.int .i64 e, .int .i64 i])
  obtain ⟨c0, c1, f0, f1⟩ := fbox_facts HX.out.1 (Below.refl _ _)
  obtain ⟨d0, d1, g0, g1⟩ := fbox_facts HX.out.2.1 (Below.refl _ _)
  go_enter Try.func29, Try.ntmps29
  go_wp2_with fail
  refine bodyPost_ret (v := Value.tuple #[.float .f64 0, .agg #[.int .i64 0, .int .i64 0], .agg #[.int .i64 e, .int .i64 i]]) (by simp [results, Try.results29, go_sem, c0, c1, d0, d1]) rfl ?_
  exact ⟨rfl, HX.out.2.2⟩
/-- Three boxes of three types. -/
theorem boxes3t (w : World) (t t' t'' : Nat) (u v z : Array Value) : FBox (((w.alloc (.cells u t)).alloc (.cells v t')).alloc (.cells z t'')) w.heap.size t u ∧ FBox (((w.alloc (.cells u t)).alloc (.cells v t')).alloc (.cells z t'')) (w.heap.size + 1) t' v ∧ FBox (((w.alloc (.cells u t)).alloc (.cells v t')).alloc (.cells z t'')) (w.heap.size + 1 + 1) t'' z ∧ Below w.heap.size w (((w.alloc (.cells u t)).alloc (.cells v t')).alloc (.cells z t'')) := by
  have a := boxes2t w t t' u v
  have b := boxes1 ((w.alloc (.cells u t)).alloc (.cells v t')) t'' z
  have es : ((w.alloc (.cells u t)).alloc (.cells v t')).heap.size = w.heap.size + 1 + 1 := by rw [World.size_alloc, World.size_alloc]
  exact ⟨a.1.later b.2 a.1.lt, a.2.1.later b.2 a.2.1.lt, es ▸ b.1, b2 a.2.2 b.2⟩

set_option maxHeartbeats 1600000 in
set_option maxRecDepth 100000 in
theorem ndahead_any (b s c re im : Nat) (m n p q : Int) (w : World) (hm : ofR m 3600000 = (p, q, 0))
    (HT : Hid (∀ V, Calls Try.prog 27 #[.agg #[.float .f64 b, .float .f64 s, .float .f64 c], .complex .f64 re im] V fun e w' => e = .returned (tV (ofR n 3600000)) ∧ Below V.heap.size V w')) :
    Calls Try.prog 31 #[.agg #[.float .f64 b, .float .f64 s, .float .f64 c], .agg #[.int .i64 p, .int .i64 q], .complex .f64 re im] w fun e w' => e = .returned (tV (ofR (m + n) 3600000)) ∧ Below w.heap.size w w' := by
  obtain ⟨r, s', g, o1, -⟩ := of_parts n
  have HA := hid (fun V => tadd_any p q r s' V (of_in64 m hm) (of_in64 n o1))
  rw [of_add hm o1] at HA
  rw [o1] at HT
  obtain ⟨x, y, z, o2, -⟩ := of_parts (m + n)
  rw [o2] at HA ⊢
  rw [show ∀ a b c, tV (a, b, c) = Value.tuple #[.agg #[.int .i64 a, .int .i64 b], .int .i64 c] from fun _ _ _ => rfl] at *
  have HX := hid (boxes3t w 49 31 31 #[.float .f64 b, .float .f64 s, .float .f64 c] #[.int .i64 p, .int .i64 q] #[.int .i64 0, .int .i64 0])
  obtain ⟨c0, c1, c2, f0, f1, f2⟩ := box3 HX.out.1 (Below.refl _ _)
  clear o1 o2 hm
  go_enter Try.func31, Try.ntmps31
  go_wp2_with fail
  generalize (((w.alloc (.cells #[.float .f64 b, .float .f64 s, .float .f64 c] 49)).alloc (.cells #[.int .i64 p, .int .i64 q] 31)).alloc (.cells #[.int .i64 0, .int .i64 0] 31)) = X at *
  refine Calls.mono (HT.out _) ?_
  rintro e w1 ⟨rfl, hb1⟩
  have hy := boxes1 w1 31 #[.int .i64 (r : Int), .int .i64 (s' : Int)]
  obtain ⟨d0, d1, g0, g1⟩ := fbox_facts HX.out.2.1 (b2 hb1 hy.2)
  obtain ⟨y0, y1, h0, h1⟩ := fbox_facts hy.1 (Below.refl _ _)
  have HB1 := hid (b2 hb1 hy.2)
  clear hb1 hy c0 c1 c2 f0 f1 f2 HT
  go_wp2_with fail
  generalize w1.alloc (.cells #[.int .i64 (r : Int), .int .i64 (s' : Int)] 31) = Y at *
  refine Calls.mono (HA.out _) ?_
  rintro e w2 ⟨rfl, hb2⟩
  obtain ⟨k0, k1, l0, l1⟩ := fbox_facts HX.out.2.2.1 (b2 HB1.out hb2)
  have HB2 := hid (b2 HX.out.2.2.2 (b2 HB1.out hb2))
  clear hb2 HX HB1 HA d0 d1 g0 g1 y0 y1 h0 h1
  go_wp2_with fail
  refine bodyPost_ret (v := Value.tuple #[.agg #[.int .i64 (x : Int), .int .i64 (y : Int)], .int .i64 0]) (by simp [results, Try.results31, go_sem, k0, k1]) rfl ?_
  exact ⟨rfl, fput2 HB2.out _ (by omega) _ _⟩
end Go.Proofs.Ytodihhokodnmkaa

/- package nodal: Times, of every list of names and every tick. -/
namespace Go.Proofs.Ytodihhokodnmkaa
open Go.RowKit
set_option linter.unusedVariables false

/-- What each row makes of the node's number: its factor, its units. -/
structure NdV (re im : Nat) (F : Nat → Nat) (N : Nat → Int) : Prop where
  fac : ∀ k, k < 7 → ∃ p, floatBits .mul .f64 (ndS k) re = some p ∧ floatBits .add .f64 p (ndB k) = some (F k) ∧ In 1024 562949953421312 1688849860263936 (F k) ∧ (k = 1 → In 1024 1125899906842624 1125899906842624 (F k))
  turn : ∀ k, k < 7 → ∃ u v, floatBits .mul .f64 (ndC k) im = some u ∧ Fi u ∧ FloatKind.f64.encode ((FloatKind.f64.decode u).integral .even) = v ∧ floatToIntVal .f64 v .i64 = some (N k) ∧ RI u (N k) ∧ (N k).natAbs ≤ 237000 ∧ (k = 1 ∨ k = 6 → N k = 0)
theorem nd_vals {re im : Nat} (hr : Unit1 re) (hi : Unit1 im) : ∃ F N, NdV re im F N := by
  have h1 : ∀ k, ∃ f, k < 7 → ∃ p, floatBits .mul .f64 (ndS k) re = some p ∧ floatBits .add .f64 p (ndB k) = some f ∧ In 1024 562949953421312 1688849860263936 f ∧ (k = 1 → In 1024 1125899906842624 1125899906842624 f) := by
    intro k
    by_cases hk : k < 7
    · obtain ⟨p, f, h⟩ := fac_ex hr hk
      exact ⟨f, fun _ => ⟨p, h⟩⟩
    · exact ⟨0, fun h => absurd h hk⟩
  have h2 : ∀ k, ∃ n : Int, k < 7 → ∃ u v, floatBits .mul .f64 (ndC k) im = some u ∧ Fi u ∧ FloatKind.f64.encode ((FloatKind.f64.decode u).integral .even) = v ∧ floatToIntVal .f64 v .i64 = some n ∧ RI u n ∧ n.natAbs ≤ 237000 ∧ (k = 1 ∨ k = 6 → n = 0) := by
    intro k
    by_cases hk : k < 7
    · obtain ⟨u, v, n, h⟩ := un_ex hi hk
      exact ⟨n, fun _ => ⟨u, v, h⟩⟩
    · exact ⟨0, fun h => absurd h hk⟩
  obtain ⟨F, hF⟩ := Classical.axiomOfChoice h1
  obtain ⟨N, hN⟩ := Classical.axiomOfChoice h2
  exact ⟨F, N, hF, hN⟩

/-- The product of the first factors, the sum of the first units. -/
def ndPr (F : Nat → Nat) (K : Nat → Nat) : Nat → Nat
  | 0 => 4607182418800017408
  | j + 1 => (floatBits .mul .f64 (ndPr F K j) (F (K j))).getD 0
def ndSm (N : Nat → Int) (K : Nat → Nat) : Nat → Int
  | 0 => 0
  | j + 1 => ndSm N K j + N (K j)
theorem In.coarse {x : Nat} {a b c d : Int} (h : In 1024 a b x) (h1 : c * 1024 ≤ a) (h2 : b ≤ d * 1024) : In 1034 c d x := by
  obtain ⟨f, g1, g2⟩ := h
  obtain ⟨E, hE⟩ : ∃ E, E = 1024 := ⟨_, rfl⟩
  have e : 2 ^ 1034 = 1024 * 2 ^ E := by rw [show 1034 = 10 + E by omega, Nat.pow_add]
  unfold In
  rw [e]
  rw [← hE] at g1 g2
  have hp : (0 : Int) ≤ ((2 ^ E : Nat) : Int) := Int.natCast_nonneg _
  generalize 2 ^ E = P at *
  have m1 := Int.mul_le_mul_of_nonneg_right h1 hp
  have m2 := Int.mul_le_mul_of_nonneg_right h2 hp
  refine ⟨f, ?_, ?_⟩
  · rw [Int.natCast_mul, ← Int.mul_assoc]; exact Int.le_trans m1 g1
  · rw [Int.natCast_mul, ← Int.mul_assoc]; exact Int.le_trans g2 m2
theorem pow_split (a b c : Nat) (h : a + b = c) : ((2 ^ a : Nat) : Int) * ((2 ^ b : Nat) : Int) = ((2 ^ c : Nat) : Int) := by
  rw [← Int.natCast_mul, ← Nat.pow_add, h]
/-- Each product is a float, and the next one is made of it. -/
theorem ndPr_in {re im : Nat} {F : Nat → Nat} {N : Nat → Int} (h : NdV re im F N) {K : Nat → Nat} {n : Nat} (hK : ∀ j, j < n → K j < 7) : ∀ j, j ≤ n → j ≤ 9 → In 1034 ((2 ^ (40 - j) : Nat) : Int) ((2 ^ (40 + j) : Nat) : Int) (ndPr F K j)
  | 0, _, _ => one_in.coarse (by decide) (by decide)
  | j + 1, hj, h9 => by
    have ih := ndPr_in h hK j (by omega) (by omega)
    obtain ⟨p, f1, f2, f3, -⟩ := h.fac (K j) (hK j (by omega))
    have fi : In 1034 ((2 ^ 39 : Nat) : Int) ((2 ^ 41 : Nat) : Int) (F (K j)) := f3.coarse (by decide) (by decide)
    obtain ⟨r, hr⟩ := fn_ex .mul (ndPr F K j) (F (K j))
    have p1 := Nat.two_pow_pos (40 - j)
    have p3 : 2 ^ (40 - (j + 1)) ≤ 2 ^ (40 - j) := Nat.pow_le_pow_right (by decide) (by omega)
    have p4 : 2 ^ (40 - j) ≤ 2 ^ (40 + j) := Nat.pow_le_pow_right (by decide) (by omega)
    have p5 : 2 ^ (40 + (j + 1)) ≤ 2 ^ 49 := Nat.pow_le_pow_right (by decide) (by omega)
    have q1 := pow_split (40 - j) 39 (79 - j) (by omega)
    have q2 := pow_split (40 - j) 41 (81 - j) (by omega)
    have q3 := pow_split (40 + j) 39 (79 + j) (by omega)
    have q4 := pow_split (40 + j) 41 (81 + j) (by omega)
    have s1 := pow_split (40 - (j + 1)) 40 (79 - j) (by omega)
    have s2 := pow_split (40 + (j + 1)) 40 (81 + j) (by omega)
    have mono : ∀ a b : Nat, a ≤ b → ((2 ^ a : Nat) : Int) ≤ ((2 ^ b : Nat) : Int) := fun a b hab => Int.ofNat_le.2 (Nat.pow_le_pow_right (by decide) hab)
    have ir : In 1034 ((2 ^ (40 - (j + 1)) : Nat) : Int) ((2 ^ (40 + (j + 1)) : Nat) : Int) r := by
      refine In.mul ih fi hr (s := 40) (by decide) (by decide) (by decide) ?_ ?_ ?_ ?_ ?_ ?_ ?_ ?_ ?_ ?_
      · have := Int.natCast_nonneg (2 ^ (40 - (j + 1))); omega
      · have h49 : (2 : Nat) ^ 49 = 562949953421312 := by decide
        rw [h49] at p5
        have := Int.ofNat_le.2 p5
        exact Int.le_trans this (by decide)
      · rw [s1, q1]; exact Int.le_refl _
      · rw [s1, q2]; exact mono _ _ (by omega)
      · rw [s1, q3]; exact mono _ _ (by omega)
      · rw [s1, q4]; exact mono _ _ (by omega)
      · rw [s2, q1]; exact mono _ _ (by omega)
      · rw [s2, q2]; exact mono _ _ (by omega)
      · rw [s2, q3]; exact mono _ _ (by omega)
      · rw [s2, q4]; exact Int.le_refl _
    have e : ndPr F K (j + 1) = r := by
      show (floatBits .mul .f64 (ndPr F K j) (F (K j))).getD 0 = r
      rw [hr.fin ir.1]; rfl
    rw [e]; exact ir
theorem ndPr_step {re im : Nat} {F : Nat → Nat} {N : Nat → Int} (h : NdV re im F N) {K : Nat → Nat} {n : Nat} (hK : ∀ j, j < n → K j < 7) {j : Nat} (hj : j < n) (h8 : j ≤ 8) : floatBits .mul .f64 (ndPr F K j) (F (K j)) = some (ndPr F K (j + 1)) := by
  have i1 := ndPr_in h hK (j + 1) hj (by omega)
  obtain ⟨r, hr⟩ := fn_ex .mul (ndPr F K j) (F (K j))
  have e : ndPr F K (j + 1) = (floatBits .mul .f64 (ndPr F K j) (F (K j))).getD 0 := rfl
  cases hb : floatBits .mul .f64 (ndPr F K j) (F (K j)) with
  | some r => rw [hb] at e; rw [e]; rfl
  | none =>
    exfalso
    rw [hb] at e
    rw [e] at i1
    have h0 := i1.2.1
    rw [show sv ((none : Option Nat).getD 0) = 0 by decide] at h0
    have := Int.mul_pos (show (0 : Int) < ((2 ^ (40 - (j + 1)) : Nat) : Int) by have := Nat.two_pow_pos (40 - (j + 1)); omega) (show (0 : Int) < ((2 ^ 1034 : Nat) : Int) by have := Nat.two_pow_pos 1034; generalize 2 ^ 1034 = Q at *; omega)
    omega

/-- A slice of texts that may be read. -/
def RdT (w : World) (a : Option Addr) (n : Nat) (nm : Nat → ByteArray) : Prop := n = 0 ∨ ∃ b o, a = some ⟨b, o, none⟩ ∧ b < w.heap.size ∧ ∀ j, j < n → w.cell? ⟨b, o + j, none⟩ = some (.string (nm j))
theorem RdT.later {w w' : World} {a : Option Addr} {n : Nat} {nm : Nat → ByteArray} (h : RdT w a n nm) (hb : Below w.heap.size w w') : RdT w' a n nm := by
  rcases h with h | ⟨b, o, h1, h2, h3⟩
  · exact .inl h
  · exact .inr ⟨b, o, h1, Nat.lt_of_lt_of_le h2 hb.size, fun j hj => (hb.cell (p := ⟨b, o + j, none⟩) h2).trans (h3 j hj)⟩

set_option maxHeartbeats 1600000 in
set_option maxRecDepth 100000 in
theorem ndTimes_long (a : Option Addr) (n cap : Nat) (t : Int) (w : World) (hn : 8 < n) :
    Calls Try.prog 11 #[.slice a n cap, .int .i64 t] w fun x w' => x = .returned (.tuple #[.float .f64 0, .agg #[.int .i64 0, .int .i64 0], .agg #[.int .i64 3, .int .i64 (-1)]]) ∧ Below w.heap.size w w' := by
  have HR := hid (fun V => ndrefuse_any 3 (-1) V)
  have HX := hid (boxes2t w 31 35 #[.int .i64 0, .int .i64 0] #[.int .i64 0, .int .i64 0])
  have h1 : (8 : Int) < (n : Int) := by omega
  go_enter Try.func11, Try.ntmps11
  go_wp2_with fail
  generalize ((w.alloc (.cells #[.int .i64 0, .int .i64 0] 31)).alloc (.cells #[.int .i64 0, .int .i64 0] 35)) = X at *
  refine Calls.mono (HR.out _) ?_
  rintro e w1 ⟨rfl, hb1⟩
  obtain ⟨c0, c1, f0, f1⟩ := fbox_facts HX.out.1 hb1
  obtain ⟨d0, d1, g0, g1⟩ := fbox_facts HX.out.2.1 hb1
  have HB := hid (b2 HX.out.2.2 hb1)
  clear hb1 HX HR
  go_wp2_with fail
  refine bodyPost_ret (v := Value.tuple #[.float .f64 0, .agg #[.int .i64 0, .int .i64 0], .agg #[.int .i64 3, .int .i64 (-1)]]) (by simp [results, Try.results11, go_sem, c0, c1, d0, d1]) rfl ?_
  exact ⟨rfl, by first | exact fput2 (fput2 HB.out _ (by omega) _ _) _ (by omega) _ _ | exact fput2 HB.out _ (by omega) _ _⟩
set_option maxHeartbeats 1600000 in
set_option maxRecDepth 100000 in
theorem ndTimes_tick (a : Option Addr) (n cap : Nat) (t : Int) (w : World) (hn : n ≤ 8) (HN : Hid (∀ V, Calls Try.prog 5 #[.int .i64 t] V fun e w' => e = .returned (.tuple #[.complex .f64 0 0, .int .i64 2]) ∧ Below V.heap.size V w')) :
    Calls Try.prog 11 #[.slice a n cap, .int .i64 t] w fun x w' => x = .returned (.tuple #[.float .f64 0, .agg #[.int .i64 0, .int .i64 0], .agg #[.int .i64 2, .int .i64 (-1)]]) ∧ Below w.heap.size w w' := by
  have HR := hid (fun V => ndrefuse_any 2 (-1) V)
  have HX := hid (boxes2t w 31 35 #[.int .i64 0, .int .i64 0] #[.int .i64 0, .int .i64 0])
  have h1 : ¬ (8 : Int) < (n : Int) := by omega
  clear hn
  go_enter Try.func11, Try.ntmps11
  go_wp2_with fail
  generalize ((w.alloc (.cells #[.int .i64 0, .int .i64 0] 31)).alloc (.cells #[.int .i64 0, .int .i64 0] 35)) = X at *
  refine Calls.mono (HN.out _) ?_
  rintro e w0 ⟨rfl, hb0⟩
  go_wp2_with fail
  refine Calls.mono (HR.out _) ?_
  rintro e w1 ⟨rfl, hb1⟩
  obtain ⟨c0, c1, f0, f1⟩ := fbox_facts HX.out.1 (b2 hb0 hb1)
  obtain ⟨d0, d1, g0, g1⟩ := fbox_facts HX.out.2.1 (b2 hb0 hb1)
  have HB := hid (b2 HX.out.2.2 (b2 hb0 hb1))
  clear hb0 hb1 HX HR HN
  go_wp2_with fail
  refine bodyPost_ret (v := Value.tuple #[.float .f64 0, .agg #[.int .i64 0, .int .i64 0], .agg #[.int .i64 2, .int .i64 (-1)]]) (by simp [results, Try.results11, go_sem, c0, c1, d0, d1]) rfl ?_
  exact ⟨rfl, by first | exact fput2 (fput2 HB.out _ (by omega) _ _) _ (by omega) _ _ | exact fput2 HB.out _ (by omega) _ _⟩
set_option maxHeartbeats 3200000 in
set_option maxRecDepth 100000 in
theorem ndTimes_some (bb oo : Nat) (n cap : Nat) (t : Int) (w : World) (re im : Nat) (F : Nat → Nat) (N : Nat → Int) (nm : Nat → ByteArray) (K : Nat → Nat) (m : Nat) (R : Value) (hn : n ≤ 8) (hm : m ≤ n) (hlt : bb < w.heap.size) (hw : ∀ j, j < n → w.cell? ⟨bb, oo + j, none⟩ = some (.string (nm j))) (hcap : n ≤ cap)
    (hv : NdV re im F N) (hg : ∀ j, j < m → ndK (nm j).toList = some (K j) ∧ K j < 7) (hb : m < n → ndK (nm m).toList = none)
    (hr1 : m = n → ∃ p q, ofR (ndSm N K n) 3600000 = (p, q, 0) ∧ R = .tuple #[.float .f64 (ndPr F K n), .agg #[.int .i64 p, .int .i64 q], .agg #[.int .i64 0, .int .i64 0]])
    (hr2 : m < n → R = .tuple #[.float .f64 0, .agg #[.int .i64 0, .int .i64 0], .agg #[.int .i64 6, .int .i64 (m : Int)]])
    (HN : Hid (∀ V, Calls Try.prog 5 #[.int .i64 t] V fun e w' => e = .returned (.tuple #[.complex .f64 re im, .int .i64 0]) ∧ Below V.heap.size V w')) :
    Calls Try.prog 11 #[.slice (some ⟨bb, oo, none⟩) n cap, .int .i64 t] w fun x w' => x = .returned R ∧ Below w.heap.size w w' := by
  have HRf := hid (fun V => ndrefuse_any 6 (m : Int) V)
  have HX := hid (boxes2t w 31 35 #[.int .i64 0, .int .i64 0] #[.int .i64 0, .int .i64 0])
  have h1 : ¬ (8 : Int) < (n : Int) := by omega
  have HW : Hid (∀ V, Below w.heap.size w V → ∀ j, j < n → V.cell? ⟨bb, oo + j, none⟩ = some (.string (nm j))) := fun V hV j hj => (hV.cell (p := ⟨bb, oo + j, none⟩) hlt).trans (hw j hj)
  have HR1 := hid hr1
  have HR2 := hid hr2
  have HG := hid hg
  have HBd := hid hb
  have HV := hid hv
  have HL : Hid (n ≤ 8 ∧ m ≤ n ∧ n ≤ cap) := ⟨hn, hm, hcap⟩
  clear hn hm hw hcap hv hg hb hr1 hr2 hlt
  go_enter Try.func11, Try.ntmps11
  go_wp2_with fail
  generalize ((w.alloc (.cells #[.int .i64 0, .int .i64 0] 31)).alloc (.cells #[.int .i64 0, .int .i64 0] 35)) = X at *
  refine Calls.mono (HN.out _) ?_
  rintro e w0 ⟨rfl, hb0⟩
  have hs := boxes1 w0 31 #[.int .i64 0, .int .i64 1]
  have HI : Hid (Below w.heap.size w (w0.alloc (.cells #[.int .i64 0, .int .i64 1] 31)) ∧ FBox (w0.alloc (.cells #[.int .i64 0, .int .i64 1] 31)) w.heap.size 31 #[.int .i64 0, .int .i64 0] ∧ FBox (w0.alloc (.cells #[.int .i64 0, .int .i64 1] 31)) (w.heap.size + 1) 35 #[.int .i64 0, .int .i64 0] ∧ FBox (w0.alloc (.cells #[.int .i64 0, .int .i64 1] 31)) w0.heap.size 31 #[.int .i64 0, .int .i64 1]) := ⟨b2 HX.out.2.2 (b2 hb0 hs.2), HX.out.1.later (b2 hb0 hs.2) HX.out.1.lt, HX.out.2.1.later (b2 hb0 hs.2) HX.out.2.1.lt, hs.1⟩
  have HS : Hid (w.heap.size + 1 < w0.heap.size) := by
    have := HX.out.2.1.lt
    have := hb0.size
    show _ < _; omega
  clear hb0 hs HX HN
  go_wp2_with fail
  go_loopw [37, 9] (fun i pr wr => ∃ k : Nat, ∃ p q : Int, k ≤ m ∧ i = .int .i64 (k : Int) ∧ pr = .float .f64 (ndPr F K k) ∧ Hid (ofR (ndSm N K k) 3600000 = (p, q, 0) ∧ Below w.heap.size w wr ∧ FBox wr w.heap.size 31 #[.int .i64 0, .int .i64 0] ∧ FBox wr (w.heap.size + 1) 35 #[.int .i64 0, .int .i64 0] ∧ FBox wr w0.heap.size 31 #[.int .i64 p, .int .i64 q])) (fun i _ _ => n - (intOf i).toNat)
  case atStart => exact ⟨0, 0, 1, by omega, rfl, rfl, ⟨of_zero, HI.out⟩⟩
  case round =>
    obtain ⟨k, p, q, hk, rfl, rfl, HC⟩ := hrel
    clear HI
    by_cases hkm : k < m
    · obtain ⟨g1, g2⟩ := HG.out k hkm
      have hkn : k < n := by have := HL.out; omega
      obtain ⟨pp, v1, v2, v3, -⟩ := HV.out.fac _ g2
      obtain ⟨u, v, u1, u2, u3, u4, u5, u6, -⟩ := HV.out.turn _ g2
      have HF := hid (fun V => ndfind_any (nm k) V)
      rw [g1] at HF
      have HFa := hid (fun V => ndfactor_any (ndB (K k)) (ndS (K k)) (ndC (K k)) re im pp (F (K k)) V v1 v2)
      have HAh := hid (fun V => ndahead_any (ndB (K k)) (ndS (K k)) (ndC (K k)) re im (ndSm N K k) (N (K k)) p q V HC.out.1 (hid fun V => ndturn_any _ _ _ re im u v (N (K k)) V u1 u2 u3 u4 ⟨by omega, by omega⟩))
      have hmul := ndPr_step HV.out (K := K) (n := m) (fun j hj => (HG.out j hj).2) hkm (by have := HL.out; omega)
      have rM : ∀ V, (binOp .mul 27 (.float .f64 (ndPr F K k)) (.float .f64 (F (K k)))).run Try.prog V = .ok (.float .f64 (ndPr F K (k + 1))) V := fun V => run_float_arith V _ _ _ _ _ _ hmul
      obtain ⟨x, y, z, o1, -⟩ := of_parts (ndSm N K k + N (K k))
      have HO : Hid (ofR (ndSm N K (k + 1)) 3600000 = ((x : Int), (y : Int), 0)) := o1
      rw [o1] at HAh
      rw [show ∀ a b c, tV (a, b, c) = Value.tuple #[.agg #[.int .i64 a, .int .i64 b], .int .i64 c] from fun _ _ _ => rfl] at HAh
      rw [show ndV (some (K k)) = Value.tuple #[.agg #[.float .f64 (ndB (K k)), .float .f64 (ndS (K k)), .float .f64 (ndC (K k))], .int .i64 0] from rfl] at HF
      have cn := HW.out wr HC.out.2.1 k hkn
      have j1 : (k : Int) < (n : Int) := by omega
      have j2 : n ≤ cap := HL.out.2.2
      clear g1 g2 v1 v2 v3 u1 u2 u3 u4 u5 u6 hmul o1
      generalize ndB (K k) = rb at *
      generalize ndS (K k) = rs at *
      generalize ndC (K k) = rc at *
      obtain ⟨pn, hpn⟩ : ∃ pn, pn = ndPr F K (k + 1) := ⟨_, rfl⟩
      rw [← hpn] at rM
      have HPN := hid hpn
      clear hpn
      generalize ndPr F K k = po at *
      generalize F (K k) = fk at *
      generalize nm k = nk at *
      go_wp2_with fail
      refine Calls.mono (HF.out _) ?_
      rintro e w1 ⟨rfl, hb1⟩
      obtain ⟨Y, Y1, Y2, Y3, r0, r1, r2, r3, ⟨d0, d1, d2⟩, k1, k2⟩ := newrow Try.prog w1 49 rb rs rc
      have HB1 := hid (b2 hb1 k2)
      have HY := hid k1
      clear hb1 k1 k2 HF cn
      go_wp2_with fail
      refine Calls.mono (HFa.out _) ?_
      rintro e w2 ⟨rfl, hb2⟩
      have hB2 := b2 HB1.out hb2
      obtain ⟨l0, l1, l2, -⟩ := box3 HY.out hb2
      have hsb := HC.out.2.2.2.2.later hB2 HC.out.2.2.2.2.lt
      have m0 : w2.cell? ⟨w0.heap.size, 0, none⟩ = some (.int .i64 p) := hsb.cell 0
      have m1 : w2.cell? ⟨w0.heap.size, 1, none⟩ = some (.int .i64 q) := hsb.cell 1
      have HB2 := hid hB2
      clear r0 r1 r2 r3 d0 d1 d2 hb2 HB1 HY hB2 hsb HFa
      go_wp2_with fail
      refine Calls.mono (HAh.out _) ?_
      rintro e w3 ⟨rfl, hb3⟩
      have hB3 := b2 HB2.out hb3
      have hsb := HC.out.2.2.2.2.later hB3 HC.out.2.2.2.2.lt
      obtain ⟨z0, z1, zf0, zf1⟩ := fbox_facts hsb (Below.refl _ _)
      have HB3 := hid hB3
      clear hb3 HB2 hB3 l0 l1 l2 m0 m1 HAh
      go_wp2_with fail
      have hS := HS.out
      have hb2' := b2 HC.out.2.1 HB3.out
      refine ⟨⟨k + 1, x, y, by omega, by go_num, by rw [HPN.out], ⟨HO.out, fput2 hb2' _ (by omega) _ _, ?_, ?_, (hsb.set 0 _).set 1 _⟩⟩, by simp [intOf]; omega⟩
      · exact ((HC.out.2.2.1.later HB3.out HC.out.2.2.1.lt).other _ _ (by show _ ≠ w0.heap.size; omega)).other _ _ (by show _ ≠ w0.heap.size; omega)
      · exact ((HC.out.2.2.2.1.later HB3.out HC.out.2.2.2.1.lt).other _ _ (by show _ ≠ w0.heap.size; omega)).other _ _ (by show _ ≠ w0.heap.size; omega)
    · obtain rfl : k = m := by omega
      by_cases hkn : k < n
      · have HF := hid (fun V => ndfind_any (nm k) V)
        rw [HBd.out hkn, show ndV none = Value.tuple #[.agg #[.float .f64 0, .float .f64 0, .float .f64 0], .int .i64 6] from rfl] at HF
        have HE := hid (HR2.out hkn)
        have cn := HW.out wr HC.out.2.1 k hkn
        have j1 : (k : Int) < (n : Int) := by omega
        have j2 : n ≤ cap := HL.out.2.2
        generalize ndPr F K k = po at *
        generalize nm k = nk at *
        clear HR1 HR2 HG HBd HV HW
        go_wp2_with fail
        refine Calls.mono (HF.out _) ?_
        rintro e w1 ⟨rfl, hb1⟩
        obtain ⟨Y, Y1, Y2, Y3, r0, r1, r2, r3, ⟨d0, d1, d2⟩, k1, k2⟩ := newrow Try.prog w1 49 0 0 0
        have HB1 := hid (b2 hb1 k2)
        clear hb1 k1 k2 HF cn
        go_wp2_with fail
        refine Calls.mono (HRf.out _) ?_
        rintro e w2 ⟨rfl, hb2⟩
        have hB2 := b2 HB1.out hb2
        obtain ⟨c0, c1, f0, f1⟩ := fbox_facts HC.out.2.2.1 hB2
        obtain ⟨e0, e1, g0, g1⟩ := fbox_facts HC.out.2.2.2.1 hB2
        have HB := hid (b2 HC.out.2.1 hB2)
        clear hb2 hB2 HB1 HRf r0 r1 r2 r3 d0 d1 d2
        go_wp2_with fail
        refine bodyPost_ret (v := Value.tuple #[.float .f64 0, .agg #[.int .i64 0, .int .i64 0], .agg #[.int .i64 6, .int .i64 (k : Int)]]) (by simp [results, Try.results11, go_sem, c0, c1, e0, e1]) rfl ?_
        exact ⟨by rw [HE.out], by first | exact fput2 (fput2 HB.out _ (by omega) _ _) _ (by omega) _ _ | exact fput2 HB.out _ (by omega) _ _⟩
      · obtain rfl : k = n := by have := HL.out; omega
        obtain ⟨p', q', o1, o2⟩ := HR1.out rfl
        have HE := hid o2
        have hpq := HC.out.1
        rw [o1] at hpq
        cases hpq
        obtain ⟨c0, c1, f0, f1⟩ := fbox_facts HC.out.2.2.1 (Below.refl _ _)
        obtain ⟨e0, e1, g0, g1⟩ := fbox_facts HC.out.2.2.2.1 (Below.refl _ _)
        obtain ⟨z0, z1, zf0, zf1⟩ := fbox_facts HC.out.2.2.2.2 (Below.refl _ _)
        have HB := hid HC.out.2.1
        have HCt : Hid (_ ∧ _) := ⟨HC.out.2.2.1, HC.out.2.2.2.1⟩
        have hS := HS.out
        have n1 : w.heap.size ≠ w0.heap.size := by omega
        have n2 : w.heap.size + 1 ≠ w0.heap.size := by omega
        clear o1 o2 HR1 HR2 HG HBd HV HW HC HL
        generalize ndPr F K k = po at *
        go_wp2_with fail
        have HU1 : Hid (FBox ((((wr.setCell ⟨w.heap.size, 0, none⟩ (.int .i64 p)).setCell ⟨w.heap.size, 1, none⟩ (.int .i64 q)).setCell ⟨w.heap.size + 1, 0, none⟩ (.int .i64 0)).setCell ⟨w.heap.size + 1, 1, none⟩ (.int .i64 0)) w.heap.size 31 #[.int .i64 p, .int .i64 q]) := (((HCt.out.1.set 0 (.int .i64 p)).set 1 (.int .i64 q)).other _ _ (by show _ ≠ w.heap.size + 1; omega)).other _ _ (by show _ ≠ w.heap.size + 1; omega)
        have HU2 : Hid (FBox ((((wr.setCell ⟨w.heap.size, 0, none⟩ (.int .i64 p)).setCell ⟨w.heap.size, 1, none⟩ (.int .i64 q)).setCell ⟨w.heap.size + 1, 0, none⟩ (.int .i64 0)).setCell ⟨w.heap.size + 1, 1, none⟩ (.int .i64 0)) (w.heap.size + 1) 35 #[.int .i64 0, .int .i64 0]) := (((HCt.out.2.other _ _ (by show w.heap.size + 1 ≠ w.heap.size; omega)).other _ _ (by show w.heap.size + 1 ≠ w.heap.size; omega)).set 0 (.int .i64 0)).set 1 (.int .i64 0)
        have HU3 := hid (fput2 (fput2 HB.out w.heap.size (Nat.le_refl _) (.int .i64 p) (.int .i64 q)) (w.heap.size + 1) (by omega) (.int .i64 0) (.int .i64 0))
        go_region
        go_wp2_with fail
        generalize ((((wr.setCell ⟨w.heap.size, 0, none⟩ (.int .i64 p)).setCell ⟨w.heap.size, 1, none⟩ (.int .i64 q)).setCell ⟨w.heap.size + 1, 0, none⟩ (.int .i64 0)).setCell ⟨w.heap.size + 1, 1, none⟩ (.int .i64 0)) = U at *
        have x0 : U.drew.cell? ⟨w.heap.size, 0, none⟩ = some (.int .i64 p) := HU1.out.cell 0
        have x1 : U.drew.cell? ⟨w.heap.size, 1, none⟩ = some (.int .i64 q) := HU1.out.cell 1
        have y0 : U.drew.cell? ⟨w.heap.size + 1, 0, none⟩ = some (.int .i64 0) := HU2.out.cell 0
        have y1 : U.drew.cell? ⟨w.heap.size + 1, 1, none⟩ = some (.int .i64 0) := HU2.out.cell 1
        have HU4 := hid (Below.drew HU3.out)
        generalize U.drew = U' at *
        refine bodyPost_ret (v := Value.tuple #[.float .f64 po, .agg #[.int .i64 p, .int .i64 q], .agg #[.int .i64 0, .int .i64 0]]) (by simp [results, Try.results11, go_sem, x0, x1, y0, y1]) rfl ?_
        exact ⟨by rw [HE.out], HU4.out⟩

set_option maxHeartbeats 1600000 in
set_option maxRecDepth 100000 in
theorem ndTimes_nil (a : Option Addr) (cap : Nat) (t : Int) (w : World) (re im : Nat)
    (HN : Hid (∀ V, Calls Try.prog 5 #[.int .i64 t] V fun e w' => e = .returned (.tuple #[.complex .f64 re im, .int .i64 0]) ∧ Below V.heap.size V w')) :
    Calls Try.prog 11 #[.slice a 0 cap, .int .i64 t] w fun x w' => x = .returned (.tuple #[.float .f64 4607182418800017408, .agg #[.int .i64 0, .int .i64 1], .agg #[.int .i64 0, .int .i64 0]]) ∧ Below w.heap.size w w' := by
  have HX := hid (boxes2t w 31 35 #[.int .i64 0, .int .i64 0] #[.int .i64 0, .int .i64 0])
  go_enter Try.func11, Try.ntmps11
  go_wp2_with fail
  generalize ((w.alloc (.cells #[.int .i64 0, .int .i64 0] 31)).alloc (.cells #[.int .i64 0, .int .i64 0] 35)) = X at *
  refine Calls.mono (HN.out _) ?_
  rintro e w0 ⟨rfl, hb0⟩
  have hs := boxes1 w0 31 #[.int .i64 0, .int .i64 1]
  have hB := b2 HX.out.2.2 (b2 hb0 hs.2)
  have k1 := HX.out.1.later (b2 hb0 hs.2) HX.out.1.lt
  have k2 := HX.out.2.1.later (b2 hb0 hs.2) HX.out.2.1.lt
  obtain ⟨wr, hwr⟩ : ∃ wr, w0.alloc (.cells #[.int .i64 0, .int .i64 1] 31) = wr := ⟨_, rfl⟩
  rw [hwr] at hs hB k1 k2
  have hlt : w.heap.size + 1 < w0.heap.size := by
    have := HX.out.2.1.lt
    have := hb0.size
    omega
  obtain ⟨c0, c1, f0, f1⟩ := fbox_facts k1 (Below.refl _ _)
  obtain ⟨e0, e1, g0, g1⟩ := fbox_facts k2 (Below.refl _ _)
  obtain ⟨z0, z1, zf0, zf1⟩ := fbox_facts hs.1 (Below.refl _ _)
  have n1 : w.heap.size ≠ w0.heap.size := by omega
  have n2 : w.heap.size + 1 ≠ w0.heap.size := by omega
  have HB := hid hB
  have HCt : Hid (_ ∧ _) := ⟨k1, k2⟩
  clear hs hB k1 k2 hb0 HN HX
  go_wp2_with fail
  refine wp_loop_rounds 1 ?_
  rw [rounds_succ]
  go_wp2_with fail
  have HU1 : Hid (FBox ((((wr.setCell ⟨w.heap.size, 0, none⟩ (.int .i64 0)).setCell ⟨w.heap.size, 1, none⟩ (.int .i64 1)).setCell ⟨w.heap.size + 1, 0, none⟩ (.int .i64 0)).setCell ⟨w.heap.size + 1, 1, none⟩ (.int .i64 0)) w.heap.size 31 #[.int .i64 0, .int .i64 1]) := (((HCt.out.1.set 0 (.int .i64 0)).set 1 (.int .i64 1)).other _ _ (by show _ ≠ w.heap.size + 1; omega)).other _ _ (by show _ ≠ w.heap.size + 1; omega)
  have HU2 : Hid (FBox ((((wr.setCell ⟨w.heap.size, 0, none⟩ (.int .i64 0)).setCell ⟨w.heap.size, 1, none⟩ (.int .i64 1)).setCell ⟨w.heap.size + 1, 0, none⟩ (.int .i64 0)).setCell ⟨w.heap.size + 1, 1, none⟩ (.int .i64 0)) (w.heap.size + 1) 35 #[.int .i64 0, .int .i64 0]) := (((HCt.out.2.other _ _ (by show w.heap.size + 1 ≠ w.heap.size; omega)).other _ _ (by show w.heap.size + 1 ≠ w.heap.size; omega)).set 0 (.int .i64 0)).set 1 (.int .i64 0)
  have HU3 := hid (fput2 (fput2 HB.out w.heap.size (Nat.le_refl _) (.int .i64 0) (.int .i64 1)) (w.heap.size + 1) (by omega) (.int .i64 0) (.int .i64 0))
  go_region
  go_wp2_with fail
  generalize ((((wr.setCell ⟨w.heap.size, 0, none⟩ (.int .i64 0)).setCell ⟨w.heap.size, 1, none⟩ (.int .i64 1)).setCell ⟨w.heap.size + 1, 0, none⟩ (.int .i64 0)).setCell ⟨w.heap.size + 1, 1, none⟩ (.int .i64 0)) = U at *
  have x0 : U.drew.cell? ⟨w.heap.size, 0, none⟩ = some (.int .i64 0) := HU1.out.cell 0
  have x1 : U.drew.cell? ⟨w.heap.size, 1, none⟩ = some (.int .i64 1) := HU1.out.cell 1
  have y0 : U.drew.cell? ⟨w.heap.size + 1, 0, none⟩ = some (.int .i64 0) := HU2.out.cell 0
  have y1 : U.drew.cell? ⟨w.heap.size + 1, 1, none⟩ = some (.int .i64 0) := HU2.out.cell 1
  have HU4 := hid (Below.drew HU3.out)
  generalize U.drew = U' at *
  refine bodyPost_ret (v := Value.tuple #[.float .f64 4607182418800017408, .agg #[.int .i64 0, .int .i64 1], .agg #[.int .i64 0, .int .i64 0]]) (by simp [results, Try.results11, go_sem, x0, x1, y0, y1]) rfl ?_
  exact ⟨rfl, HU4.out⟩

theorem ndTimes_any (a : Option Addr) (n cap : Nat) (t : Int) (w : World) (re im : Nat) (F : Nat → Nat) (N : Nat → Int) (nm : Nat → ByteArray) (K : Nat → Nat) (m : Nat) (R : Value) (hn : n ≤ 8) (hm : m ≤ n) (hw : ∃ bb oo, a = some ⟨bb, oo, none⟩ ∧ bb < w.heap.size ∧ ∀ j, j < n → w.cell? ⟨bb, oo + j, none⟩ = some (.string (nm j))) (hcap : n ≤ cap)
    (hv : NdV re im F N) (hg : ∀ j, j < m → ndK (nm j).toList = some (K j) ∧ K j < 7) (hb : m < n → ndK (nm m).toList = none)
    (hr1 : m = n → ∃ p q, ofR (ndSm N K n) 3600000 = (p, q, 0) ∧ R = .tuple #[.float .f64 (ndPr F K n), .agg #[.int .i64 p, .int .i64 q], .agg #[.int .i64 0, .int .i64 0]])
    (hr2 : m < n → R = .tuple #[.float .f64 0, .agg #[.int .i64 0, .int .i64 0], .agg #[.int .i64 6, .int .i64 (m : Int)]])
    (HN : Hid (∀ V, Calls Try.prog 5 #[.int .i64 t] V fun e w' => e = .returned (.tuple #[.complex .f64 re im, .int .i64 0]) ∧ Below V.heap.size V w')) :
    Calls Try.prog 11 #[.slice a n cap, .int .i64 t] w fun x w' => x = .returned R ∧ Below w.heap.size w w' := by
  obtain ⟨bb, oo, rfl, h1, h2⟩ := hw
  exact ndTimes_some bb oo n cap t w re im F N nm K m R hn hm h1 h2 hcap hv hg hb hr1 hr2 HN
end Go.Proofs.Ytodihhokodnmkaa

/- package clock: Span, of every two numbers. -/
namespace Go.Proofs.Ytodihhokodnmkaa
open Go.RowKit
set_option linter.unusedVariables false
set_option linter.unusedSimpArgs false

/-- What Span tells. -/
def spnR (a b : Int) : Int := if a < 0 ∨ 1048577 < b ∨ b < a then 2 else if 4096 < b - a then 3 else 0
theorem ckspn_any (a b : Int) (w : World) (ha : I64 a) (hb : I64 b) :
    Calls Try.prog 32 #[.int .i64 a, .int .i64 b] w fun e w' => e = .returned (.int .i64 (spnR a b)) ∧ w' = w := by
  obtain ⟨a0, a1⟩ := ha
  obtain ⟨b0, b1⟩ := hb
  by_cases h : a < 0 ∨ 1048577 < b ∨ b < a
  · have HR : Hid (spnR a b = 2) := by show _ = _; unfold spnR; rw [if_pos h]
    go_enter Try.func32, Try.ntmps32
    go_wp2_with fail
    all_goals first | (exfalso; omega) | (go_ret; exact ⟨ret_int HR.out.symm, rfl⟩)
  · have e1 : IntKind.i64.wrap (b - a) = b - a := by rw [IntKind.wrap_i64]; omega
    by_cases g : 4096 < b - a
    · have HR : Hid (spnR a b = 3) := by show _ = _; unfold spnR; rw [if_neg h, if_pos g]
      go_enter Try.func32, Try.ntmps32
      go_wp2_with fail
      all_goals first | (exfalso; omega) | (go_ret; exact ⟨ret_int HR.out.symm, rfl⟩)
    · have HR : Hid (spnR a b = 0) := by show _ = _; unfold spnR; rw [if_neg h, if_neg g]
      go_enter Try.func32, Try.ntmps32
      go_wp2_with fail
      all_goals first | (exfalso; omega) | (go_ret; exact ⟨ret_int HR.out.symm, rfl⟩)
end Go.Proofs.Ytodihhokodnmkaa

/- package clock: Ticks: the function that it tells, and what that goes over. -/
namespace Go.Proofs.Ytodihhokodnmkaa
open Go.RowKit Go.Shelf
set_option linter.unusedVariables false
set_option linter.unusedSimpArgs false
attribute [local go_sem] Oper.semAt_some

theorem cbox2 (w : World) (t : Nat) (u v : Array Value) : FBox ((w.alloc (.cells u t)).alloc (.cells v t)) w.heap.size t u ∧ FBox ((w.alloc (.cells u t)).alloc (.cells v t)) (w.heap.size + 1) t v ∧ Below w.heap.size w ((w.alloc (.cells u t)).alloc (.cells v t)) := by
  have a : FBox (w.alloc (.cells u t)) w.heap.size t u ∧ Below w.heap.size w (w.alloc (.cells u t)) := ⟨FBox.made _ _ _, (Below.refl _ _).alloc (Nat.le_refl _) _⟩
  have b : FBox ((w.alloc (.cells u t)).alloc (.cells v t)) (w.alloc (.cells u t)).heap.size t v ∧ Below (w.alloc (.cells u t)).heap.size (w.alloc (.cells u t)) ((w.alloc (.cells u t)).alloc (.cells v t)) := ⟨FBox.made _ _ _, (Below.refl _ _).alloc (Nat.le_refl _) _⟩
  have es : (w.alloc (.cells u t)).heap.size = w.heap.size + 1 := World.size_alloc _ _
  exact ⟨a.1.later b.2 a.1.lt, es ▸ b.1, b2 a.2 b.2⟩
/-- Where a span that may not be ends. -/
def tkE (a b : Int) : Int := if spnR a b = 0 then b else a

set_option maxHeartbeats 800000 in
set_option maxRecDepth 100000 in
theorem ckticks_any (a b : Int) (w : World) (ha : I64 a) (hb : I64 b) :
    Calls Try.prog 33 #[.int .i64 a, .int .i64 b] w fun e w' => ∃ pa pb, e = .returned (.func (.func 49) #[] #[.pointer (some ⟨pa, 0, none⟩), .pointer (some ⟨pb, 0, none⟩)]) ∧ w.heap.size ≤ pa ∧ w.heap.size ≤ pb ∧ FBox w' pa 3 #[.int .i64 a] ∧ FBox w' pb 3 #[.int .i64 (tkE a b)] ∧ Below w.heap.size w w' := by
  have HC := hid (fun V => ckspn_any a b V ha hb)
  have HY : Hid (spnR a b = 0 → tkE a b = b) := fun h => if_pos h
  have HN : Hid (¬ spnR a b = 0 → tkE a b = a) := fun h => if_neg h
  generalize spnR a b = E at *
  generalize tkE a b = X at *
  clear ha hb
  go_enter Try.func33, Try.ntmps33
  go_wp2_with fail
  have HX := hid (cbox2 w 3 #[.int .i64 a] #[.int .i64 b])
  generalize (w.alloc (.cells #[.int .i64 a] 3)).alloc (.cells #[.int .i64 b] 3) = V at *
  refine Calls.mono (HC.out _) ?_
  rintro e w1 ⟨rfl, rfl⟩
  by_cases h : E = 0
  · subst h
    have HE := hid (HY.out rfl)
    clear HY HN HC
    go_wp2_with fail
    go_ret
    exact ⟨_, _, rfl, Nat.le_refl _, Nat.le_succ _, HX.out.1, by rw [HE.out]; exact HX.out.2.1, HX.out.2.2⟩
  · have HE := hid (HN.out h)
    have h' : (E == 0) = false := by simp [h]
    have k0 : w1.cell? ⟨w.heap.size, 0, none⟩ = some (.int .i64 a) := HX.out.1.cell 0
    have k1 : w1.cell? ⟨w.heap.size + 1, 0, none⟩ = some (.int .i64 b) := HX.out.2.1.cell 0
    have k2 := HX.out.2.1.free 0
    clear HY HN HC
    go_wp2_with fail
    go_ret
    refine ⟨_, _, rfl, Nat.le_refl _, Nat.le_succ _, HX.out.1.other _ _ (by simp), ?_, HX.out.2.2.setCell (p := ⟨w.heap.size + 1, 0, none⟩) (Nat.le_succ _) _⟩
    rw [HE.out]
    exact HX.out.2.1.set 0 _

/-- Numbers one behind the other, from a on. -/
def upI (a : Int) (k : Nat) : List Int := (List.range k).map (fun j : Nat => a + (j : Int))
theorem upI_succ (a : Int) (k : Nat) : upI a (k + 1) = upI a k ++ [a + (k : Int)] := by
  unfold upI
  rw [List.range_succ, List.map_append]
  rfl
theorem upI_len (a : Int) (k : Nat) : (upI a k).length = k := by unfold upI; simp

set_option maxHeartbeats 1600000 in
set_option maxRecDepth 100000 in
theorem ckticks1_stops (F : Fence) (n : Nat) (h6 : F.fn 49) (hro : F.round = none) (hn : 1 ≤ n) (pa pb n₀ : Nat) (a : Int) (m : Nat) (w : World) (ha : I64 a) (hm : a + (m : Int) ≤ 9223372036854775807) (l1 : pa < n₀) (l2 : pb < n₀) (hl : n₀ ≤ w.heap.size) (c1 : w.cell? ⟨pa, 0, none⟩ = some (.int .i64 a)) (c2 : w.cell? ⟨pb, 0, none⟩ = some (.int .i64 (a + (m : Int)))) :
    SeqStopsK F n Try.prog 49 #[.pointer (some ⟨pa, 0, none⟩), .pointer (some ⟨pb, 0, none⟩)] (fun x : Int => #[.int .i64 x]) (Below n₀) (fun xs => xs = upI a m) (fun pre => ∃ k, k ≤ m ∧ pre = upI a k) m w := fun l J Jx W hW hJ hJx hY h0 => by
  refine callsIn_of_wp Try.func49 rfl h6 ?_ hro
  simp only [Try.ntmps49, List.size_toArray, List.length_cons, List.length_nil, Nat.reduceAdd, Nat.reduceSub, Array.replicate_succ, Array.replicate_zero, List.push_toArray, List.append_toArray, List.nil_append, List.cons_append]
  obtain ⟨a0, a1⟩ := ha
  have d1 : W.cell? ⟨pa, 0, none⟩ = some (.int .i64 a) := (hW.cell (p := ⟨pa, 0, none⟩) (show pa < _ by omega)).trans c1
  have d2 : W.cell? ⟨pb, 0, none⟩ = some (.int .i64 (a + (m : Int))) := (hW.cell (p := ⟨pb, 0, none⟩) (show pb < _ by omega)).trans c2
  have HY := hid hY
  clear hY c1 c2
  obtain ⟨e, he⟩ : ∃ e : Int, e = a + (m : Int) := ⟨_, rfl⟩
  rw [← he] at d2
  have HE := hid he
  have he1 : e ≤ 9223372036854775807 := by omega
  have hJ0 : Hid (J (upI a 0) W) := h0
  clear h0 he
  gi_wp2
  gi_loopw [4] (fun x wr => ∃ (k : Nat) (y : Int), k ≤ m ∧ x = .int .i64 y ∧ Hid (y = a + (k : Int)) ∧ wr.cell? ⟨pb, 0, none⟩ = some (.int .i64 e) ∧ Hid (J (upI a k) wr)) (fun x _ => (e - intOf x).toNat)
  case atStart => exact ⟨0, a, Nat.zero_le _, rfl, by show a = a + (0 : Int); omega, d2, hJ0⟩
  case round =>
    obtain ⟨k, y, hk, rfl, HYK, d3, HJ⟩ := hrel
    by_cases hlt : k < m
    · have HS := hid (upI_succ a k)
      rw [← HYK.out] at HS
      have hye : y < e := by have := HYK.out; have := HE.out; omega
      have hy0 : -9223372036854775808 ≤ y := by have := HYK.out; omega
      have hw1 : IntKind.i64.wrap (y + 1) = y + 1 := by rw [IntKind.wrap_i64]; omega
      obtain ⟨fn, tmps, assign, body, hy, hR⟩ := HY.out _ y wr HJ.out (by rw [upI_len]; omega)
      gi_wp2
      refine hR.mono ?_
      rintro e' W3 (⟨rfl, hJ3, hk3⟩ | ⟨rfl, hJx3⟩)
      · have d4 : W3.cell? ⟨pb, 0, none⟩ = some (.int .i64 e) := (hk3.cell (p := ⟨pb, 0, none⟩) l2).trans d3
        gi_wp2
        go_roundw
        case rel => exact ⟨k + 1, y + 1, by omega, by first | rfl | go_num, by have := HYK.out; show y + 1 = a + ((k + 1 : Nat) : Int); omega, d4, by rw [HS.out]; exact hJ3⟩
        case measure => simp [intOf]; omega
      · gi_wp2
        refine bodyPost_ret (results_none rfl _ _ _) rfl ?_
        exact ⟨⟨_, rfl⟩, .inr ⟨_, ⟨k + 1, by omega, rfl⟩, by rw [HS.out]; exact hJx3⟩⟩
    · obtain rfl : k = m := by omega
      have hxe : ¬ y < e := by have := HYK.out; have := HE.out; omega
      have hJ9 := HJ.out
      gi_wp2
      all_goals first
        | (exfalso; omega)
        | (go_end0
           refine ⟨⟨_, rfl⟩, .inl ?_⟩
           simpa using hJ9)
end Go.Proofs.Ytodihhokodnmkaa

/- package nodal: Mean, of every name and span; clock.Ticks gone over by a body that writes what is older than Ticks' own memory. -/
namespace Go.Proofs.Ytodihhokodnmkaa
open Go.RowKit Go.Shelf
set_option linter.unusedVariables false
set_option linter.unusedSimpArgs false
attribute [local go_sem] Oper.semAt_some

/-- A new box of one float, made and filled. -/
theorem newflt (P : Program) (w : World) (t x : Nat) : ∃ Y Y1, w.alloc (.cells #[.float .f64 0] t) = Y ∧ (store ⟨w.heap.size, 0, none⟩ (.float .f64 x)).run P Y = .ok () Y1 ∧ FBox Y1 w.heap.size t #[.float .f64 x] ∧ Below w.heap.size w Y1 := by
  have hy := boxes1 w t #[.float .f64 0]
  obtain ⟨Y1, r1, k1, k2⟩ := store_box P hy.1 0 (by simp) x
  exact ⟨_, Y1, rfl, r1, k1, k2 _ _ (Nat.le_refl _) hy.2⟩
/-- All that lay there but one block lies there still. -/
structure NdR (V W : World) (k : Nat) : Prop where
  size : V.heap.size ≤ W.heap.size
  same : ∀ b, b < V.heap.size → b ≠ k → W.heap[b]? = V.heap[b]?
theorem NdR.refl (V : World) (k : Nat) : NdR V V k := ⟨Nat.le_refl _, fun _ _ _ => rfl⟩
theorem NdR.later {V W W' : World} {k : Nat} (h : NdR V W k) (hb : Below W.heap.size W W') : NdR V W' k := ⟨Nat.le_trans h.size hb.size, fun b hl hn => (hb.block b (Nat.lt_of_lt_of_le hl h.size)).trans (h.same b hl hn)⟩
theorem NdR.put {V W : World} {k : Nat} (h : NdR V W k) (j : Nat) (v : Value) : NdR V (W.setCell ⟨k, j, none⟩ v) k := ⟨by simpa [World.setCell] using h.size, fun b hl hn => (Below.heap_setCell _ _ _ _ hn).trans (h.same b hl hn)⟩
theorem NdR.box {V W : World} {k b t : Nat} {vs : Array Value} (h : NdR V W k) (hF : FBox V b t vs) (hn : b ≠ k) : FBox W b t vs := (h.same b hF.lt hn).trans hF
theorem NdR.own {V W W' : World} {k : Nat} {row : Option Nat} (h : NdR V W k) (hg : W.grownBy W' row) (hr : ∀ r, row = some r → V.heap.size ≤ r) : NdR V W' k := ⟨Nat.le_trans h.size hg.size, fun b hl hn => (hg.block b (Nat.lt_of_lt_of_le hl h.size) (fun e => by have := hr b e.symm; omega)).trans (h.same b hl hn)⟩

theorem ndfin_succ (m k : Nat) (hk : k < m) : (List.finRange m).take (k + 1) = (List.finRange m).take k ++ [(⟨k, hk⟩ : _root_.Fin m)] := by
  rw [List.take_add_one, List.getElem?_eq_getElem (by simpa using hk)]
  simp

set_option maxHeartbeats 1600000 in
set_option maxRecDepth 100000 in
theorem ndticks_stops (F : Fence) (n : Nat) (h6 : F.fn 49) (hro : F.round = none) (hn : 1 ≤ n) (pa pb : Nat) (a : Int) (m : Nat) (w : World) (Kp : World → World → Prop) (hKc : ∀ A B : World, Kp A B → B.cell? ⟨pb, 0, none⟩ = A.cell? ⟨pb, 0, none⟩) (ha : I64 a) (hm : a + (m : Int) ≤ 9223372036854775807) (l1 : pa < w.heap.size) (l2 : pb < w.heap.size) (c1 : w.cell? ⟨pa, 0, none⟩ = some (.int .i64 a)) (c2 : w.cell? ⟨pb, 0, none⟩ = some (.int .i64 (a + (m : Int)))) :
    SeqStopsK F n Try.prog 49 #[.pointer (some ⟨pa, 0, none⟩), .pointer (some ⟨pb, 0, none⟩)] (fun x : _root_.Fin m => #[.int .i64 (a + (x.val : Int))]) Kp (fun xs => xs = List.finRange m) (fun pre => ∃ k, k ≤ m ∧ pre = (List.finRange m).take k) m w := fun l J Jx W hW hJ hJx hY h0 => by
  refine callsIn_of_wp Try.func49 rfl h6 ?_ hro
  simp only [Try.ntmps49, List.size_toArray, List.length_cons, List.length_nil, Nat.reduceAdd, Nat.reduceSub, Array.replicate_succ, Array.replicate_zero, List.push_toArray, List.append_toArray, List.nil_append, List.cons_append]
  obtain ⟨a0, a1⟩ := ha
  have d1 : W.cell? ⟨pa, 0, none⟩ = some (.int .i64 a) := (hW.cell (p := ⟨pa, 0, none⟩) (show pa < _ by omega)).trans c1
  have d2 : W.cell? ⟨pb, 0, none⟩ = some (.int .i64 (a + (m : Int))) := (hW.cell (p := ⟨pb, 0, none⟩) (show pb < _ by omega)).trans c2
  have HY := hid hY
  clear hY c1 c2
  obtain ⟨e, he⟩ : ∃ e : Int, e = a + (m : Int) := ⟨_, rfl⟩
  rw [← he] at d2
  have HE := hid he
  have he1 : e ≤ 9223372036854775807 := by omega
  have hJ0 : Hid (J ((List.finRange m).take 0) W) := h0
  have HSF : Hid (∀ k, ∀ hk : k < m, (List.finRange m).take (k + 1) = (List.finRange m).take k ++ [(⟨k, hk⟩ : _root_.Fin m)]) := fun k hk => ndfin_succ m k hk
  have HAll : Hid ((List.finRange m).take m = List.finRange m) := List.take_of_length_le (by simp)
  clear h0 he
  gi_wp2
  gi_loopw [4] (fun x wr => ∃ (k : Nat) (y : Int), k ≤ m ∧ x = .int .i64 y ∧ Hid (y = a + (k : Int)) ∧ wr.cell? ⟨pb, 0, none⟩ = some (.int .i64 e) ∧ Hid (J ((List.finRange m).take k) wr)) (fun x _ => (e - intOf x).toNat)
  case atStart => exact ⟨0, a, Nat.zero_le _, rfl, by show a = a + (0 : Int); omega, d2, hJ0⟩
  case round =>
    obtain ⟨k, y, hk, rfl, HYK, d3, HJ⟩ := hrel
    by_cases hlt : k < m
    · have HS := hid (HSF.out k hlt)
      have hye : y < e := by have := HYK.out; have := HE.out; omega
      have hy0 : -9223372036854775808 ≤ y := by have := HYK.out; omega
      have hw1 : IntKind.i64.wrap (y + 1) = y + 1 := by rw [IntKind.wrap_i64]; omega
      have hlen : ((List.finRange m).take k).length < m := by rw [List.length_take, List.length_finRange]; omega
      obtain ⟨fn, tmps, assign, body, hy, hR⟩ := HY.out _ (⟨k, hlt⟩ : _root_.Fin m) wr HJ.out hlen
      dsimp only at hy
      rw [← HYK.out] at hy
      generalize (List.finRange m).take k = pre at *
      gi_wp2
      refine hR.mono ?_
      rintro e' W3 (⟨rfl, hJ3, hk3⟩ | ⟨rfl, hJx3⟩)
      · have d4 : W3.cell? ⟨pb, 0, none⟩ = some (.int .i64 e) := (hKc _ _ hk3).trans d3
        gi_wp2
        go_roundw
        case rel => exact ⟨k + 1, y + 1, by omega, by first | rfl | go_num, by have := HYK.out; show y + 1 = a + ((k + 1 : Nat) : Int); omega, d4, by rw [HS.out]; exact hJ3⟩
        case measure => simp [intOf]; omega
      · gi_wp2
        refine bodyPost_ret (results_none rfl _ _ _) rfl ?_
        exact ⟨⟨_, rfl⟩, .inr ⟨_, ⟨k + 1, by omega, HS.out.symm⟩, hJx3⟩⟩
    · obtain rfl : k = m := by omega
      have hxe : ¬ y < e := by have := HYK.out; have := HE.out; omega
      have hJ9 := HJ.out
      rw [HAll.out] at hJ9
      gi_wp2
      all_goals first
        | (exfalso; omega)
        | (go_end0
           refine ⟨⟨_, rfl⟩, .inl ?_⟩
           simpa using hJ9)
/-- A range over a function: the law of the kit, at any slots. -/
theorem ndrange {β : Type} {en : β → Value} {g : Operand} {assign body : Code} {Q : Exit → Act → World → Prop} {a : Act} {w : World} {gf s1 s2 : Nat} {lb : Array Value}
    (hg : a.eval g = .func (.func gf) #[] lb) (eg : ∀ args w, (callFunc gf args).run Try.prog w = .ok (.enter gf args) w)
    {S Sp : List β → Prop} {N : Nat} {Kp : World → World → Prop} (hseq : SeqStopsK Fence.wide 2 Try.prog gf lb (fun x : β => #[en x]) Kp S Sp N w) (hKt : ∀ {A B C : World}, Kp A B → Kp B C → Kp A C) (hKb : ∀ (W : World) (l : Nat) (o o' : Obj), w.heap.size ≤ l → W.heap[l]? = some o → o.isCells = false → o.isWalk = false → Kp W (W.putObj l o'))
    (I : List β → World → Prop) (Ix : Code → List β → World → Prop) (hI : OwnFrom w.heap.size I) (hIx : ∀ c, OwnFrom w.heap.size (Ix c)) (h0 : I [] w)
    (hassign : ∀ (l : Nat) (x : β) (W : World) (K : Act → World → Prop), K { tmps := (a.tmps.setIfInBounds s1 (en x)).setIfInBounds s2 (en x), defers := [] } W →
      assign.wpIn (Fence.wide.inRound l) 1 Try.prog (Exit.then K (fun _ _ _ => False)) { tmps := a.tmps.setIfInBounds s1 (en x), defers := [] } W)
    (hbody : ∀ (l : Nat) (pre : List β) (x : β) (W : World), I pre W → pre.length < N → body.wpIn (Fence.wide.inRound l) 1 Try.prog (ownPostK Kp I Ix (pre ++ [x]) W) { tmps := (a.tmps.setIfInBounds s1 (en x)).setIfInBounds s2 (en x), defers := [] } W)
    (hdone : ∀ (D : Nat) (xs : List β) (W : World), w.heap.size ≤ D → S xs → I xs W → W.heap[D]? = some (.deferred (some [])) → Q .normal { a with defers := { target := .collected D, args := #[] } :: a.defers } W)
    (hstop : ∀ (D : Nat) (c : Code) (pre : List β) (W : World), w.heap.size ≤ D → Sp pre → Ix c pre W → W.heap[D]? = some (.deferred (some [])) → c.wpIn Fence.wide 3 Try.prog Q { a with defers := { target := .collected D, args := #[] } :: a.defers } W) :
    (Code.rangeFunc g #[s1] assign body).wpIn Fence.wide 3 Try.prog Q a w :=
  wpIn_rangeFunc_ownF rfl (by decide) hg trivial eg hseq hKt hKb (Below.refl _ _) (fun _ => rfl) I Ix hI hIx h0
    (fun x => { tmps := (a.tmps.setIfInBounds s1 (en x)).setIfInBounds s2 (en x), defers := [] })
    (fun l x W K hK => by
      have e := hassign l x W K hK
      simpa using e) hbody hdone hstop

/-- The factors at the places of a list, added, from +0 on. -/
def mnS (f : Nat → Nat) (l : List Nat) : Nat := l.foldl (fun s j => (floatBits .add .f64 s (f j)).getD 0) 0
theorem mnS_nil (f : Nat → Nat) : mnS f [] = 0 := rfl
theorem mnS_snoc (f : Nat → Nat) (l : List Nat) (j : Nat) : mnS f (l ++ [j]) = (floatBits .add .f64 (mnS f l) (f j)).getD 0 := by unfold mnS; rw [List.foldl_append]; rfl
theorem mnS_in {f : Nat → Nat} (hf : ∀ j, In 1034 549755813888 1649267441664 (f j)) : ∀ l : List Nat, l.length ≤ 5000 → In 1034 ((l.length : Int) * 549755813888) ((l.length : Int) * 1649267441664) (mnS f l) := by
  intro l
  induction h : l.length generalizing l with
  | zero =>
    intro _
    obtain rfl := List.eq_nil_of_length_eq_zero h
    rw [mnS_nil]
    exact ⟨⟨by decide, by decide⟩, by rw [show sv 0 = 0 by decide]; generalize (2 ^ 1034 : Nat) = P; simp, by rw [show sv 0 = 0 by decide]; generalize (2 ^ 1034 : Nat) = P; simp⟩
  | succ n ih =>
    intro hn
    obtain ⟨l', j, rfl⟩ : ∃ l' j, l = l' ++ [j] := by
      rcases List.eq_nil_or_concat l with rfl | ⟨l', j, rfl⟩
      · cases h
      · exact ⟨l', j, by simp⟩
    have hl : l'.length = n := by simpa using h
    have i1 := ih l' hl (by omega)
    obtain ⟨r, hr⟩ := fn_ex .add (mnS f l') (f j)
    have ir : In 1034 (((n + 1 : Nat) : Int) * 549755813888) (((n + 1 : Nat) : Int) * 1649267441664) r := In.add i1 (hf j) hr (by decide) (by decide) (by omega) (by omega) (by omega) (by omega)
    rw [mnS_snoc, hr.fin ir.1]
    exact ir
theorem mnS_step {f : Nat → Nat} (hf : ∀ j, In 1034 549755813888 1649267441664 (f j)) (l : List Nat) (j : Nat) (hl : l.length < 4999) : floatBits .add .f64 (mnS f l) (f j) = some (mnS f (l ++ [j])) := by
  have i1 := mnS_in hf l (by omega)
  obtain ⟨r, hr⟩ := fn_ex .add (mnS f l) (f j)
  have ir : In 1034 (((l.length + 1 : Nat) : Int) * 549755813888) (((l.length + 1 : Nat) : Int) * 1649267441664) r := In.add i1 (hf j) hr (by decide) (by decide) (by omega) (by omega) (by omega) (by omega)
  rw [mnS_snoc, hr.fin ir.1]; rfl
end Go.Proofs.Ytodihhokodnmkaa

/- package nodal: Mean, of every name and span. -/
namespace Go.Proofs.Ytodihhokodnmkaa
open Go.RowKit Go.Shelf
set_option linter.unusedVariables false
set_option linter.unusedSimpArgs false
attribute [local go_sem] Oper.semAt_some

theorem ndkeeps_below {W W' : World} (h : Below W.heap.size W W') : KeepsOthers W W' := KeepsOthers.of_grownBy (row := none) ⟨h.os, h.tape, h.output, h.size, fun k hk _ => h.block k hk⟩ (fun _ _ e => by cases e)
theorem ndfin_map (m : Nat) : (List.finRange m).map (·.val) = List.range m := by
  apply List.ext_getElem
  · simp
  · intro i h1 h2; simp

set_option maxHeartbeats 6400000 in
set_option maxRecDepth 100000 in
theorem ndMean_ok (n : ByteArray) (k a m r : Nat) (f : Nat → Nat) (w : World) (hk : ndK n.toList = some k) (hm0 : 0 < m) (hm : m ≤ 4096) (ha : a + m ≤ 1048577)
    (hf : ∀ j, j < m → ∃ re im p, NodeR (a + j) re im ∧ floatBits .mul .f64 (ndS k) re = some p ∧ floatBits .add .f64 p (ndB k) = some (f j))
    (hi : ∀ j, In 1034 549755813888 1649267441664 (f j)) (hr : floatBits .quo .f64 (mnS f (List.range m)) (floatOfInt .f64 (m : Int)) = some r) :
    Calls Try.prog 16 #[.string n, .int .i64 (a : Int), .int .i64 ((a + m : Nat) : Int)] w fun e w' => e = .returned (.tuple #[.float .f64 r, .int .i64 0]) ∧ Below w.heap.size w w' := by
  have hsp : spnR (a : Int) ((a + m : Nat) : Int) = 0 := by unfold spnR; rw [if_neg (by omega), if_neg (by omega)]
  have HSp := hid (fun V => ckspn_any (a : Int) ((a + m : Nat) : Int) V ⟨by omega, by omega⟩ ⟨by omega, by omega⟩)
  have HTk := hid (fun V => ckticks_any (a : Int) ((a + m : Nat) : Int) V ⟨by omega, by omega⟩ ⟨by omega, by omega⟩)
  rw [show tkE (a : Int) ((a + m : Nat) : Int) = ((a + m : Nat) : Int) from if_pos hsp] at HTk
  rw [hsp] at HSp
  have HF := hid (fun V => ndfind_any n V)
  rw [hk, show ndV (some k) = Value.tuple #[.agg #[.float .f64 (ndB k), .float .f64 (ndS k), .float .f64 (ndC k)], .int .i64 0] from rfl] at HF
  have HFac : Hid (∀ j, j < m → ∃ re im, (∀ V, Calls Try.prog 5 #[.int .i64 ((a : Int) + (j : Int))] V fun e w' => e = .returned (.tuple #[.complex .f64 re im, .int .i64 0]) ∧ Below V.heap.size V w') ∧
      (∀ V, Calls Try.prog 25 #[.agg #[.float .f64 (ndB k), .float .f64 (ndS k), .float .f64 (ndC k)], .complex .f64 re im] V fun e w' => e = .returned (.float .f64 (f j)) ∧ Below V.heap.size V w')) := fun j hj => by
    obtain ⟨re, im, p, h1, h2, h3⟩ := hf j hj
    exact ⟨re, im, fun V => ndNode_ok (a + j) re im V (by omega) h1, fun V => ndfactor_any _ _ _ re im p (f j) V h2 h3⟩
  have HS : Hid (∀ (l : List Nat) (j : Nat), l.length < m → floatBits .add .f64 (mnS f l) (f j) = some (mnS f (l ++ [j]))) := fun l j hl => mnS_step hi l j (by omega)
  have rQ : ∀ V, (binOp .quo 27 (.float .f64 (mnS f (List.range m))) (.float .f64 (floatOfInt .f64 (m : Int)))).run Try.prog V = .ok (.float .f64 r) V := fun V => run_float_arith V _ _ _ _ _ _ hr
  have HL : Hid (0 < m ∧ m ≤ 4096 ∧ a + m ≤ 1048577) := ⟨hm0, hm, ha⟩
  have hab : ¬ (a : Int) = ((a + m : Nat) : Int) := by omega
  have hab' : ((a : Int) == ((a + m : Nat) : Int)) = false := by simp; omega
  have hsub : IntKind.i64.wrap (((a + m : Nat) : Int) - (a : Int)) = (m : Int) := by rw [IntKind.wrap_i64]; omega
  have hAM : ((a + m : Nat) : Int) = (a : Int) + (m : Int) := by omega
  obtain ⟨B, hB⟩ : ∃ B : Int, B = ((a + m : Nat) : Int) := ⟨_, rfl⟩
  rw [← hB] at HSp HTk hab hab' hsub hAM ⊢
  have HAM := hid hAM
  generalize ndB k = rb at *
  generalize ndS k = rs at *
  generalize ndC k = rc at *
  have HI : Hid (I64 (a : Int) ∧ (a : Int) + (m : Int) ≤ 9223372036854775807) := ⟨⟨by omega, by omega⟩, by omega⟩
  clear hk hm0 hm ha hf hi hr hsp hB hAM
  refine (callsIn_wide (n := 3)).1 ?_
  refine callsIn_of_wp_marks Try.func16 rfl trivial ?_ rfl
  simp only [Try.ntmps16, List.size_toArray, List.length_cons, List.length_nil, Nat.reduceAdd, Nat.reduceSub, Array.replicate_succ, Array.replicate_zero, List.push_toArray, List.append_toArray, List.nil_append, List.cons_append]
  gi_wp2
  have HX := hid (boxes2t w 27 24 #[.float .f64 0] #[.int .i64 0])
  generalize (w.alloc (.cells #[.float .f64 0] 27)).alloc (.cells #[.int .i64 0] 24) = V0 at *
  refine ⟨trivial, ?_⟩
  refine (callsIn_wide.2 (HSp.out _)).mono ?_
  rintro e w1 ⟨rfl, rfl⟩
  gi_wp2
  refine ⟨trivial, ?_⟩
  refine (callsIn_wide.2 (HF.out _)).mono ?_
  rintro e w2 ⟨rfl, hb2⟩
  obtain ⟨Y, Y1, Y2, Y3, r0, r1, r2, r3, ⟨d0, d1, d2⟩, k1, k2⟩ := newrow Try.prog w2 49 rb rs rc
  obtain ⟨Z, Z1, q0, q1, q2, q3⟩ := newflt Try.prog Y3 27 0
  have HSm := hid q2
  have HRow := hid (k1.later q3 k1.lt)
  have HBZ := hid (b2 HX.out.2.2 (b2 hb2 (b2 k2 q3)))
  have HR0 := hid (HX.out.1.later (b2 hb2 (b2 k2 q3)) HX.out.1.lt)
  have HR1 := hid (HX.out.2.1.later (b2 hb2 (b2 k2 q3)) HX.out.2.1.lt)
  have n1 : w2.heap.size < Y3.heap.size := k1.lt
  have n2 : w.heap.size + 1 < w2.heap.size := Nat.lt_of_lt_of_le HX.out.2.1.lt hb2.size
  clear k1 k2 hb2 HF HSp q2 q3 HX
  gi_wp2
  clear r0 r1 r2 r3 q0 q1 d0 d1 d2
  refine ⟨trivial, ?_⟩
  refine (callsIn_wide.2 (HTk.out _)).mono ?_
  rintro e w3 ⟨pa, pb, rfl, hpa, hpb, fa, fb, hb3⟩
  have hnil : (binOp BinOp.eql 63 (.func (.func 49) #[] #[.pointer (some ⟨pa, 0, none⟩), .pointer (some ⟨pb, 0, none⟩)]) .nilFunc).run Try.prog w3 = .ok (.bool false) w3 := by first | rfl | kernel_rfl | simp [binOp, go_sem]
  have HRow3 := hid (HRow.out.later hb3 HRow.out.lt)
  have HSm3 := hid (HSm.out.later hb3 HSm.out.lt)
  have HR03 := hid (HR0.out.later hb3 HR0.out.lt)
  have HR13 := hid (HR1.out.later hb3 HR1.out.lt)
  have HB3 := hid (b2 HBZ.out hb3)
  have n3 : Y3.heap.size < pa := Nat.lt_of_lt_of_le HSm.out.lt hpa
  have n4 : Y3.heap.size < pb := Nat.lt_of_lt_of_le HSm.out.lt hpb
  rw [HAM.out] at fb
  have HFa := hid fa
  have HFb := hid fb
  clear fa fb hb3 hpa hpb HTk HRow HSm HR0 HR1 HBZ
  generalize Y3.heap.size = K0 at *
  generalize w2.heap.size = R0 at *
  have n5 : w.heap.size ≤ w3.heap.size := HB3.out.size
  have n6 : K0 < w3.heap.size := HSm3.out.lt
  gi_wp2
  clear hnil
  refine ndrange (s1 := 35) (s2 := 12) (Kp := fun A B => B.cell? ⟨pb, 0, none⟩ = A.cell? ⟨pb, 0, none⟩) rfl (enters_of Try.func49 (by kernel_rfl) rfl) (ndticks_stops Fence.wide 2 trivial rfl (by decide) pa pb (a : Int) m w3 _ (fun A B h => h) HI.out.1 HI.out.2 HFa.out.lt HFb.out.lt (HFa.out.cell 0) (HFb.out.cell 0))
    (fun h k => k.trans h) (fun W l o o' hl ho hc _ => World.cell?_of_block (World.putObj_heap_other (show pb ≠ l by have := HFb.out.lt; omega)))
    (fun pre W => W.cell? ⟨K0, 0, none⟩ = some (.float .f64 (mnS f (pre.map (·.val)))) ∧ W.frozen? ⟨K0, 0, none⟩ = false ∧ NdR w3 W K0 ∧ Below w.heap.size w W)
    (fun c pre W => False)
    (fun s A B row hs hg hr => ⟨cell_kept hs.1 hg (fun r e => (hr r e).2), (frozen_kept hs.1 hg (fun r e => (hr r e).2)).trans hs.2.1, hs.2.2.1.own hg (fun r e => (hr r e).1), hs.2.2.2.grown hg hs.2.2.2.size (fun k e => Nat.le_trans n5 (hr k e).1)⟩)
    (fun c s A B row hs hg hr => hs) ⟨HSm3.out.cell 0, HSm3.out.free 0, NdR.refl _ _, HB3.out⟩ ?assign ?body ?done ?stop
  case assign =>
    intro l x W K hK
    gi_wp2
    exact hK
  case stop =>
    rintro D c pre W hD hSp hIx hKD
    exact hIx.elim
  case body =>
    rintro l pre x W ⟨hc, hf, hR, hB⟩ hlen
    obtain ⟨re, im, hNd, hFc⟩ := HFac.out x.val x.2
    have HNd := hid hNd
    have HFc := hid hFc
    have hadd := HS.out (pre.map (·.val)) x.val (by rw [List.length_map]; exact hlen)
    have rA : ∀ V, (binOp .add 27 (.float .f64 (mnS f (pre.map (·.val)))) (.float .f64 (f x.val))).run Try.prog V = .ok (.float .f64 (mnS f ((pre.map (·.val)) ++ [x.val]))) V := fun V => run_float_arith V _ _ _ _ _ _ hadd
    have HC := hid hc
    have HFz := hid hf
    have HRW := hid hR
    have HBW := hid hB
    have HMp : Hid ((pre ++ [x]).map (·.val) = (pre.map (·.val)) ++ [x.val]) := List.map_append
    have HRw := hid (hR.box HRow3.out (show R0 ≠ K0 by omega))
    clear hNd hFc hadd hR hB hlen hc hf
    obtain ⟨sn, hsn⟩ : ∃ sn, sn = mnS f ((pre.map (·.val)) ++ [x.val]) := ⟨_, rfl⟩
    rw [← hsn] at rA
    have HSN := hid hsn
    clear hsn
    generalize mnS f (pre.map (·.val)) = so at *
    generalize f x.val = fx at *
    generalize (a : Int) + (x.val : Int) = tk at *
    gi_wp2
    refine ⟨trivial, ?_⟩
    refine (CallsIn.inRound l (callsIn_wide.2 (HNd.out _))).mono ?_
    rintro e b1 ⟨rfl, hb⟩
    have c1 : b1.cell? ⟨K0, 0, none⟩ = some (.float .f64 so) := (hb.cell (p := ⟨K0, 0, none⟩) (Nat.lt_of_lt_of_le n6 HRW.out.size)).trans HC.out
    obtain ⟨e0, e1, e2, -⟩ := box3 HRw.out hb
    have hk1 : K0 < b1.heap.size := Nat.lt_of_lt_of_le (Nat.lt_of_lt_of_le n6 HRW.out.size) hb.size
    have f1 : b1.frozen? ⟨K0, 0, none⟩ = false := (hb.frozen (p := ⟨K0, 0, none⟩) (Nat.lt_of_lt_of_le n6 HRW.out.size)).trans HFz.out
    have HFq : Hid (Calls Try.prog 25 #[.agg #[.float .f64 rb, .float .f64 rs, .float .f64 rc], .complex .f64 re im] b1.drew fun e w' => e = .returned (.float .f64 fx) ∧ w'.cell? ⟨K0, 0, none⟩ = some (.float .f64 so) ∧ w'.frozen? ⟨K0, 0, none⟩ = false ∧ Hid (Below b1.heap.size b1 w')) := by
      refine Calls.mono (HFc.out b1.drew) ?_
      rintro e w' ⟨he, hw⟩
      exact ⟨he, (hw.cell (p := ⟨K0, 0, none⟩) hk1).trans c1, (hw.frozen (p := ⟨K0, 0, none⟩) hk1).trans f1, ((Below.refl b1.heap.size b1).drew).trans hw⟩
    have sF : ∀ (W : World) (p : Addr) (y : Nat) (md : Mode), (store p (.float .f64 y) md).run Try.prog W = stored Try.prog W p (.float .f64 y) md := fun W p y md => store_flt Try.prog W p .f64 y md
    have u0 : b1.drew.cell? ⟨K0, 0, none⟩ = some (.float .f64 so) := c1
    have u1 : b1.drew.cell? ⟨R0, 0, none⟩ = some (.float .f64 rb) := e0
    have u2 : b1.drew.cell? ⟨R0, 1, none⟩ = some (.float .f64 rs) := e1
    have u3 : b1.drew.cell? ⟨R0, 2, none⟩ = some (.float .f64 rc) := e2
    have HB1 := hid hb
    clear hb HFc
    gi_wp2
    gi_region_with (refine ⟨trivial, ?_⟩; refine (CallsIn.inRound l (callsIn_wide.2 HFq.out)).mono ?_; rintro e b2w ⟨rfl, v0, v1, HV⟩)
    all_goals
      gi_wp2
      have hW := b2 HB1.out HV.out
      have hpW : pb < W.heap.size := Nat.lt_of_lt_of_le HFb.out.lt HRW.out.size
      refine ⟨(ndkeeps_below hW).trans (KeepsOthers.setCell _ _ _), ?_, ?_, ?_, (HRW.out.later hW).put 0 _, (HBW.out.trans (hW.mono HBW.out.size)).setCell (p := ⟨K0, 0, none⟩) (show w.heap.size ≤ K0 by omega) _⟩
      · exact (World.cell?_of_block (Below.heap_setCell _ _ _ _ (show pb ≠ K0 by omega))).trans (hW.cell (p := ⟨pb, 0, none⟩) hpW)
      · rw [HMp.out, ← HSN.out]; exact World.cell?_setCell_same' _ _ _ (by rw [v0]; rfl)
      · rw [World.frozen?_setCell]; exact v1
  case done =>
    rintro D xs W hD rfl ⟨hc, hf, hR, hB⟩ hKD
    rw [ndfin_map] at hc
    have HBR0 := hid (hR.box HR03.out (show w.heap.size ≠ K0 by omega))
    have HBR1 := hid (hR.box HR13.out (show w.heap.size + 1 ≠ K0 by omega))
    have HB := hid hB
    have HD := hid hKD
    have hDl : w.heap.size ≤ D := Nat.le_trans n5 hD
    have sF : ∀ (W : World) (p : Addr) (y : Nat) (md : Mode), (store p (.float .f64 y) md).run Try.prog W = stored Try.prog W p (.float .f64 y) md := fun W p y md => store_flt Try.prog W p .f64 y md
    have s0 : W.cell? ⟨w.heap.size, 0, none⟩ = some (.float .f64 0) := HBR0.out.cell 0
    have s1 := HBR0.out.free 0
    have s2 : W.cell? ⟨w.heap.size + 1, 0, none⟩ = some (.int .i64 0) := HBR1.out.cell 0
    have s3 := HBR1.out.free 0
    clear hB hKD hR HS HFac HI
    gi_wp2
    have HSW := (HBR0.out.set 0 (.float .f64 r)).other ⟨w.heap.size + 1, 0, none⟩ (.int .i64 0) (by show w.heap.size ≠ w.heap.size + 1; omega)
    have HLW := (HBR1.out.other ⟨w.heap.size, 0, none⟩ (.float .f64 r) (by show w.heap.size + 1 ≠ w.heap.size; omega)).set 0 (.int .i64 0)
    have c1 := HSW.cell 0
    have c2 := HLW.cell 0
    have hk1 := ((KeepsOthers.setCell W ⟨w.heap.size, 0, none⟩ (.float .f64 r)).trans (KeepsOthers.setCell _ ⟨w.heap.size + 1, 0, none⟩ (.int .i64 0))).same D _ HD.out rfl
    have hbz := (HB.out.setCell (p := ⟨w.heap.size, 0, none⟩) (Nat.le_refl _) (.float .f64 r)).setCell (p := ⟨w.heap.size + 1, 0, none⟩) (show w.heap.size ≤ w.heap.size + 1 by omega) (.int .i64 0)
    refine ⟨by simp, .inl ⟨_, _, rfl, run_takeDeferred hk1, ?_⟩⟩
    have d1 := cell_kept c1 (grownBy_putObj' _ D (.deferred none)) (fun r e => by cases e; exact ⟨_, hk1, rfl⟩)
    have d2 := cell_kept c2 (grownBy_putObj' _ D (.deferred none)) (fun r e => by cases e; exact ⟨_, hk1, rfl⟩)
    refine ⟨.tuple #[.float .f64 r, .int .i64 0], ?_, rfl, hbz.trans (belowK_b (w := w) (Nat.le_refl _) _ D _ (.deferred none) hDl hk1 rfl rfl)⟩
    simp [results, Try.results16, go_sem, d1, d2]
end Go.Proofs.Ytodihhokodnmkaa

/- package nodal: Mean where it is refused. -/
namespace Go.Proofs.Ytodihhokodnmkaa
open Go.RowKit Go.Shelf
set_option linter.unusedVariables false
set_option linter.unusedSimpArgs false

set_option maxHeartbeats 1600000 in
set_option maxRecDepth 100000 in
theorem ndMean_span (n : ByteArray) (a b E : Int) (w : World) (ha : I64 a) (hb : I64 b) (hE : spnR a b = E) (h0 : (E == 0) = false) :
    Calls Try.prog 16 #[.string n, .int .i64 a, .int .i64 b] w fun e w' => e = .returned (.tuple #[.float .f64 0, .int .i64 E]) ∧ Below w.heap.size w w' := by
  have HSp := hid (fun V => ckspn_any a b V ha hb)
  rw [hE] at HSp
  have HX := hid (boxes2t w 27 24 #[.float .f64 0] #[.int .i64 0])
  have sF : ∀ (W : World) (p : Addr) (y : Nat) (md : Mode), (store p (.float .f64 y) md).run Try.prog W = stored Try.prog W p (.float .f64 y) md := fun W p y md => store_flt Try.prog W p .f64 y md
  clear ha hb hE
  go_enter Try.func16, Try.ntmps16
  go_wp2_with fail
  generalize (w.alloc (.cells #[.float .f64 0] 27)).alloc (.cells #[.int .i64 0] 24) = V0 at *
  refine Calls.mono (HSp.out _) ?_
  rintro e w1 ⟨rfl, rfl⟩
  have HB := hid HX.out.2.2
  have HF0 := hid HX.out.1
  have HF1 := hid HX.out.2.1
  clear HX
  obtain ⟨W1, rfl⟩ : ∃ W1, W1 = w1 := ⟨_, rfl⟩
  have s0 : W1.cell? ⟨w.heap.size, 0, none⟩ = some (.float .f64 0) := HF0.out.cell 0
  have s1 := HF0.out.free 0
  have s2 : W1.cell? ⟨w.heap.size + 1, 0, none⟩ = some (.int .i64 0) := HF1.out.cell 0
  have s3 := HF1.out.free 0
  go_wp2_with fail
  have k1 := ((HF0.out.set 0 (.float .f64 0)).other ⟨w.heap.size + 1, 0, none⟩ (.int .i64 E) (by show w.heap.size ≠ w.heap.size + 1; omega)).cell 0
  have k2 := ((HF1.out.other ⟨w.heap.size, 0, none⟩ (.float .f64 0) (by show w.heap.size + 1 ≠ w.heap.size; omega)).set 0 (.int .i64 E)).cell 0
  refine bodyPost_ret (v := Value.tuple #[.float .f64 0, .int .i64 E]) (by simp [results, Try.results16, go_sem, k1, k2]) rfl ?_
  exact ⟨rfl, (HB.out.setCell (p := ⟨w.heap.size, 0, none⟩) (Nat.le_refl _) _).setCell (p := ⟨w.heap.size + 1, 0, none⟩) (show w.heap.size ≤ w.heap.size + 1 by omega) _⟩
set_option maxHeartbeats 1600000 in
set_option maxRecDepth 100000 in
theorem ndMean_same (n : ByteArray) (a b : Int) (w : World) (ha : I64 a) (hb : I64 b) (hE : spnR a b = 0) (h0 : (a == b) = true) :
    Calls Try.prog 16 #[.string n, .int .i64 a, .int .i64 b] w fun e w' => e = .returned (.tuple #[.float .f64 0, .int .i64 2]) ∧ Below w.heap.size w w' := by
  have HSp := hid (fun V => ckspn_any a b V ha hb)
  rw [hE] at HSp
  have HX := hid (boxes2t w 27 24 #[.float .f64 0] #[.int .i64 0])
  have sF : ∀ (W : World) (p : Addr) (y : Nat) (md : Mode), (store p (.float .f64 y) md).run Try.prog W = stored Try.prog W p (.float .f64 y) md := fun W p y md => store_flt Try.prog W p .f64 y md
  clear ha hb hE
  go_enter Try.func16, Try.ntmps16
  go_wp2_with fail
  generalize (w.alloc (.cells #[.float .f64 0] 27)).alloc (.cells #[.int .i64 0] 24) = V0 at *
  refine Calls.mono (HSp.out _) ?_
  rintro e w1 ⟨rfl, rfl⟩
  have HB := hid HX.out.2.2
  have HF0 := hid HX.out.1
  have HF1 := hid HX.out.2.1
  clear HX
  obtain ⟨W1, rfl⟩ : ∃ W1, W1 = w1 := ⟨_, rfl⟩
  have s0 : W1.cell? ⟨w.heap.size, 0, none⟩ = some (.float .f64 0) := HF0.out.cell 0
  have s1 := HF0.out.free 0
  have s2 : W1.cell? ⟨w.heap.size + 1, 0, none⟩ = some (.int .i64 0) := HF1.out.cell 0
  have s3 := HF1.out.free 0
  go_wp2_with fail
  have k1 := ((HF0.out.set 0 (.float .f64 0)).other ⟨w.heap.size + 1, 0, none⟩ (.int .i64 2) (by show w.heap.size ≠ w.heap.size + 1; omega)).cell 0
  have k2 := ((HF1.out.other ⟨w.heap.size, 0, none⟩ (.float .f64 0) (by show w.heap.size + 1 ≠ w.heap.size; omega)).set 0 (.int .i64 2)).cell 0
  refine bodyPost_ret (v := Value.tuple #[.float .f64 0, .int .i64 2]) (by simp [results, Try.results16, go_sem, k1, k2]) rfl ?_
  exact ⟨rfl, (HB.out.setCell (p := ⟨w.heap.size, 0, none⟩) (Nat.le_refl _) _).setCell (p := ⟨w.heap.size + 1, 0, none⟩) (show w.heap.size ≤ w.heap.size + 1 by omega) _⟩
set_option maxHeartbeats 1600000 in
set_option maxRecDepth 100000 in
theorem ndMean_none (n : ByteArray) (a b : Int) (w : World) (ha : I64 a) (hb : I64 b) (hE : spnR a b = 0) (h0 : (a == b) = false) (hn : ndK n.toList = none) :
    Calls Try.prog 16 #[.string n, .int .i64 a, .int .i64 b] w fun e w' => e = .returned (.tuple #[.float .f64 0, .int .i64 6]) ∧ Below w.heap.size w w' := by
  have HSp := hid (fun V => ckspn_any a b V ha hb)
  rw [hE] at HSp
  have HF := hid (fun V => ndfind_any n V)
  rw [hn, show ndV none = Value.tuple #[.agg #[.float .f64 0, .float .f64 0, .float .f64 0], .int .i64 6] from rfl] at HF
  have HX := hid (boxes2t w 27 24 #[.float .f64 0] #[.int .i64 0])
  clear ha hb hE
  go_enter Try.func16, Try.ntmps16
  go_wp2_with fail
  generalize (w.alloc (.cells #[.float .f64 0] 27)).alloc (.cells #[.int .i64 0] 24) = V0 at *
  refine Calls.mono (HSp.out _) ?_
  rintro e w1 ⟨rfl, rfl⟩
  have HB := hid HX.out.2.2
  have HF0 := hid HX.out.1
  have HF1 := hid HX.out.2.1
  clear HX
  go_wp2_with fail
  refine Calls.mono (HF.out _) ?_
  rintro e w2 ⟨rfl, hb2⟩
  obtain ⟨Y, Y1, Y2, W1, r0, r1, r2, r3, ⟨d0, d1, d2⟩, k1, k2⟩ := newrow Try.prog w2 49 0 0 0
  replace HB := hid (b2 HB.out (b2 hb2 k2))
  replace HF0 := hid (HF0.out.later (b2 hb2 k2) HF0.out.lt)
  replace HF1 := hid (HF1.out.later (b2 hb2 k2) HF1.out.lt)
  clear hb2 k1 k2 HF
  have s0 : W1.cell? ⟨w.heap.size, 0, none⟩ = some (.float .f64 0) := HF0.out.cell 0
  have s1 := HF0.out.free 0
  have s2 : W1.cell? ⟨w.heap.size + 1, 0, none⟩ = some (.int .i64 0) := HF1.out.cell 0
  have s3 := HF1.out.free 0
  have t1 : (store ⟨w.heap.size, 0, none⟩ (.float .f64 0)).run Try.prog W1 = .ok () (W1.setCell ⟨w.heap.size, 0, none⟩ (.float .f64 0)) := by rw [store_flt]; simp [go_sem, s0, s1]
  go_wp2_with fail
  have k1 := ((HF0.out.set 0 (.float .f64 0)).other ⟨w.heap.size + 1, 0, none⟩ (.int .i64 6) (by show w.heap.size ≠ w.heap.size + 1; omega)).cell 0
  have k2 := ((HF1.out.other ⟨w.heap.size, 0, none⟩ (.float .f64 0) (by show w.heap.size + 1 ≠ w.heap.size; omega)).set 0 (.int .i64 6)).cell 0
  refine bodyPost_ret (v := Value.tuple #[.float .f64 0, .int .i64 6]) (by simp [results, Try.results16, go_sem, k1, k2]) rfl ?_
  exact ⟨rfl, (HB.out.setCell (p := ⟨w.heap.size, 0, none⟩) (Nat.le_refl _) _).setCell (p := ⟨w.heap.size + 1, 0, none⟩) (show w.heap.size ≤ w.heap.size + 1 by omega) _⟩
end Go.Proofs.Ytodihhokodnmkaa

/- The document's sine and cosine, of any float. -/
namespace Go.Proofs.Ytodihhokodnmkaa
open Go.RowKit
set_option linter.unusedVariables false

/-- What stands below 1, by their bits. -/
def sinD : List Nat := [13841813454723219456, 4638144666238189568, 13885635590159859712, 4689977843394805760, 13943998388916715520, 4753323511810883584, 14011551075333570560]
def cosD : List Nat := [13835058055282163712, 4627448617123184640, 13872916439649746944, 4675774352187195392, 13928419236864065536, 4736815922046566400, 13993893759104843776, 4806193436988276736]

set_option maxHeartbeats 800000 in
set_option maxRecDepth 100000 in
theorem dover_neg (x r : Nat) (w : World) (h1 : (FloatKind.f64.format.order x 0 == some .lt) = true) (h2 : floatBits .quo .f64 13830554455654793216 (fneg x) = some r) :
    Calls Try.prog 64 #[.float .f64 x] w fun e w' => e = .returned (.float .f64 r) ∧ w' = w := by
  have HN : ∀ x, Op.unary .neg (.float .f64 x) = pure (.float .f64 (fneg x)) := fun _ => rfl
  have hq : ∀ V, (binOp .quo 27 (.float .f64 13830554455654793216) (.float .f64 (fneg x))).run Try.prog V = .ok (.float .f64 r) V := fun V => run_float_arith V _ _ _ _ _ _ h2
  clear h2
  go_enter Try.func64, Try.ntmps64
  go_wp2_with fail
  go_ret
  exact ⟨rfl, rfl⟩
set_option maxHeartbeats 800000 in
set_option maxRecDepth 100000 in
theorem dover_pos (x r : Nat) (w : World) (h1 : (FloatKind.f64.format.order x 0 == some .lt) = false) (h2 : floatBits .quo .f64 4607182418800017408 x = some r) :
    Calls Try.prog 64 #[.float .f64 x] w fun e w' => e = .returned (.float .f64 r) ∧ w' = w := by
  have hq : ∀ V, (binOp .quo 27 (.float .f64 4607182418800017408) (.float .f64 x)).run Try.prog V = .ok (.float .f64 r) V := fun V => run_float_arith V _ _ _ _ _ _ h2
  clear h2
  go_enter Try.func64, Try.ntmps64
  go_wp2_with fail
  go_ret
  exact ⟨rfl, rfl⟩

set_option maxHeartbeats 1600000 in
set_option maxRecDepth 100000 in
theorem dsines_any (w : World) : Calls Try.prog 63 #[] w fun e w' => e = .returned (.agg #[.float .f64 13841813454723219456, .float .f64 4638144666238189568, .float .f64 13885635590159859712, .float .f64 4689977843394805760, .float .f64 13943998388916715520, .float .f64 4753323511810883584, .float .f64 14011551075333570560]) ∧ Below w.heap.size w w' := by
  have HX := hid (FBox.made w 90 #[.float .f64 0, .float .f64 0, .float .f64 0, .float .f64 0, .float .f64 0, .float .f64 0, .float .f64 0])
  have HB : Hid (Below w.heap.size w (w.alloc (.cells #[.float .f64 0, .float .f64 0, .float .f64 0, .float .f64 0, .float .f64 0, .float .f64 0, .float .f64 0] 90))) := (Below.refl _ _).alloc (Nat.le_refl _) _
  obtain ⟨X, hX⟩ : ∃ X, w.alloc (.cells #[.float .f64 0, .float .f64 0, .float .f64 0, .float .f64 0, .float .f64 0, .float .f64 0, .float .f64 0] 90) = X := ⟨_, rfl⟩
  rw [hX] at HX HB
  obtain ⟨X1, s1, h1, bl1⟩ := store_box Try.prog HX.out 0 (by simp) 13841813454723219456
  obtain ⟨X2, s2, h2, bl2⟩ := store_box Try.prog h1 1 (by simp) 4638144666238189568
  obtain ⟨X3, s3, h3, bl3⟩ := store_box Try.prog h2 2 (by simp) 13885635590159859712
  obtain ⟨X4, s4, h4, bl4⟩ := store_box Try.prog h3 3 (by simp) 4689977843394805760
  obtain ⟨X5, s5, h5, bl5⟩ := store_box Try.prog h4 4 (by simp) 13943998388916715520
  obtain ⟨X6, s6, h6, bl6⟩ := store_box Try.prog h5 5 (by simp) 4753323511810883584
  obtain ⟨X7, s7, h7, bl7⟩ := store_box Try.prog h6 6 (by simp) 14011551075333570560
  have g0 : X7.cell? ⟨w.heap.size, 0, none⟩ = some (.float .f64 13841813454723219456) := h7.cell 0
  have g1 : X7.cell? ⟨w.heap.size, 1, none⟩ = some (.float .f64 4638144666238189568) := h7.cell 1
  have g2 : X7.cell? ⟨w.heap.size, 2, none⟩ = some (.float .f64 13885635590159859712) := h7.cell 2
  have g3 : X7.cell? ⟨w.heap.size, 3, none⟩ = some (.float .f64 4689977843394805760) := h7.cell 3
  have g4 : X7.cell? ⟨w.heap.size, 4, none⟩ = some (.float .f64 13943998388916715520) := h7.cell 4
  have g5 : X7.cell? ⟨w.heap.size, 5, none⟩ = some (.float .f64 4753323511810883584) := h7.cell 5
  have g6 : X7.cell? ⟨w.heap.size, 6, none⟩ = some (.float .f64 14011551075333570560) := h7.cell 6
  have HB7 : Hid (Below w.heap.size w X7) := (bl7 _ _ (Nat.le_refl _) (bl6 _ _ (Nat.le_refl _) (bl5 _ _ (Nat.le_refl _) (bl4 _ _ (Nat.le_refl _) (bl3 _ _ (Nat.le_refl _) (bl2 _ _ (Nat.le_refl _) (bl1 _ _ (Nat.le_refl _) (HB.out))))))))
  clear bl1 h1 bl2 h2 bl3 h3 bl4 h4 bl5 h5 bl6 h6 bl7 h7
  go_enter Try.func63, Try.ntmps63
  go_wp2_with fail
  refine bodyPost_ret (v := .agg #[.float .f64 13841813454723219456, .float .f64 4638144666238189568, .float .f64 13885635590159859712, .float .f64 4689977843394805760, .float .f64 13943998388916715520, .float .f64 4753323511810883584, .float .f64 14011551075333570560]) (by simp [results, Try.results63, go_sem, g0, g1, g2, g3, g4, g5, g6]) rfl ?_
  exact ⟨rfl, HB7.out⟩

theorem dover_sine (k : Nat) (hk : k < 7) (w : World) : Calls Try.prog 64 #[.float .f64 (sinD[k]?.getD 0)] w fun e w' => e = .returned (.float .f64 (sinC[6 - k]?.getD 0)) ∧ w' = w := by
  match k, hk with
  | 0, _ => exact dover_neg 13841813454723219456 13818544856648471893 w (by kernel_rfl) (by kernel_rfl)
  | 1, _ => exact dover_pos 4638144666238189568 4575957461383581969 w (by kernel_rfl) (by kernel_rfl)
  | 2, _ => exact dover_neg 13885635590159859712 13774824197408792602 w (by kernel_rfl) (by kernel_rfl)
  | 3, _ => exact dover_pos 4689977843394805760 4523617214285662004 w (by kernel_rfl) (by kernel_rfl)
  | 4, _ => exact dover_neg 13943998388916715520 13716528800881525988 w (by kernel_rfl) (by kernel_rfl)
  | 5, _ => exact dover_pos 4753323511810883584 4460272573143870729 w (by kernel_rfl) (by kernel_rfl)
  | 6, _ => exact dover_neg 14011551075333570560 13648976655441704991 w (by kernel_rfl) (by kernel_rfl)

set_option maxHeartbeats 3200000 in
set_option maxRecDepth 100000 in
theorem dsine_any (y q : Nat) (w : World) : Calls Try.prog 44 #[.float .f64 y, .float .f64 q] w fun e w' => ∃ r, e = .returned (.float .f64 r) ∧ (∃ h a b, Horn q 13648976655441704991 (sinC.drop 1) h ∧ FN .mul y q a ∧ FN .mul a h b ∧ FN .add y b r) ∧ Below w.heap.size w w' := by
  have rA := fadd_run Try.prog 27
  have rM := fmul_run Try.prog 27
  have HO := hid (fun k (hk : k < 7) V => dover_sine k hk V)
  go_enter Try.func44, Try.ntmps44
  go_wp2_with fail
  refine Calls.mono (dsines_any _) ?_
  rintro e w1 ⟨rfl, hb1⟩
  have HX := hid (FBox.made w1 90 #[.float .f64 0, .float .f64 0, .float .f64 0, .float .f64 0, .float .f64 0, .float .f64 0, .float .f64 0])
  have HB : Hid (Below w1.heap.size w1 (w1.alloc (.cells #[.float .f64 0, .float .f64 0, .float .f64 0, .float .f64 0, .float .f64 0, .float .f64 0, .float .f64 0] 90))) := (Below.refl _ _).alloc (Nat.le_refl _) _
  obtain ⟨X, hX⟩ : ∃ X, w1.alloc (.cells #[.float .f64 0, .float .f64 0, .float .f64 0, .float .f64 0, .float .f64 0, .float .f64 0, .float .f64 0] 90) = X := ⟨_, rfl⟩
  rw [hX] at HX HB
  obtain ⟨X1, s1, h1, bl1⟩ := store_box Try.prog HX.out 0 (by simp) 13841813454723219456
  obtain ⟨X2, s2, h2, bl2⟩ := store_box Try.prog h1 1 (by simp) 4638144666238189568
  obtain ⟨X3, s3, h3, bl3⟩ := store_box Try.prog h2 2 (by simp) 13885635590159859712
  obtain ⟨X4, s4, h4, bl4⟩ := store_box Try.prog h3 3 (by simp) 4689977843394805760
  obtain ⟨X5, s5, h5, bl5⟩ := store_box Try.prog h4 4 (by simp) 13943998388916715520
  obtain ⟨X6, s6, h6, bl6⟩ := store_box Try.prog h5 5 (by simp) 4753323511810883584
  obtain ⟨X7, s7, h7, bl7⟩ := store_box Try.prog h6 6 (by simp) 14011551075333570560
  have g0 : X7.cell? ⟨w1.heap.size, 0, none⟩ = some (.float .f64 13841813454723219456) := h7.cell 0
  have g1 : X7.cell? ⟨w1.heap.size, 1, none⟩ = some (.float .f64 4638144666238189568) := h7.cell 1
  have g2 : X7.cell? ⟨w1.heap.size, 2, none⟩ = some (.float .f64 13885635590159859712) := h7.cell 2
  have g3 : X7.cell? ⟨w1.heap.size, 3, none⟩ = some (.float .f64 4689977843394805760) := h7.cell 3
  have g4 : X7.cell? ⟨w1.heap.size, 4, none⟩ = some (.float .f64 13943998388916715520) := h7.cell 4
  have g5 : X7.cell? ⟨w1.heap.size, 5, none⟩ = some (.float .f64 4753323511810883584) := h7.cell 5
  have g6 : X7.cell? ⟨w1.heap.size, 6, none⟩ = some (.float .f64 14011551075333570560) := h7.cell 6
  have HB7 : Hid (Below w1.heap.size w1 X7) := (bl7 _ _ (Nat.le_refl _) (bl6 _ _ (Nat.le_refl _) (bl5 _ _ (Nat.le_refl _) (bl4 _ _ (Nat.le_refl _) (bl3 _ _ (Nat.le_refl _) (bl2 _ _ (Nat.le_refl _) (bl1 _ _ (Nat.le_refl _) (HB.out))))))))
  have HF := hid h7
  have HBA := hid (b2 hb1 HB7.out)
  clear bl1 h1 bl2 h2 bl3 h3 bl4 h4 bl5 h5 bl6 h6 bl7 h7 hb1 HB
  go_wp2_with fail
  refine Calls.mono (HO.out 6 (by omega) _) ?_
  rintro e w2 ⟨rfl, rfl⟩
  have HC : Hid (∀ V, Below w2.heap.size w2 V → ∀ j, j < 7 → V.cell? ⟨w1.heap.size, j, none⟩ = some (.float .f64 (sinD[j]?.getD 0))) := fun V hv j hj => by
    rw [(HF.out.later hv HF.out.lt).cell j]
    match j, hj with
    | 0, _ => rfl
    | 1, _ => rfl
    | 2, _ => rfl
    | 3, _ => rfl
    | 4, _ => rfl
    | 5, _ => rfl
    | 6, _ => rfl
    | j + 7, hj => omega
  clear s1 s2 s3 s4 s5 s6 s7 g0 g1 g2 g3 g4 g5 g6
  go_wp2_with fail
  go_loopw [6, 7] (fun h t wr => ∃ (m y : Nat) (kk : Int), m ≤ 6 ∧ kk = (m : Int) - 1 ∧ t = .int .i64 kk ∧ h = .float .f64 y ∧ Hid (∀ r, Horn q y (sinC.drop (7 - m)) r → Horn q 13648976655441704991 (sinC.drop 1) r) ∧ Below w2.heap.size w2 wr) (fun _ t _ => ((intOf t) + 1).toNat)
  case atStart => exact ⟨6, _, _, Nat.le_refl _, by omega, rfl, rfl, fun r hr => hr, Below.refl _ _⟩
  case round =>
    obtain ⟨m, y', kk, hm, hkk, rfl, rfl, HI, hb⟩ := hrel
    by_cases h0 : m = 0
    · subst h0
      have hk0 : kk = -1 := by omega
      subst hk0
      have HR := hid (HI.out y' (rfl : y' = y'))
      have HBE := hid (b2 HBA.out hb)
      clear HI hkk hb
      go_wp2_with fail
      go_returns
      refine ⟨_, rfl, ⟨_, _, _, HR.out, fval_fn .mul _ _ _, fval_fn .mul _ _ _, fval_fn .add _ _ _⟩, ?_⟩
      repeat refine fwld_below _ _ _ ?_
      exact HBE.out
    · obtain ⟨j, rfl⟩ : ∃ j, m = j + 1 := ⟨m - 1, by omega⟩
      obtain rfl : kk = (j : Int) := by omega
      have hj : j < 7 := by omega
      have hcx := HC.out (fwld .mul wr y' q) (fwld_below .mul y' q hb) j (by omega)
      have HOj := hid (fun V => HO.out j (by omega) V)
      have HS : Hid (∀ p s, FN .mul y' q p → FN .add p (sinC[6 - j]?.getD 0) s → ∀ r, Horn q s (sinC.drop (7 - j)) r → Horn q 13648976655441704991 (sinC.drop 1) r) := fun p s h1 h2 r hr => HI.out r (by
        rw [drop_at sinC (7 - (j + 1)) (by show 7 - (j + 1) < 7; omega)]
        rw [show 6 - j = 7 - (j + 1) by omega] at h2
        rw [show 7 - (j + 1) + 1 = 7 - j by omega]
        exact ⟨p, s, h1, h2, hr⟩)
      clear HI hkk
      generalize sinD[j]?.getD 0 = x at *
      generalize sinC[6 - j]?.getD 0 = z at *
      have j0 : (0 : Int) ≤ (j : Int) := by omega
      have j1 : (j : Int) < 7 := by omega
      go_wp2_with fail
      refine Calls.mono (HOj.out _) ?_
      rintro e w3 ⟨rfl, hw3⟩
      subst hw3
      go_wp2_with fail
      go_roundw
      case rel => exact ⟨j, _, _, by omega, by omega, rfl, rfl, HS.out _ _ (fval_fn .mul _ _ _) (fval_fn .add _ _ _), fwld_below _ _ _ (fwld_below _ _ _ hb)⟩
      case measure => simp [intOf]

set_option maxHeartbeats 1600000 in
set_option maxRecDepth 100000 in
theorem dcosines_any (w : World) : Calls Try.prog 65 #[] w fun e w' => e = .returned (.agg #[.float .f64 13835058055282163712, .float .f64 4627448617123184640, .float .f64 13872916439649746944, .float .f64 4675774352187195392, .float .f64 13928419236864065536, .float .f64 4736815922046566400, .float .f64 13993893759104843776, .float .f64 4806193436988276736]) ∧ Below w.heap.size w w' := by
  have HX := hid (FBox.made w 75 #[.float .f64 0, .float .f64 0, .float .f64 0, .float .f64 0, .float .f64 0, .float .f64 0, .float .f64 0, .float .f64 0])
  have HB : Hid (Below w.heap.size w (w.alloc (.cells #[.float .f64 0, .float .f64 0, .float .f64 0, .float .f64 0, .float .f64 0, .float .f64 0, .float .f64 0, .float .f64 0] 75))) := (Below.refl _ _).alloc (Nat.le_refl _) _
  obtain ⟨X, hX⟩ : ∃ X, w.alloc (.cells #[.float .f64 0, .float .f64 0, .float .f64 0, .float .f64 0, .float .f64 0, .float .f64 0, .float .f64 0, .float .f64 0] 75) = X := ⟨_, rfl⟩
  rw [hX] at HX HB
  obtain ⟨X1, s1, h1, bl1⟩ := store_box Try.prog HX.out 0 (by simp) 13835058055282163712
  obtain ⟨X2, s2, h2, bl2⟩ := store_box Try.prog h1 1 (by simp) 4627448617123184640
  obtain ⟨X3, s3, h3, bl3⟩ := store_box Try.prog h2 2 (by simp) 13872916439649746944
  obtain ⟨X4, s4, h4, bl4⟩ := store_box Try.prog h3 3 (by simp) 4675774352187195392
  obtain ⟨X5, s5, h5, bl5⟩ := store_box Try.prog h4 4 (by simp) 13928419236864065536
  obtain ⟨X6, s6, h6, bl6⟩ := store_box Try.prog h5 5 (by simp) 4736815922046566400
  obtain ⟨X7, s7, h7, bl7⟩ := store_box Try.prog h6 6 (by simp) 13993893759104843776
  obtain ⟨X8, s8, h8, bl8⟩ := store_box Try.prog h7 7 (by simp) 4806193436988276736
  have g0 : X8.cell? ⟨w.heap.size, 0, none⟩ = some (.float .f64 13835058055282163712) := h8.cell 0
  have g1 : X8.cell? ⟨w.heap.size, 1, none⟩ = some (.float .f64 4627448617123184640) := h8.cell 1
  have g2 : X8.cell? ⟨w.heap.size, 2, none⟩ = some (.float .f64 13872916439649746944) := h8.cell 2
  have g3 : X8.cell? ⟨w.heap.size, 3, none⟩ = some (.float .f64 4675774352187195392) := h8.cell 3
  have g4 : X8.cell? ⟨w.heap.size, 4, none⟩ = some (.float .f64 13928419236864065536) := h8.cell 4
  have g5 : X8.cell? ⟨w.heap.size, 5, none⟩ = some (.float .f64 4736815922046566400) := h8.cell 5
  have g6 : X8.cell? ⟨w.heap.size, 6, none⟩ = some (.float .f64 13993893759104843776) := h8.cell 6
  have g7 : X8.cell? ⟨w.heap.size, 7, none⟩ = some (.float .f64 4806193436988276736) := h8.cell 7
  have HB7 : Hid (Below w.heap.size w X8) := (bl8 _ _ (Nat.le_refl _) (bl7 _ _ (Nat.le_refl _) (bl6 _ _ (Nat.le_refl _) (bl5 _ _ (Nat.le_refl _) (bl4 _ _ (Nat.le_refl _) (bl3 _ _ (Nat.le_refl _) (bl2 _ _ (Nat.le_refl _) (bl1 _ _ (Nat.le_refl _) (HB.out)))))))))
  clear bl1 h1 bl2 h2 bl3 h3 bl4 h4 bl5 h5 bl6 h6 bl7 h7 bl8 h8
  go_enter Try.func65, Try.ntmps65
  go_wp2_with fail
  refine bodyPost_ret (v := .agg #[.float .f64 13835058055282163712, .float .f64 4627448617123184640, .float .f64 13872916439649746944, .float .f64 4675774352187195392, .float .f64 13928419236864065536, .float .f64 4736815922046566400, .float .f64 13993893759104843776, .float .f64 4806193436988276736]) (by simp [results, Try.results65, go_sem, g0, g1, g2, g3, g4, g5, g6, g7]) rfl ?_
  exact ⟨rfl, HB7.out⟩

theorem dover_cosine (k : Nat) (hk : k < 8) (w : World) : Calls Try.prog 64 #[.float .f64 (cosD[k]?.getD 0)] w fun e w' => e = .returned (.float .f64 (cosC[7 - k]?.getD 0)) ∧ w' = w := by
  match k, hk with
  | 0, _ => exact dover_neg 13835058055282163712 13826050856027422720 w (by kernel_rfl) (by kernel_rfl)
  | 1, _ => exact dover_pos 4627448617123184640 4586165620538955093 w (by kernel_rfl) (by kernel_rfl)
  | 2, _ => exact dover_neg 13872916439649746944 13787419979223755799 w (by kernel_rfl) (by kernel_rfl)
  | 3, _ => exact dover_pos 4675774352187195392 4537941361671905306 w (by kernel_rfl) (by kernel_rfl)
  | 4, _ => exact dover_neg 13928419236864065536 13732177094651715420 w (by kernel_rfl) (by kernel_rfl)
  | 5, _ => exact dover_pos 4736815922046566400 4477122120089393304 w (by kernel_rfl) (by kernel_rfl)
  | 6, _ => exact dover_neg 13993893759104843776 13666517717442657437 w (by kernel_rfl) (by kernel_rfl)
  | 7, _ => exact dover_pos 4806193436988276736 4407590220077447199 w (by kernel_rfl) (by kernel_rfl)

set_option maxHeartbeats 3200000 in
set_option maxRecDepth 100000 in
theorem dcosine_any (q : Nat) (w : World) : Calls Try.prog 45 #[.float .f64 q] w fun e w' => ∃ r, e = .returned (.float .f64 r) ∧ (∃ h b, Horn q 4407590220077447199 (cosC.drop 1) h ∧ FN .mul q h b ∧ FN .add 4607182418800017408 b r) ∧ Below w.heap.size w w' := by
  have rA := fadd_run Try.prog 27
  have rM := fmul_run Try.prog 27
  have HO := hid (fun k (hk : k < 8) V => dover_cosine k hk V)
  go_enter Try.func45, Try.ntmps45
  go_wp2_with fail
  refine Calls.mono (dcosines_any _) ?_
  rintro e w1 ⟨rfl, hb1⟩
  have HX := hid (FBox.made w1 75 #[.float .f64 0, .float .f64 0, .float .f64 0, .float .f64 0, .float .f64 0, .float .f64 0, .float .f64 0, .float .f64 0])
  have HB : Hid (Below w1.heap.size w1 (w1.alloc (.cells #[.float .f64 0, .float .f64 0, .float .f64 0, .float .f64 0, .float .f64 0, .float .f64 0, .float .f64 0, .float .f64 0] 75))) := (Below.refl _ _).alloc (Nat.le_refl _) _
  obtain ⟨X, hX⟩ : ∃ X, w1.alloc (.cells #[.float .f64 0, .float .f64 0, .float .f64 0, .float .f64 0, .float .f64 0, .float .f64 0, .float .f64 0, .float .f64 0] 75) = X := ⟨_, rfl⟩
  rw [hX] at HX HB
  obtain ⟨X1, s1, h1, bl1⟩ := store_box Try.prog HX.out 0 (by simp) 13835058055282163712
  obtain ⟨X2, s2, h2, bl2⟩ := store_box Try.prog h1 1 (by simp) 4627448617123184640
  obtain ⟨X3, s3, h3, bl3⟩ := store_box Try.prog h2 2 (by simp) 13872916439649746944
  obtain ⟨X4, s4, h4, bl4⟩ := store_box Try.prog h3 3 (by simp) 4675774352187195392
  obtain ⟨X5, s5, h5, bl5⟩ := store_box Try.prog h4 4 (by simp) 13928419236864065536
  obtain ⟨X6, s6, h6, bl6⟩ := store_box Try.prog h5 5 (by simp) 4736815922046566400
  obtain ⟨X7, s7, h7, bl7⟩ := store_box Try.prog h6 6 (by simp) 13993893759104843776
  obtain ⟨X8, s8, h8, bl8⟩ := store_box Try.prog h7 7 (by simp) 4806193436988276736
  have g0 : X8.cell? ⟨w1.heap.size, 0, none⟩ = some (.float .f64 13835058055282163712) := h8.cell 0
  have g1 : X8.cell? ⟨w1.heap.size, 1, none⟩ = some (.float .f64 4627448617123184640) := h8.cell 1
  have g2 : X8.cell? ⟨w1.heap.size, 2, none⟩ = some (.float .f64 13872916439649746944) := h8.cell 2
  have g3 : X8.cell? ⟨w1.heap.size, 3, none⟩ = some (.float .f64 4675774352187195392) := h8.cell 3
  have g4 : X8.cell? ⟨w1.heap.size, 4, none⟩ = some (.float .f64 13928419236864065536) := h8.cell 4
  have g5 : X8.cell? ⟨w1.heap.size, 5, none⟩ = some (.float .f64 4736815922046566400) := h8.cell 5
  have g6 : X8.cell? ⟨w1.heap.size, 6, none⟩ = some (.float .f64 13993893759104843776) := h8.cell 6
  have g7 : X8.cell? ⟨w1.heap.size, 7, none⟩ = some (.float .f64 4806193436988276736) := h8.cell 7
  have HB7 : Hid (Below w1.heap.size w1 X8) := (bl8 _ _ (Nat.le_refl _) (bl7 _ _ (Nat.le_refl _) (bl6 _ _ (Nat.le_refl _) (bl5 _ _ (Nat.le_refl _) (bl4 _ _ (Nat.le_refl _) (bl3 _ _ (Nat.le_refl _) (bl2 _ _ (Nat.le_refl _) (bl1 _ _ (Nat.le_refl _) (HB.out)))))))))
  have HF := hid h8
  have HBA := hid (b2 hb1 HB7.out)
  clear bl1 h1 bl2 h2 bl3 h3 bl4 h4 bl5 h5 bl6 h6 bl7 h7 bl8 h8 hb1 HB
  go_wp2_with fail
  refine Calls.mono (HO.out 7 (by omega) _) ?_
  rintro e w2 ⟨rfl, rfl⟩
  have HC : Hid (∀ V, Below w2.heap.size w2 V → ∀ j, j < 8 → V.cell? ⟨w1.heap.size, j, none⟩ = some (.float .f64 (cosD[j]?.getD 0))) := fun V hv j hj => by
    rw [(HF.out.later hv HF.out.lt).cell j]
    match j, hj with
    | 0, _ => rfl
    | 1, _ => rfl
    | 2, _ => rfl
    | 3, _ => rfl
    | 4, _ => rfl
    | 5, _ => rfl
    | 6, _ => rfl
    | 7, _ => rfl
    | j + 8, hj => omega
  clear s1 s2 s3 s4 s5 s6 s7 s8 g0 g1 g2 g3 g4 g5 g6 g7
  go_wp2_with fail
  go_loopw [4, 5] (fun h t wr => ∃ (m y : Nat) (kk : Int), m ≤ 7 ∧ kk = (m : Int) - 1 ∧ t = .int .i64 kk ∧ h = .float .f64 y ∧ Hid (∀ r, Horn q y (cosC.drop (8 - m)) r → Horn q 4407590220077447199 (cosC.drop 1) r) ∧ Below w2.heap.size w2 wr) (fun _ t _ => ((intOf t) + 1).toNat)
  case atStart => exact ⟨7, _, _, Nat.le_refl _, by omega, rfl, rfl, fun r hr => hr, Below.refl _ _⟩
  case round =>
    obtain ⟨m, y', kk, hm, hkk, rfl, rfl, HI, hb⟩ := hrel
    by_cases h0 : m = 0
    · subst h0
      have hk0 : kk = -1 := by omega
      subst hk0
      have HR := hid (HI.out y' (rfl : y' = y'))
      have HBE := hid (b2 HBA.out hb)
      clear HI hkk hb
      go_wp2_with fail
      go_returns
      refine ⟨_, rfl, ⟨_, _, HR.out, fval_fn .mul _ _ _, fval_fn .add _ _ _⟩, ?_⟩
      repeat refine fwld_below _ _ _ ?_
      exact HBE.out
    · obtain ⟨j, rfl⟩ : ∃ j, m = j + 1 := ⟨m - 1, by omega⟩
      obtain rfl : kk = (j : Int) := by omega
      have hj : j < 8 := by omega
      have hcx := HC.out (fwld .mul wr y' q) (fwld_below .mul y' q hb) j (by omega)
      have HOj := hid (fun V => HO.out j (by omega) V)
      have HS : Hid (∀ p s, FN .mul y' q p → FN .add p (cosC[7 - j]?.getD 0) s → ∀ r, Horn q s (cosC.drop (8 - j)) r → Horn q 4407590220077447199 (cosC.drop 1) r) := fun p s h1 h2 r hr => HI.out r (by
        rw [drop_at cosC (8 - (j + 1)) (by show 8 - (j + 1) < 8; omega)]
        rw [show 7 - j = 8 - (j + 1) by omega] at h2
        rw [show 8 - (j + 1) + 1 = 8 - j by omega]
        exact ⟨p, s, h1, h2, hr⟩)
      clear HI hkk
      generalize cosD[j]?.getD 0 = x at *
      generalize cosC[7 - j]?.getD 0 = z at *
      have j0 : (0 : Int) ≤ (j : Int) := by omega
      have j1 : (j : Int) < 8 := by omega
      go_wp2_with fail
      refine Calls.mono (HOj.out _) ?_
      rintro e w3 ⟨rfl, hw3⟩
      subst hw3
      go_wp2_with fail
      go_roundw
      case rel => exact ⟨j, _, _, by omega, by omega, rfl, rfl, HS.out _ _ (fval_fn .mul _ _ _) (fval_fn .add _ _ _), fwld_below _ _ _ (fwld_below _ _ _ hb)⟩
      case measure => simp [intOf]
end Go.Proofs.Ytodihhokodnmkaa

/- The document's turns: gcd, Check, Of, Neg, Sub, Times, of every turn, every two numbers. -/
namespace Go.Proofs.Ytodihhokodnmkaa
open Go.RowKit
set_option linter.unusedVariables false

set_option maxHeartbeats 800000 in
set_option maxRecDepth 100000 in
theorem dgcd_any (a b : Nat) (w : World) (ha : a < 18446744073709551616) (hb : b < 18446744073709551616) :
    Calls Try.prog 62 #[.int .u64 (a : Int), .int .u64 (b : Int)] w fun e w' => e = .returned (.int .u64 (Nat.gcd a b : Nat)) ∧ Below w.heap.size w w' := by
  go_enter Try.func62, Try.ntmps62
  go_wp2_with fail
  go_loopw [0, 1] (fun x y wr => ∃ c d : Nat, x = .int .u64 (c : Int) ∧ y = .int .u64 (d : Int) ∧ c < 18446744073709551616 ∧ d < 18446744073709551616 ∧ Hid (Nat.gcd c d = Nat.gcd a b) ∧ Below w.heap.size w wr) (fun _ y _ => (intOf y).toNat)
  case atStart => exact ⟨a, b, rfl, rfl, ha, hb, (rfl : Nat.gcd a b = Nat.gcd a b), Below.refl _ _⟩
  case round =>
    obtain ⟨c, d, rfl, rfl, hc, hd, hg, hX⟩ := hrel
    by_cases h0 : d = 0
    · subst h0
      have HG : Hid (c = Nat.gcd a b) := by have := hg.out; rw [Nat.gcd_zero_right] at this; exact this
      clear hg
      go_wp2_with fail
      go_ret
      exact ⟨ret_int (by rw [HG.out]), hX⟩
    · have hm : c % d < d := Nat.mod_lt _ (by omega)
      have HG : Hid (Nat.gcd d (c % d) = Nat.gcd a b) := by show _ = _; rw [← hg.out, Nat.gcd_comm c d, Nat.gcd_rec d c, Nat.gcd_comm]
      have h0' : (d : Int) ≠ 0 := by omega
      clear hg
      go_wp2_with fail
      go_region
      all_goals
        go_wp2_with fail
        go_roundw
        case rel => exact ⟨d, c % d, rfl, by go_num, by omega, by omega, HG, hX.drew⟩
        case measure => simp [intOf]; omega

theorem dgcdI (p q : Int) (w : World) (p0 : 0 ≤ p) (p1 : p < 18446744073709551616) (q0 : 0 ≤ q) (q1 : q < 18446744073709551616) :
    Calls Try.prog 62 #[.int .u64 p, .int .u64 q] w fun e w' => e = .returned (.int .u64 (Nat.gcd p.toNat q.toNat : Nat)) ∧ Below w.heap.size w w' := by
  obtain ⟨a, rfl⟩ := Int.eq_ofNat_of_zero_le p0
  obtain ⟨b, rfl⟩ := Int.eq_ofNat_of_zero_le q0
  exact dgcd_any a b w (by omega) (by omega)

set_option maxHeartbeats 800000 in
set_option maxRecDepth 100000 in
theorem dcheck_any (p q : Int) (w : World) (p0 : -9223372036854775808 ≤ p) (p1 : p ≤ 9223372036854775807) (q0 : -9223372036854775808 ≤ q) (q1 : q ≤ 9223372036854775807) :
    Calls Try.prog 43 #[.agg #[.int .i64 p, .int .i64 q]] w fun e w' => e = .returned (.int .i64 (chk p q)) ∧ Below w.heap.size w w' := by
  have hb0 : Below w.heap.size w (w.alloc (.cells #[.int .i64 p, .int .i64 q] 31)) := (Below.refl _ _).alloc (Nat.le_refl _) _
  have HN : Hid (¬ (1 ≤ q ∧ q ≤ 4294967296 ∧ 0 ≤ p ∧ p < q) → chk p q = 180) := fun h => by unfold chk; rw [if_neg]; unfold okI; omega
  have HY : Hid (1 ≤ q ∧ q ≤ 4294967296 ∧ 0 ≤ p ∧ p < q → (Nat.gcd p.toNat q.toNat : Nat) = 1 → chk p q = 0) := fun h g => by unfold chk; rw [if_pos]; unfold okI; omega
  have HY' : Hid (¬ (Nat.gcd p.toNat q.toNat : Nat) = 1 → chk p q = 180) := fun g => by unfold chk; rw [if_neg]; unfold okI; omega
  have HC : Hid (∀ V : World, 0 ≤ p → p < q → q ≤ 4294967296 → Calls Try.prog 62 #[.int .u64 p, .int .u64 q] V fun e w' => e = .returned (.int .u64 (Nat.gcd p.toNat q.toNat : Nat)) ∧ Below V.heap.size V w') := fun V h1 h2 h3 => dgcdI p q V h1 (by omega) (by omega) (by omega)
  obtain ⟨d, hD⟩ : ∃ d, Nat.gcd p.toNat q.toNat = d := ⟨_, rfl⟩
  rw [hD] at HY HY' HC
  clear hD
  go_enter Try.func43, Try.ntmps43
  go_wp2_with fail
  all_goals try (go_ret; exact ⟨ret_int (HN.out (by omega)).symm, hb0⟩)
  refine Calls.mono (HC.out _ (by omega) (by omega) (by omega)) ?_
  rintro e w1 ⟨rfl, hb1⟩
  by_cases h1 : d = 1
  · subst h1
    go_wp2_with fail
    go_ret
    exact ⟨ret_int (HY.out (by omega) (by trivial)).symm, b2 hb0 hb1⟩
  · have h1' : ((d : Int) != 1) = true := by simp; omega
    go_wp2_with fail
    all_goals first
      | (go_ret; exact ⟨ret_int (HY'.out h1).symm, b2 hb0 hb1⟩)
      | (exfalso; rename_i hx; rw [h1'] at hx; exact absurd hx.2 (by decide))


theorem gcd_low (p q : Nat) (hp : p < q) (hq : q ≤ 4294967296) : lowR p q = (((p / Nat.gcd p q : Nat) : Int), ((q / Nat.gcd p q : Nat) : Int), 0) := by
  unfold lowR
  rw [if_pos (Nat.le_trans (Nat.div_le_self _ _) hq)]

theorem neg_of {p q : Int} (h : okI p q) : ofR (-p) q = negR p q := by
  obtain ⟨h1, h2, h3, h4, h5⟩ := gcd_back h
  unfold ofR negR
  rw [if_neg (by omega), if_neg (by omega), if_pos h, gcd_low _ _ (by omega) (by omega), h5, Nat.div_one, Nat.div_one]
  congr 1
  · omega
  · congr 1; omega
theorem times_of {p q : Int} (h : okI p q) (n : Int) : ofR (p * n) q = timesR p q n := by
  have h1 := h.1
  have h2 := h.2.1
  unfold ofR timesR
  rw [if_neg (by omega), if_neg (by omega), if_pos h]

end Go.Proofs.Ytodihhokodnmkaa

/- The document's Root of any turn. -/
namespace Go.Proofs.Ytodihhokodnmkaa
open Go.RowKit
set_option linter.unusedVariables false

set_option maxHeartbeats 800000 in
set_option maxRecDepth 100000 in
theorem dplus_any (x : Nat) (w : World) :
    Calls Try.prog 46 #[.float .f64 x] w fun e w' => e = .returned (.float .f64 (nz x)) ∧ w' = w := by
  cases h : (FloatKind.f64.format.order x 0 == some .eq)
  · have HR : Hid (nz x = x) := by show _ = _; unfold nz; rw [h]; rfl
    go_enter Try.func46, Try.ntmps46
    go_wp2
    go_ret
    exact ⟨by rw [HR.out]; rfl, rfl⟩
  · have HR : Hid (nz x = 0) := by show _ = _; unfold nz; rw [h]; rfl
    go_enter Try.func46, Try.ntmps46
    go_wp2
    go_ret
    exact ⟨by rw [HR.out]; rfl, rfl⟩

def reL (c s : Nat) : List Nat := [c, s, (fneg s), (fneg c), (fneg c), (fneg s), s, c]
def imL (c s : Nat) : List Nat := [s, c, c, s, (fneg s), (fneg c), (fneg c), (fneg s)]
theorem fneg_fneg {x : Nat} (h : x < 18446744073709551616) : fneg (fneg x) = x := by
  unfold fneg Op.negFloat
  rw [Nat.xor_assoc, Nat.xor_self, Nat.xor_zero]
theorem oct_list (k c s : Nat) (hk : k < 8) (hc : c < 18446744073709551616) (hs : s < 18446744073709551616) : ((reL c s)[k]?.getD 0, (imL c s)[k]?.getD 0) = octV k c s := by
  match k, hk with
  | 0, _ | 1, _ | 2, _ | 3, _ | 4, _ | 5, _ => rfl
  | 6, _ => show (s, fneg c) = (fneg (fneg s), fneg c); rw [fneg_fneg hs]
  | 7, _ => show (c, fneg s) = (fneg (fneg c), fneg s); rw [fneg_fneg hc]

theorem re_cell {V : World} {b t c s : Nat} (h : FBox V b t #[.float .f64 c, .float .f64 s, .float .f64 (fneg s), .float .f64 (fneg c), .float .f64 (fneg c), .float .f64 (fneg s), .float .f64 s, .float .f64 c]) (k : Nat) (hk : k < 8) : V.cell? ⟨b, k, none⟩ = some (.float .f64 ((reL c s)[k]?.getD 0)) := by
  rw [h.cell k]
  clear h
  match k, hk with
  | 0, _ | 1, _ | 2, _ | 3, _ | 4, _ | 5, _ | 6, _ | 7, _ => rfl
theorem im_cell {V : World} {b t c s : Nat} (h : FBox V b t #[.float .f64 s, .float .f64 c, .float .f64 c, .float .f64 s, .float .f64 (fneg s), .float .f64 (fneg c), .float .f64 (fneg c), .float .f64 (fneg s)]) (k : Nat) (hk : k < 8) : V.cell? ⟨b, k, none⟩ = some (.float .f64 ((imL c s)[k]?.getD 0)) := by
  rw [h.cell k]
  clear h
  match k, hk with
  | 0, _ | 1, _ | 2, _ | 3, _ | 4, _ | 5, _ | 6, _ | 7, _ => rfl

set_option maxHeartbeats 6400000 in
set_option maxRecDepth 100000 in
theorem droot_ok (p q : Nat) (w : World) (hp : p < q) (hq : q ≤ 4294967296) (hg : Nat.gcd p q = 1) :
    Calls Try.prog 22 #[.agg #[.int .i64 (p : Int), .int .i64 (q : Int)]] w fun e w' => ∃ re im, e = .returned (.tuple #[.complex .f64 re im, .int .i64 0]) ∧ RootR p q re im ∧ Below w.heap.size w w' := by
  have rA := fadd_run Try.prog 27
  have rM := fmul_run Try.prog 27
  have rQ := fquo_run Try.prog 27
  have fr : ∀ V, (callFunc 38 #[.int .u64 4605249457297304856]).run Try.prog V = .ok (.value (.float .f64 4605249457297304856)) V := from_run 4605249457297304856
  have HX := hid (boxes1 w 31 #[.int .i64 (p : Int), .int .i64 (q : Int)])
  have HC := hid (fun V => dcheck_any p q V (by omega) (by omega) (by omega) (by omega))
  have hO : chk p q = 0 := by unfold chk; rw [if_pos]; exact ⟨by omega, by omega, by omega, by omega, by simpa using hg⟩
  rw [hO] at HC
  clear hO hg
  have hk : 8 * p / q < 8 := Nat.div_lt_of_lt_mul (by omega)
  have ha : 8 * p % q < q := Nat.mod_lt _ (by omega)
  have e1 : Int.tdiv (8 * (p : Int)) (q : Int) = ((8 * p / q : Nat) : Int) := by
    rw [Int.tdiv_eq_ediv_of_nonneg (by omega)]; rfl
  have e2 : Int.tmod (8 * (p : Int)) (q : Int) = ((8 * p % q : Nat) : Int) := by
    rw [Int.tmod_eq_emod_of_nonneg (by omega)]; rfl
  have HRR : Hid (∀ re im, RootR p q re im = RootK (8 * p / q) (if 8 * p / q % 2 = 1 then q - 8 * p % q else 8 * p % q) q re im) := fun re im => rfl
  generalize 8 * p / q = k at *
  generalize 8 * p % q = a at *
  have q0 : (q : Int) ≠ 0 := by omega
  by_cases ho : k % 2 = 1
  · rw [if_pos ho] at HRR
    have o1 : (k : Int) % 2 = 1 := by omega
    clear ho
    go_enter Try.func22, Try.ntmps22
    go_wp2_with fail
    generalize w.alloc (.cells #[.int .i64 (p : Int), .int .i64 (q : Int)] 31) = X at *
    refine Calls.mono (HC.out X) ?_
    rintro e w2 ⟨rfl, hb1⟩
    obtain ⟨c0, c1, f0, f1⟩ := fbox_facts HX.out.1 hb1
    have HB2 : Hid (Below X.heap.size X w2) := hb1
    have HF := hid (fval_fn .quo w2 (floatOfInt .f64 (↑q - ↑a)) (floatOfInt .f64 (q : Int)))
    have HBF := hid (fwld_below .quo (floatOfInt .f64 (↑q - ↑a)) (floatOfInt .f64 (q : Int)) HB2.out)
    have HY := hid (fval_fn .mul (fwld .quo w2 (floatOfInt .f64 (↑q - ↑a)) (floatOfInt .f64 (q : Int))) (fval .quo w2 (floatOfInt .f64 (↑q - ↑a)) (floatOfInt .f64 (q : Int))) 4605249457297304856)
    clear hb1
    go_wp2_with fail
    generalize fval .quo w2 (floatOfInt .f64 (↑q - ↑a)) (floatOfInt .f64 (q : Int)) = f at *
    generalize fwld .quo w2 (floatOfInt .f64 (↑q - ↑a)) (floatOfInt .f64 (q : Int)) = w3 at *
    have HBY := hid (fwld_below .mul f 4605249457297304856 HBF.out)
    generalize fval .mul w3 f 4605249457297304856 = y at *
    generalize fwld .mul w3 f 4605249457297304856 = w4 at *
    have HQ := hid (fval_fn .mul w4 y y)
    have HBQ := hid (fwld_below .mul y y HBY.out)
    generalize fval .mul w4 y y = qq at *
    generalize fwld .mul w4 y y = w5 at *
    clear HB2 HBF HBY c0 c1 f0 f1
    refine Calls.mono (dsine_any y qq _) ?_
    rintro e w6 ⟨s, rfl, hs, hb6⟩
    have HSI := hid hs
    clear hs
    go_wp2_with fail
    refine Calls.mono (dcosine_any qq _) ?_
    rintro e w7 ⟨c, rfl, hc, hb7⟩
    have HCO := hid hc
    have HB7 := hid (b2 HX.out.2 (b2 HBQ.out (b2 hb6 hb7)))
    clear hc hb6 hb7 HBQ HX HC
    have HN : ∀ x, Op.unary .neg (.float .f64 x) = pure (.float .f64 (fneg x)) := fun _ => rfl
    have HXR := hid (FBox.made w7 75 #[.float .f64 0, .float .f64 0, .float .f64 0, .float .f64 0, .float .f64 0, .float .f64 0, .float .f64 0, .float .f64 0])
    have HBR : Hid (Below w7.heap.size w7 (w7.alloc (.cells #[.float .f64 0, .float .f64 0, .float .f64 0, .float .f64 0, .float .f64 0, .float .f64 0, .float .f64 0, .float .f64 0] 75))) := (Below.refl _ _).alloc (Nat.le_refl _) _
    obtain ⟨XR, hXR⟩ : ∃ XR, w7.alloc (.cells #[.float .f64 0, .float .f64 0, .float .f64 0, .float .f64 0, .float .f64 0, .float .f64 0, .float .f64 0, .float .f64 0] 75) = XR := ⟨_, rfl⟩
    rw [hXR] at HXR HBR
    obtain ⟨R1, sR1, hR1, blR1⟩ := store_box Try.prog HXR.out 0 (by simp) c
    obtain ⟨R2, sR2, hR2, blR2⟩ := store_box Try.prog hR1 1 (by simp) s
    obtain ⟨R3, sR3, hR3, blR3⟩ := store_box Try.prog hR2 2 (by simp) (fneg s)
    obtain ⟨R4, sR4, hR4, blR4⟩ := store_box Try.prog hR3 3 (by simp) (fneg c)
    obtain ⟨R5, sR5, hR5, blR5⟩ := store_box Try.prog hR4 4 (by simp) (fneg c)
    obtain ⟨R6, sR6, hR6, blR6⟩ := store_box Try.prog hR5 5 (by simp) (fneg s)
    obtain ⟨R7, sR7, hR7, blR7⟩ := store_box Try.prog hR6 6 (by simp) s
    obtain ⟨R8, sR8, hR8, blR8⟩ := store_box Try.prog hR7 7 (by simp) c
    have HBR8 : Hid (Below w7.heap.size w7 R8) := (blR8 _ _ (Nat.le_refl _) (blR7 _ _ (Nat.le_refl _) (blR6 _ _ (Nat.le_refl _) (blR5 _ _ (Nat.le_refl _) (blR4 _ _ (Nat.le_refl _) (blR3 _ _ (Nat.le_refl _) (blR2 _ _ (Nat.le_refl _) (blR1 _ _ (Nat.le_refl _) (HBR.out)))))))))
    have HFR := hid hR8
    clear blR1 blR2 blR3 blR4 blR5 blR6 blR7 blR8 hR1 hR2 hR3 hR4 hR5 hR6 hR7 HBR
    have HXI := hid (FBox.made R8 75 #[.float .f64 0, .float .f64 0, .float .f64 0, .float .f64 0, .float .f64 0, .float .f64 0, .float .f64 0, .float .f64 0])
    have HBI : Hid (Below R8.heap.size R8 (R8.alloc (.cells #[.float .f64 0, .float .f64 0, .float .f64 0, .float .f64 0, .float .f64 0, .float .f64 0, .float .f64 0, .float .f64 0] 75))) := (Below.refl _ _).alloc (Nat.le_refl _) _
    obtain ⟨XI, hXI⟩ : ∃ XI, R8.alloc (.cells #[.float .f64 0, .float .f64 0, .float .f64 0, .float .f64 0, .float .f64 0, .float .f64 0, .float .f64 0, .float .f64 0] 75) = XI := ⟨_, rfl⟩
    rw [hXI] at HXI HBI
    obtain ⟨J1, sJ1, hJ1, blJ1⟩ := store_box Try.prog HXI.out 0 (by simp) s
    obtain ⟨J2, sJ2, hJ2, blJ2⟩ := store_box Try.prog hJ1 1 (by simp) c
    obtain ⟨J3, sJ3, hJ3, blJ3⟩ := store_box Try.prog hJ2 2 (by simp) c
    obtain ⟨J4, sJ4, hJ4, blJ4⟩ := store_box Try.prog hJ3 3 (by simp) s
    obtain ⟨J5, sJ5, hJ5, blJ5⟩ := store_box Try.prog hJ4 4 (by simp) (fneg s)
    obtain ⟨J6, sJ6, hJ6, blJ6⟩ := store_box Try.prog hJ5 5 (by simp) (fneg c)
    obtain ⟨J7, sJ7, hJ7, blJ7⟩ := store_box Try.prog hJ6 6 (by simp) (fneg c)
    obtain ⟨J8, sJ8, hJ8, blJ8⟩ := store_box Try.prog hJ7 7 (by simp) (fneg s)
    have HBI8 : Hid (Below R8.heap.size R8 J8) := (blJ8 _ _ (Nat.le_refl _) (blJ7 _ _ (Nat.le_refl _) (blJ6 _ _ (Nat.le_refl _) (blJ5 _ _ (Nat.le_refl _) (blJ4 _ _ (Nat.le_refl _) (blJ3 _ _ (Nat.le_refl _) (blJ2 _ _ (Nat.le_refl _) (blJ1 _ _ (Nat.le_refl _) (HBI.out)))))))))
    have HFI := hid hJ8
    have HFR2 := hid (HFR.out.later HBI8.out HFR.out.lt)
    clear blJ1 blJ2 blJ3 blJ4 blJ5 blJ6 blJ7 blJ8 hJ1 hJ2 hJ3 hJ4 hJ5 hJ6 hJ7 HBI
    have r1 : J8.cell? ⟨w7.heap.size, k, none⟩ = some (.float .f64 ((reL c s)[k]?.getD 0)) := by
      exact re_cell HFR2.out k hk
    have r2 : J8.cell? ⟨R8.heap.size, k, none⟩ = some (.float .f64 ((imL c s)[k]?.getD 0)) := by
      exact im_cell HFI.out k hk
    have HBE := hid (b2 HB7.out (b2 HBR8.out HBI8.out))
    have HP1 := hid (fun V => dplus_any ((reL c s)[k]?.getD 0) V)
    have HP2 := hid (fun V => dplus_any ((imL c s)[k]?.getD 0) V)
    have k0 : (0 : Int) ≤ (k : Int) := by omega
    have k1 : (k : Int) < 8 := by omega
    have HLIM : Hid (c < 18446744073709551616 ∧ s < 18446744073709551616) := ⟨by obtain ⟨_, _, _, _, hh⟩ := HCO.out; exact hh.1, by obtain ⟨_, _, _, _, _, _, hh⟩ := HSI.out; exact hh.1⟩
    have HRE : Hid (((reL c s)[k]?.getD 0, (imL c s)[k]?.getD 0) = octV k c s) := oct_list k c s hk HLIM.out.1 HLIM.out.2
    clear HFR HFR2 HFI HXR HXI HBI8 HBR8 HB7 HLIM
    generalize (reL c s)[k]?.getD 0 = u at *
    generalize (imL c s)[k]?.getD 0 = v at *
    go_wp2_with fail
    clear hXR hXI sR1 sJ1 sR2 sJ2 sR3 sJ3 sR4 sJ4 sR5 sJ5 sR6 sJ6 sR7 sJ7 sR8 sJ8
    go_quiet ((go_at_call 46; first | exact Calls.quiet_of_same (HP1.out _) | exact Calls.quiet_of_same (HP2.out _)))
    go_wp2_with fail
    go_returns
    refine ⟨_, _, rfl, ?_, bdrewN HBE.out _⟩
    rw [HRR.out]
    obtain ⟨ch, cb, cc1, cc2, cc3⟩ := HCO.out
    obtain ⟨sh, sa, sb, ss1, ss2, ss3, ss4⟩ := HSI.out
    exact ⟨f, y, c, s, by rw [show (((q - a : Nat) : Int)) = (q : Int) - (a : Int) by omega]; exact HF.out, HY.out, ⟨qq, ch, cb, HQ.out, cc1, cc2, cc3⟩, ⟨qq, sh, sa, sb, HQ.out, ss1, ss2, ss3, ss4⟩, by rw [← HRE.out], by rw [← HRE.out]⟩
  · rw [if_neg ho] at HRR
    have o1 : (k : Int) % 2 = 0 := by omega
    clear ho
    go_enter Try.func22, Try.ntmps22
    go_wp2_with fail
    generalize w.alloc (.cells #[.int .i64 (p : Int), .int .i64 (q : Int)] 31) = X at *
    refine Calls.mono (HC.out X) ?_
    rintro e w2 ⟨rfl, hb1⟩
    obtain ⟨c0, c1, f0, f1⟩ := fbox_facts HX.out.1 hb1
    have HB2 : Hid (Below X.heap.size X w2) := hb1
    have HF := hid (fval_fn .quo w2 (floatOfInt .f64 ↑a) (floatOfInt .f64 (q : Int)))
    have HBF := hid (fwld_below .quo (floatOfInt .f64 ↑a) (floatOfInt .f64 (q : Int)) HB2.out)
    have HY := hid (fval_fn .mul (fwld .quo w2 (floatOfInt .f64 ↑a) (floatOfInt .f64 (q : Int))) (fval .quo w2 (floatOfInt .f64 ↑a) (floatOfInt .f64 (q : Int))) 4605249457297304856)
    clear hb1
    go_wp2_with fail
    generalize fval .quo w2 (floatOfInt .f64 ↑a) (floatOfInt .f64 (q : Int)) = f at *
    generalize fwld .quo w2 (floatOfInt .f64 ↑a) (floatOfInt .f64 (q : Int)) = w3 at *
    have HBY := hid (fwld_below .mul f 4605249457297304856 HBF.out)
    generalize fval .mul w3 f 4605249457297304856 = y at *
    generalize fwld .mul w3 f 4605249457297304856 = w4 at *
    have HQ := hid (fval_fn .mul w4 y y)
    have HBQ := hid (fwld_below .mul y y HBY.out)
    generalize fval .mul w4 y y = qq at *
    generalize fwld .mul w4 y y = w5 at *
    clear HB2 HBF HBY c0 c1 f0 f1
    refine Calls.mono (dsine_any y qq _) ?_
    rintro e w6 ⟨s, rfl, hs, hb6⟩
    have HSI := hid hs
    clear hs
    go_wp2_with fail
    refine Calls.mono (dcosine_any qq _) ?_
    rintro e w7 ⟨c, rfl, hc, hb7⟩
    have HCO := hid hc
    have HB7 := hid (b2 HX.out.2 (b2 HBQ.out (b2 hb6 hb7)))
    clear hc hb6 hb7 HBQ HX HC
    have HN : ∀ x, Op.unary .neg (.float .f64 x) = pure (.float .f64 (fneg x)) := fun _ => rfl
    have HXR := hid (FBox.made w7 75 #[.float .f64 0, .float .f64 0, .float .f64 0, .float .f64 0, .float .f64 0, .float .f64 0, .float .f64 0, .float .f64 0])
    have HBR : Hid (Below w7.heap.size w7 (w7.alloc (.cells #[.float .f64 0, .float .f64 0, .float .f64 0, .float .f64 0, .float .f64 0, .float .f64 0, .float .f64 0, .float .f64 0] 75))) := (Below.refl _ _).alloc (Nat.le_refl _) _
    obtain ⟨XR, hXR⟩ : ∃ XR, w7.alloc (.cells #[.float .f64 0, .float .f64 0, .float .f64 0, .float .f64 0, .float .f64 0, .float .f64 0, .float .f64 0, .float .f64 0] 75) = XR := ⟨_, rfl⟩
    rw [hXR] at HXR HBR
    obtain ⟨R1, sR1, hR1, blR1⟩ := store_box Try.prog HXR.out 0 (by simp) c
    obtain ⟨R2, sR2, hR2, blR2⟩ := store_box Try.prog hR1 1 (by simp) s
    obtain ⟨R3, sR3, hR3, blR3⟩ := store_box Try.prog hR2 2 (by simp) (fneg s)
    obtain ⟨R4, sR4, hR4, blR4⟩ := store_box Try.prog hR3 3 (by simp) (fneg c)
    obtain ⟨R5, sR5, hR5, blR5⟩ := store_box Try.prog hR4 4 (by simp) (fneg c)
    obtain ⟨R6, sR6, hR6, blR6⟩ := store_box Try.prog hR5 5 (by simp) (fneg s)
    obtain ⟨R7, sR7, hR7, blR7⟩ := store_box Try.prog hR6 6 (by simp) s
    obtain ⟨R8, sR8, hR8, blR8⟩ := store_box Try.prog hR7 7 (by simp) c
    have HBR8 : Hid (Below w7.heap.size w7 R8) := (blR8 _ _ (Nat.le_refl _) (blR7 _ _ (Nat.le_refl _) (blR6 _ _ (Nat.le_refl _) (blR5 _ _ (Nat.le_refl _) (blR4 _ _ (Nat.le_refl _) (blR3 _ _ (Nat.le_refl _) (blR2 _ _ (Nat.le_refl _) (blR1 _ _ (Nat.le_refl _) (HBR.out)))))))))
    have HFR := hid hR8
    clear blR1 blR2 blR3 blR4 blR5 blR6 blR7 blR8 hR1 hR2 hR3 hR4 hR5 hR6 hR7 HBR
    have HXI := hid (FBox.made R8 75 #[.float .f64 0, .float .f64 0, .float .f64 0, .float .f64 0, .float .f64 0, .float .f64 0, .float .f64 0, .float .f64 0])
    have HBI : Hid (Below R8.heap.size R8 (R8.alloc (.cells #[.float .f64 0, .float .f64 0, .float .f64 0, .float .f64 0, .float .f64 0, .float .f64 0, .float .f64 0, .float .f64 0] 75))) := (Below.refl _ _).alloc (Nat.le_refl _) _
    obtain ⟨XI, hXI⟩ : ∃ XI, R8.alloc (.cells #[.float .f64 0, .float .f64 0, .float .f64 0, .float .f64 0, .float .f64 0, .float .f64 0, .float .f64 0, .float .f64 0] 75) = XI := ⟨_, rfl⟩
    rw [hXI] at HXI HBI
    obtain ⟨J1, sJ1, hJ1, blJ1⟩ := store_box Try.prog HXI.out 0 (by simp) s
    obtain ⟨J2, sJ2, hJ2, blJ2⟩ := store_box Try.prog hJ1 1 (by simp) c
    obtain ⟨J3, sJ3, hJ3, blJ3⟩ := store_box Try.prog hJ2 2 (by simp) c
    obtain ⟨J4, sJ4, hJ4, blJ4⟩ := store_box Try.prog hJ3 3 (by simp) s
    obtain ⟨J5, sJ5, hJ5, blJ5⟩ := store_box Try.prog hJ4 4 (by simp) (fneg s)
    obtain ⟨J6, sJ6, hJ6, blJ6⟩ := store_box Try.prog hJ5 5 (by simp) (fneg c)
    obtain ⟨J7, sJ7, hJ7, blJ7⟩ := store_box Try.prog hJ6 6 (by simp) (fneg c)
    obtain ⟨J8, sJ8, hJ8, blJ8⟩ := store_box Try.prog hJ7 7 (by simp) (fneg s)
    have HBI8 : Hid (Below R8.heap.size R8 J8) := (blJ8 _ _ (Nat.le_refl _) (blJ7 _ _ (Nat.le_refl _) (blJ6 _ _ (Nat.le_refl _) (blJ5 _ _ (Nat.le_refl _) (blJ4 _ _ (Nat.le_refl _) (blJ3 _ _ (Nat.le_refl _) (blJ2 _ _ (Nat.le_refl _) (blJ1 _ _ (Nat.le_refl _) (HBI.out)))))))))
    have HFI := hid hJ8
    have HFR2 := hid (HFR.out.later HBI8.out HFR.out.lt)
    clear blJ1 blJ2 blJ3 blJ4 blJ5 blJ6 blJ7 blJ8 hJ1 hJ2 hJ3 hJ4 hJ5 hJ6 hJ7 HBI
    have r1 : J8.cell? ⟨w7.heap.size, k, none⟩ = some (.float .f64 ((reL c s)[k]?.getD 0)) := by
      exact re_cell HFR2.out k hk
    have r2 : J8.cell? ⟨R8.heap.size, k, none⟩ = some (.float .f64 ((imL c s)[k]?.getD 0)) := by
      exact im_cell HFI.out k hk
    have HBE := hid (b2 HB7.out (b2 HBR8.out HBI8.out))
    have HP1 := hid (fun V => dplus_any ((reL c s)[k]?.getD 0) V)
    have HP2 := hid (fun V => dplus_any ((imL c s)[k]?.getD 0) V)
    have k0 : (0 : Int) ≤ (k : Int) := by omega
    have k1 : (k : Int) < 8 := by omega
    have HLIM : Hid (c < 18446744073709551616 ∧ s < 18446744073709551616) := ⟨by obtain ⟨_, _, _, _, hh⟩ := HCO.out; exact hh.1, by obtain ⟨_, _, _, _, _, _, hh⟩ := HSI.out; exact hh.1⟩
    have HRE : Hid (((reL c s)[k]?.getD 0, (imL c s)[k]?.getD 0) = octV k c s) := oct_list k c s hk HLIM.out.1 HLIM.out.2
    clear HFR HFR2 HFI HXR HXI HBI8 HBR8 HB7 HLIM
    generalize (reL c s)[k]?.getD 0 = u at *
    generalize (imL c s)[k]?.getD 0 = v at *
    go_wp2_with fail
    clear hXR hXI sR1 sJ1 sR2 sJ2 sR3 sJ3 sR4 sJ4 sR5 sJ5 sR6 sJ6 sR7 sJ7 sR8 sJ8
    go_quiet ((go_at_call 46; first | exact Calls.quiet_of_same (HP1.out _) | exact Calls.quiet_of_same (HP2.out _)))
    go_wp2_with fail
    go_returns
    refine ⟨_, _, rfl, ?_, bdrewN HBE.out _⟩
    rw [HRR.out]
    obtain ⟨ch, cb, cc1, cc2, cc3⟩ := HCO.out
    obtain ⟨sh, sa, sb, ss1, ss2, ss3, ss4⟩ := HSI.out
    exact ⟨f, y, c, s, HF.out, HY.out, ⟨qq, ch, cb, HQ.out, cc1, cc2, cc3⟩, ⟨qq, sh, sa, sb, HQ.out, ss1, ss2, ss3, ss4⟩, by rw [← HRE.out], by rw [← HRE.out]⟩


set_option maxHeartbeats 1600000 in
set_option maxRecDepth 100000 in
theorem droot_err (p q : Int) (w : World) (h : in64 p q) (hn : ¬ okI p q) :
    Calls Try.prog 22 #[.agg #[.int .i64 p, .int .i64 q]] w fun e w' => e = .returned (.tuple #[.complex .f64 0 0, .int .i64 180]) ∧ Below w.heap.size w w' := by
  have HX := hid (boxes1 w 31 #[.int .i64 p, .int .i64 q])
  have HC := hid (fun V => dcheck_any p q V h.1.1 h.1.2 h.2.1 h.2.2)
  have hO : chk p q = 180 := by unfold chk; rw [if_neg hn]
  rw [hO] at HC
  clear hO hn h
  go_enter Try.func22, Try.ntmps22
  go_wp2_with fail
  generalize w.alloc (.cells #[.int .i64 p, .int .i64 q] 31) = X at *
  refine Calls.mono (HC.out X) ?_
  rintro e w1 ⟨rfl, hb1⟩
  have HB := hid (b2 HX.out.2 hb1)
  clear hb1 HX HC
  go_wp2_with fail
  go_returns
  exact ⟨rfl, HB.out⟩
end Go.Proofs.Ytodihhokodnmkaa

/- The document's Span of clock, of every two numbers. -/
namespace Go.Proofs.Ytodihhokodnmkaa
open Go.RowKit
set_option linter.unusedVariables false
set_option linter.unusedSimpArgs false

theorem cdspn_any (a b : Int) (w : World) (ha : I64 a) (hb : I64 b) :
    Calls Try.prog 34 #[.int .i64 a, .int .i64 b] w fun e w' => e = .returned (.int .i64 (spnR a b)) ∧ w' = w := by
  obtain ⟨a0, a1⟩ := ha
  obtain ⟨b0, b1⟩ := hb
  by_cases h : a < 0 ∨ 1048577 < b ∨ b < a
  · have HR : Hid (spnR a b = 2) := by show _ = _; unfold spnR; rw [if_pos h]
    go_enter Try.func34, Try.ntmps34
    go_wp2_with fail
    all_goals first | (exfalso; omega) | (go_ret; exact ⟨ret_int HR.out.symm, rfl⟩)
  · have e1 : IntKind.i64.wrap (b - a) = b - a := by rw [IntKind.wrap_i64]; omega
    by_cases g : 4096 < b - a
    · have HR : Hid (spnR a b = 3) := by show _ = _; unfold spnR; rw [if_neg h, if_pos g]
      go_enter Try.func34, Try.ntmps34
      go_wp2_with fail
      all_goals first | (exfalso; omega) | (go_ret; exact ⟨ret_int HR.out.symm, rfl⟩)
    · have HR : Hid (spnR a b = 0) := by show _ = _; unfold spnR; rw [if_neg h, if_neg g]
      go_enter Try.func34, Try.ntmps34
      go_wp2_with fail
      all_goals first | (exfalso; omega) | (go_ret; exact ⟨ret_int HR.out.symm, rfl⟩)
end Go.Proofs.Ytodihhokodnmkaa

/- The document's answers of layer 12: the table, Turned, Node, Factor. -/
namespace Go.Proofs.Ytodihhokodnmkaa
open Go.RowKit Go.Shelf
set_option linter.unusedVariables false
set_option linter.unusedSimpArgs false

def nrV (x : Option Nat) : Value := match x with
  | some k => .tuple #[.float .f64 (ndB k), .float .f64 (ndS k), .float .f64 (ndC k), .bool true]
  | none => .tuple #[.float .f64 0, .float .f64 0, .float .f64 0, .bool false]

set_option maxHeartbeats 1600000 in
set_option maxRecDepth 100000 in
theorem nrrow_M2 (s : ByteArray) (w : World) (h0 : (s.toList == [77, 50]) = true) :
    Calls Try.prog 26 #[.string s] w fun e w' => e = .returned (.tuple #[.float .f64 4607182418800017408, .float .f64 13808865119849376907, .float .f64 13894873686856433664, .bool true]) ∧ w' = w := by
  go_enter Try.func26, Try.ntmps26
  go_wp2_with fail
  go_returns
  exact ⟨rfl, rfl⟩
set_option maxHeartbeats 1600000 in
set_option maxRecDepth 100000 in
theorem nrrow_N2 (s : ByteArray) (w : World) (h0 : (s.toList == [77, 50]) = false) (h1 : (s.toList == [78, 50]) = true) :
    Calls Try.prog 26 #[.string s] w fun e w' => e = .returned (.tuple #[.float .f64 4607182418800017408, .float .f64 13808865119849376907, .float .f64 13894873686856433664, .bool true]) ∧ w' = w := by
  go_enter Try.func26, Try.ntmps26
  go_wp2_with fail
  go_returns
  exact ⟨rfl, rfl⟩
set_option maxHeartbeats 1600000 in
set_option maxRecDepth 100000 in
theorem nrrow_S2 (s : ByteArray) (w : World) (h0 : (s.toList == [77, 50]) = false) (h1 : (s.toList == [78, 50]) = false) (h2 : (s.toList == [83, 50]) = true) :
    Calls Try.prog 26 #[.string s] w fun e w' => e = .returned (.tuple #[.float .f64 4607182418800017408, .float .f64 0, .float .f64 0, .bool true]) ∧ w' = w := by
  go_enter Try.func26, Try.ntmps26
  go_wp2_with fail
  go_returns
  exact ⟨rfl, rfl⟩
set_option maxHeartbeats 1600000 in
set_option maxRecDepth 100000 in
theorem nrrow_P1 (s : ByteArray) (w : World) (h0 : (s.toList == [77, 50]) = false) (h1 : (s.toList == [78, 50]) = false) (h2 : (s.toList == [83, 50]) = false) (h3 : (s.toList == [80, 49]) = true) :
    Calls Try.prog 26 #[.string s] w fun e w' => e = .returned (.tuple #[.float .f64 4607182418800017408, .float .f64 0, .float .f64 0, .bool true]) ∧ w' = w := by
  go_enter Try.func26, Try.ntmps26
  go_wp2_with fail
  go_returns
  exact ⟨rfl, rfl⟩
set_option maxHeartbeats 1600000 in
set_option maxRecDepth 100000 in
theorem nrrow_K2 (s : ByteArray) (w : World) (h0 : (s.toList == [77, 50]) = false) (h1 : (s.toList == [78, 50]) = false) (h2 : (s.toList == [83, 50]) = false) (h3 : (s.toList == [80, 49]) = false) (h4 : (s.toList == [75, 50]) = true) :
    Calls Try.prog 26 #[.string s] w fun e w' => e = .returned (.tuple #[.float .f64 4607290505191074300, .float .f64 4598823737891617767, .float .f64 13908693723383857152, .bool true]) ∧ w' = w := by
  go_enter Try.func26, Try.ntmps26
  go_wp2_with fail
  go_returns
  exact ⟨rfl, rfl⟩
set_option maxHeartbeats 1600000 in
set_option maxRecDepth 100000 in
theorem nrrow_K1 (s : ByteArray) (w : World) (h0 : (s.toList == [77, 50]) = false) (h1 : (s.toList == [78, 50]) = false) (h2 : (s.toList == [83, 50]) = false) (h3 : (s.toList == [80, 49]) = false) (h4 : (s.toList == [75, 50]) = false) (h5 : (s.toList == [75, 49]) = true) :
    Calls Try.prog 26 #[.string s] w fun e w' => e = .returned (.tuple #[.float .f64 4607209440397781631, .float .f64 4592951043977526641, .float .f64 13904224483494854656, .bool true]) ∧ w' = w := by
  go_enter Try.func26, Try.ntmps26
  go_wp2_with fail
  go_returns
  exact ⟨rfl, rfl⟩
set_option maxHeartbeats 1600000 in
set_option maxRecDepth 100000 in
theorem nrrow_O1 (s : ByteArray) (w : World) (h0 : (s.toList == [77, 50]) = false) (h1 : (s.toList == [78, 50]) = false) (h2 : (s.toList == [83, 50]) = false) (h3 : (s.toList == [80, 49]) = false) (h4 : (s.toList == [75, 50]) = false) (h5 : (s.toList == [75, 49]) = false) (h6 : (s.toList == [79, 49]) = true) :
    Calls Try.prog 26 #[.string s] w fun e w' => e = .returned (.tuple #[.float .f64 4607222951196663742, .float .f64 4595905405333081686, .float .f64 4682158116698062848, .bool true]) ∧ w' = w := by
  go_enter Try.func26, Try.ntmps26
  go_wp2_with fail
  go_returns
  exact ⟨rfl, rfl⟩
set_option maxHeartbeats 1600000 in
set_option maxRecDepth 100000 in
theorem nrrow_Q1 (s : ByteArray) (w : World) (h0 : (s.toList == [77, 50]) = false) (h1 : (s.toList == [78, 50]) = false) (h2 : (s.toList == [83, 50]) = false) (h3 : (s.toList == [80, 49]) = false) (h4 : (s.toList == [75, 50]) = false) (h5 : (s.toList == [75, 49]) = false) (h6 : (s.toList == [79, 49]) = false) (h7 : (s.toList == [81, 49]) = true) :
    Calls Try.prog 26 #[.string s] w fun e w' => e = .returned (.tuple #[.float .f64 4607222951196663742, .float .f64 4595905405333081686, .float .f64 4682158116698062848, .bool true]) ∧ w' = w := by
  go_enter Try.func26, Try.ntmps26
  go_wp2_with fail
  go_returns
  exact ⟨rfl, rfl⟩
set_option maxHeartbeats 1600000 in
set_option maxRecDepth 100000 in
theorem nrrow_Mf (s : ByteArray) (w : World) (h0 : (s.toList == [77, 50]) = false) (h1 : (s.toList == [78, 50]) = false) (h2 : (s.toList == [83, 50]) = false) (h3 : (s.toList == [80, 49]) = false) (h4 : (s.toList == [75, 50]) = false) (h5 : (s.toList == [75, 49]) = false) (h6 : (s.toList == [79, 49]) = false) (h7 : (s.toList == [81, 49]) = false) (h8 : (s.toList == [77, 102]) = true) :
    Calls Try.prog 26 #[.string s] w fun e w' => e = .returned (.tuple #[.float .f64 4607376073583994339, .float .f64 4601129580900831461, .float .f64 13910755307685937152, .bool true]) ∧ w' = w := by
  go_enter Try.func26, Try.ntmps26
  go_wp2_with fail
  go_returns
  exact ⟨rfl, rfl⟩
set_option maxHeartbeats 1600000 in
set_option maxRecDepth 100000 in
theorem nrrow_Mm (s : ByteArray) (w : World) (h0 : (s.toList == [77, 50]) = false) (h1 : (s.toList == [78, 50]) = false) (h2 : (s.toList == [83, 50]) = false) (h3 : (s.toList == [80, 49]) = false) (h4 : (s.toList == [75, 50]) = false) (h5 : (s.toList == [75, 49]) = false) (h6 : (s.toList == [79, 49]) = false) (h7 : (s.toList == [81, 49]) = false) (h8 : (s.toList == [77, 102]) = false) (h9 : (s.toList == [77, 109]) = true) :
    Calls Try.prog 26 #[.string s] w fun e w' => e = .returned (.tuple #[.float .f64 4607182418800017408, .float .f64 13817223800757776548, .float .f64 0, .bool true]) ∧ w' = w := by
  go_enter Try.func26, Try.ntmps26
  go_wp2_with fail
  go_returns
  exact ⟨rfl, rfl⟩
set_option maxHeartbeats 1600000 in
set_option maxRecDepth 100000 in
theorem nrrow_no (s : ByteArray) (w : World) (h0 : (s.toList == [77, 50]) = false) (h1 : (s.toList == [78, 50]) = false) (h2 : (s.toList == [83, 50]) = false) (h3 : (s.toList == [80, 49]) = false) (h4 : (s.toList == [75, 50]) = false) (h5 : (s.toList == [75, 49]) = false) (h6 : (s.toList == [79, 49]) = false) (h7 : (s.toList == [81, 49]) = false) (h8 : (s.toList == [77, 102]) = false) (h9 : (s.toList == [77, 109]) = false) :
    Calls Try.prog 26 #[.string s] w fun e w' => e = .returned (.tuple #[.float .f64 0, .float .f64 0, .float .f64 0, .bool false]) ∧ w' = w := by
  go_enter Try.func26, Try.ntmps26
  go_wp2_with fail
  go_returns
  exact ⟨rfl, rfl⟩
theorem nrrow_any (s : ByteArray) (w : World) :
    Calls Try.prog 26 #[.string s] w fun e w' => e = .returned (nrV (ndK s.toList)) ∧ w' = w := by
  unfold ndK
  by_cases g0 : s.toList = [77, 50]
  · rw [if_pos g0]; exact nrrow_M2 s w  (beq_iff_eq.2 g0)
  rw [if_neg g0]
  by_cases g1 : s.toList = [78, 50]
  · rw [if_pos g1]; exact nrrow_N2 s w (ndbeq g0) (beq_iff_eq.2 g1)
  rw [if_neg g1]
  by_cases g2 : s.toList = [83, 50]
  · rw [if_pos g2]; exact nrrow_S2 s w (ndbeq g0) (ndbeq g1) (beq_iff_eq.2 g2)
  rw [if_neg g2]
  by_cases g3 : s.toList = [80, 49]
  · rw [if_pos g3]; exact nrrow_P1 s w (ndbeq g0) (ndbeq g1) (ndbeq g2) (beq_iff_eq.2 g3)
  rw [if_neg g3]
  by_cases g4 : s.toList = [75, 50]
  · rw [if_pos g4]; exact nrrow_K2 s w (ndbeq g0) (ndbeq g1) (ndbeq g2) (ndbeq g3) (beq_iff_eq.2 g4)
  rw [if_neg g4]
  by_cases g5 : s.toList = [75, 49]
  · rw [if_pos g5]; exact nrrow_K1 s w (ndbeq g0) (ndbeq g1) (ndbeq g2) (ndbeq g3) (ndbeq g4) (beq_iff_eq.2 g5)
  rw [if_neg g5]
  by_cases g6 : s.toList = [79, 49]
  · rw [if_pos g6]; exact nrrow_O1 s w (ndbeq g0) (ndbeq g1) (ndbeq g2) (ndbeq g3) (ndbeq g4) (ndbeq g5) (beq_iff_eq.2 g6)
  rw [if_neg g6]
  by_cases g7 : s.toList = [81, 49]
  · rw [if_pos g7]; exact nrrow_Q1 s w (ndbeq g0) (ndbeq g1) (ndbeq g2) (ndbeq g3) (ndbeq g4) (ndbeq g5) (ndbeq g6) (beq_iff_eq.2 g7)
  rw [if_neg g7]
  by_cases g8 : s.toList = [77, 102]
  · rw [if_pos g8]; exact nrrow_Mf s w (ndbeq g0) (ndbeq g1) (ndbeq g2) (ndbeq g3) (ndbeq g4) (ndbeq g5) (ndbeq g6) (ndbeq g7) (beq_iff_eq.2 g8)
  rw [if_neg g8]
  by_cases g9 : s.toList = [77, 109]
  · rw [if_pos g9]; exact nrrow_Mm s w (ndbeq g0) (ndbeq g1) (ndbeq g2) (ndbeq g3) (ndbeq g4) (ndbeq g5) (ndbeq g6) (ndbeq g7) (ndbeq g8) (beq_iff_eq.2 g9)
  rw [if_neg g9]
  exact nrrow_no s w (ndbeq g0) (ndbeq g1) (ndbeq g2) (ndbeq g3) (ndbeq g4) (ndbeq g5) (ndbeq g6) (ndbeq g7) (ndbeq g8) (ndbeq g9)

set_option maxHeartbeats 3200000 in
set_option maxRecDepth 100000 in
theorem nrTurned_any (x : Int) (W p g : Nat) (w : World) (hx : I64 x) (h0 : 0 < W) (hW : W ≤ 4294967296) (hp : x % (W : Int) = (p : Int)) (hg : Nat.gcd p W = g) :
    Calls Try.prog 23 #[.int .i64 x, .int .i64 (W : Int)] w fun e w' => e = .returned (.agg #[.int .i64 ((p / g : Nat) : Int), .int .i64 ((W / g : Nat) : Int)]) ∧ Below w.heap.size w w' := by
  obtain ⟨x0, x1⟩ := hx
  have a0 := Int.emod_nonneg x (show (W : Int) ≠ 0 by omega)
  have b0 := Int.emod_lt_of_pos x (show (0 : Int) < (W : Int) by omega)
  have b1 : (0 ≤ Int.tmod x W ∧ Int.tmod x W = x % W) ∨ (Int.tmod x W < 0 ∧ Int.tmod x W = x % W - W) := by
    rw [Int.tmod_eq_emod]
    split <;> omega
  rw [hp] at a0 b0 b1
  have m0 : (W : Int) ≠ 0 := by omega
  have hpW : p < W := by omega
  have hg0 : 0 < g := by rw [← hg]; exact Nat.gcd_pos_of_pos_right _ h0
  have HX := hid (boxes1 w 31 #[.int .i64 0, .int .i64 0])
  have HG := hid hg
  rcases b1 with ⟨hn, b1⟩ | ⟨hn, b1⟩
  · have e1 : IntKind.i64.wrap (p : Int) = (p : Int) := by rw [IntKind.wrap_i64]; omega
    rw [b1] at hn
    have hn' : ¬ (p : Int) < 0 := by omega
    clear a0 b0 x0 x1 hp hg
    go_enter Try.func23, Try.ntmps23
    go_wp2_with fail
    generalize w.alloc (.cells #[.int .i64 0, .int .i64 0] 31) = X at *
    go_loopw [5, 6] (fun x y wr => ∃ c d : Nat, x = .int .i64 (c : Int) ∧ y = .int .i64 (d : Int) ∧ c ≤ 4294967296 ∧ d ≤ 4294967296 ∧ Hid (Nat.gcd c d = g) ∧ Hid (FBox wr w.heap.size 31 #[.int .i64 0, .int .i64 0] ∧ Below w.heap.size w wr)) (fun _ y _ => (intOf y).toNat)
    case atStart => exact ⟨p, W, rfl, rfl, by omega, hW, HG, HX⟩
    case round =>
      obtain ⟨c, d, rfl, rfl, hc, hd, hgc, HZ⟩ := hrel
      by_cases h0' : d = 0
      · subst h0'
        obtain rfl : c = g := by have := hgc.out; rw [Nat.gcd_zero_right] at this; exact this
        obtain ⟨c0, c1, f0, f1⟩ := fbox_facts HZ.out.1 (Below.refl _ _)
        have q0 : (c : Int) ≠ 0 := by omega
        have q1 : Int.tdiv (p : Int) (c : Int) = ((p / c : Nat) : Int) := by rw [Int.tdiv_eq_ediv_of_nonneg (by omega)]; rfl
        have q2 : Int.tdiv (W : Int) (c : Int) = ((W / c : Nat) : Int) := by rw [Int.tdiv_eq_ediv_of_nonneg (by omega)]; rfl
        have l1 : p / c ≤ p := Nat.div_le_self _ _
        have l2 : W / c ≤ W := Nat.div_le_self _ _
        obtain ⟨P1, hP1⟩ : ∃ P1, P1 = p / c := ⟨_, rfl⟩
        obtain ⟨W1, hW1⟩ : ∃ W1, W1 = W / c := ⟨_, rfl⟩
        rw [← hP1] at q1 l1
        rw [← hW1] at q2 l2
        have HP1 := hid hP1
        have HW1 := hid hW1
        clear hP1 hW1
        have q3 : IntKind.i64.wrap (P1 : Int) = (P1 : Int) := by rw [IntKind.wrap_i64]; omega
        have q4 : IntKind.i64.wrap (W1 : Int) = (W1 : Int) := by rw [IntKind.wrap_i64]; omega
        have HU := hid ((HZ.out.1.set 0 (.int .i64 (P1 : Int))).set 1 (.int .i64 (W1 : Int)))
        have HB := hid (fput2 HZ.out.2 w.heap.size (Nat.le_refl _) (.int .i64 (P1 : Int)) (.int .i64 (W1 : Int)))
        clear hgc HZ HG HX
        go_wp2_with fail
        go_region
        all_goals
          go_wp2_with fail
          generalize (wr.setCell ⟨w.heap.size, 0, none⟩ (.int .i64 (P1 : Int))).setCell ⟨w.heap.size, 1, none⟩ (.int .i64 (W1 : Int)) = U at *
          have y0 : U.drew.cell? ⟨w.heap.size, 0, none⟩ = some (.int .i64 (P1 : Int)) := HU.out.cell 0
          have y1 : U.drew.cell? ⟨w.heap.size, 1, none⟩ = some (.int .i64 (W1 : Int)) := HU.out.cell 1
          have HBU := hid HB.out.drew
          generalize U.drew = U' at *
          refine bodyPost_ret (v := .agg #[.int .i64 (P1 : Int), .int .i64 (W1 : Int)]) (by simp [results, Try.results23, go_sem, y0, y1]) rfl ?_
          exact ⟨by rw [HP1.out, HW1.out], HBU.out⟩
      · have hm : c % d < d := Nat.mod_lt _ (by omega)
        have HG2 : Hid (Nat.gcd d (c % d) = g) := by show _ = _; rw [← hgc.out, Nat.gcd_comm c d, Nat.gcd_rec d c, Nat.gcd_comm]
        have q0 : (d : Int) ≠ 0 := by omega
        have q1 : (0 : Int) < (d : Int) := by omega
        have q2 : Int.tmod (c : Int) (d : Int) = ((c % d : Nat) : Int) := by rw [Int.tmod_eq_emod_of_nonneg (by omega)]; rfl
        generalize c % d = r at *
        have q3 : IntKind.i64.wrap (r : Int) = (r : Int) := by rw [IntKind.wrap_i64]; omega
        clear hgc HG HX
        go_wp2_with fail
        go_region
        all_goals
          go_wp2_with fail
          refine ⟨⟨d, r, rfl, rfl, by omega, by omega, HG2, ⟨HZ.out.1, HZ.out.2.drew⟩⟩, by simp [intOf]; omega⟩
  · obtain ⟨r, hr⟩ : ∃ r, Int.tmod x W = r := ⟨_, rfl⟩
    rw [hr] at b1 hn
    have e1 : IntKind.i64.wrap r = r := by rw [IntKind.wrap_i64]; omega
    have e2 : IntKind.i64.wrap (r + W) = (p : Int) := by rw [IntKind.wrap_i64]; omega
    clear a0 b0 x0 x1 hp hg b1
    go_enter Try.func23, Try.ntmps23
    go_wp2_with fail
    generalize w.alloc (.cells #[.int .i64 0, .int .i64 0] 31) = X at *
    go_loopw [5, 6] (fun x y wr => ∃ c d : Nat, x = .int .i64 (c : Int) ∧ y = .int .i64 (d : Int) ∧ c ≤ 4294967296 ∧ d ≤ 4294967296 ∧ Hid (Nat.gcd c d = g) ∧ Hid (FBox wr w.heap.size 31 #[.int .i64 0, .int .i64 0] ∧ Below w.heap.size w wr)) (fun _ y _ => (intOf y).toNat)
    case atStart => exact ⟨p, W, rfl, rfl, by omega, hW, HG, HX⟩
    case round =>
      obtain ⟨c, d, rfl, rfl, hc, hd, hgc, HZ⟩ := hrel
      by_cases h0' : d = 0
      · subst h0'
        obtain rfl : c = g := by have := hgc.out; rw [Nat.gcd_zero_right] at this; exact this
        obtain ⟨c0, c1, f0, f1⟩ := fbox_facts HZ.out.1 (Below.refl _ _)
        have q0 : (c : Int) ≠ 0 := by omega
        have q1 : Int.tdiv (p : Int) (c : Int) = ((p / c : Nat) : Int) := by rw [Int.tdiv_eq_ediv_of_nonneg (by omega)]; rfl
        have q2 : Int.tdiv (W : Int) (c : Int) = ((W / c : Nat) : Int) := by rw [Int.tdiv_eq_ediv_of_nonneg (by omega)]; rfl
        have l1 : p / c ≤ p := Nat.div_le_self _ _
        have l2 : W / c ≤ W := Nat.div_le_self _ _
        obtain ⟨P1, hP1⟩ : ∃ P1, P1 = p / c := ⟨_, rfl⟩
        obtain ⟨W1, hW1⟩ : ∃ W1, W1 = W / c := ⟨_, rfl⟩
        rw [← hP1] at q1 l1
        rw [← hW1] at q2 l2
        have HP1 := hid hP1
        have HW1 := hid hW1
        clear hP1 hW1
        have q3 : IntKind.i64.wrap (P1 : Int) = (P1 : Int) := by rw [IntKind.wrap_i64]; omega
        have q4 : IntKind.i64.wrap (W1 : Int) = (W1 : Int) := by rw [IntKind.wrap_i64]; omega
        have HU := hid ((HZ.out.1.set 0 (.int .i64 (P1 : Int))).set 1 (.int .i64 (W1 : Int)))
        have HB := hid (fput2 HZ.out.2 w.heap.size (Nat.le_refl _) (.int .i64 (P1 : Int)) (.int .i64 (W1 : Int)))
        clear hgc HZ HG HX
        go_wp2_with fail
        go_region
        all_goals
          go_wp2_with fail
          generalize (wr.setCell ⟨w.heap.size, 0, none⟩ (.int .i64 (P1 : Int))).setCell ⟨w.heap.size, 1, none⟩ (.int .i64 (W1 : Int)) = U at *
          have y0 : U.drew.cell? ⟨w.heap.size, 0, none⟩ = some (.int .i64 (P1 : Int)) := HU.out.cell 0
          have y1 : U.drew.cell? ⟨w.heap.size, 1, none⟩ = some (.int .i64 (W1 : Int)) := HU.out.cell 1
          have HBU := hid HB.out.drew
          generalize U.drew = U' at *
          refine bodyPost_ret (v := .agg #[.int .i64 (P1 : Int), .int .i64 (W1 : Int)]) (by simp [results, Try.results23, go_sem, y0, y1]) rfl ?_
          exact ⟨by rw [HP1.out, HW1.out], HBU.out⟩
      · have hm : c % d < d := Nat.mod_lt _ (by omega)
        have HG2 : Hid (Nat.gcd d (c % d) = g) := by show _ = _; rw [← hgc.out, Nat.gcd_comm c d, Nat.gcd_rec d c, Nat.gcd_comm]
        have q0 : (d : Int) ≠ 0 := by omega
        have q1 : (0 : Int) < (d : Int) := by omega
        have q2 : Int.tmod (c : Int) (d : Int) = ((c % d : Nat) : Int) := by rw [Int.tmod_eq_emod_of_nonneg (by omega)]; rfl
        generalize c % d = r at *
        have q3 : IntKind.i64.wrap (r : Int) = (r : Int) := by rw [IntKind.wrap_i64]; omega
        clear hgc HG HX
        go_wp2_with fail
        go_region
        all_goals
          go_wp2_with fail
          refine ⟨⟨d, r, rfl, rfl, by omega, by omega, HG2, ⟨HZ.out.1, HZ.out.2.drew⟩⟩, by simp [intOf]; omega⟩
end Go.Proofs.Ytodihhokodnmkaa

/- The document's answers of layer 12: Node, Factor, Mean, Names. -/
namespace Go.Proofs.Ytodihhokodnmkaa
open Go.RowKit Go.Shelf
set_option linter.unusedVariables false
set_option linter.unusedSimpArgs false

set_option maxHeartbeats 1600000 in
set_option maxRecDepth 100000 in
theorem nrNode_ok (t re im : Nat) (w : World) (ht : t ≤ 1048576) (h : NodeR t re im) :
    Calls Try.prog 6 #[.int .i64 (t : Int)] w fun e w' => e = .returned (.tuple #[.complex .f64 re im, .int .i64 0]) ∧ Below w.heap.size w w' := by
  obtain ⟨e1, e2, e3, e4⟩ := nd_turn t
  have hU : agU 4 t = (1008432000 + t * 22064) % 3600000000 := rfl
  have hUi : (1008432000 + 22064 * (t : Int)) % ((3600000000 : Nat) : Int) = (agU 4 t : Int) := by rw [hU]; omega
  have HT := hid (fun V => nrTurned_any (1008432000 + 22064 * (t : Int)) 3600000000 (agU 4 t) (Nat.gcd (agU 4 t) 3600000000) V ⟨by omega, by omega⟩ (by decide) (by decide) hUi rfl)
  have eP : agU 4 t / Nat.gcd (agU 4 t) 3600000000 = ndP t := rfl
  have eQ : 3600000000 / Nat.gcd (agU 4 t) 3600000000 = ndQ t := rfl
  rw [eP, eQ] at HT
  rw [show ((3600000000 : Nat) : Int) = 3600000000 from rfl] at HT
  have HT' := HT
  clear eP eQ hU hUi
  have HR : Hid (∀ V, Calls Try.prog 22 #[.agg #[.int .i64 (ndP t : Int), .int .i64 (ndQ t : Int)]] V fun e w' => e = .returned (.tuple #[.complex .f64 re im, .int .i64 0]) ∧ Below V.heap.size V w') := by
    intro V
    refine Calls.mono (droot_ok (ndP t) (ndQ t) V e2 (by omega) e4) ?_
    rintro e w' ⟨a, b, rfl, hr, hb⟩
    obtain ⟨rfl, rfl⟩ := root_one e2 (by omega) hr h
    exact ⟨rfl, hb⟩
  have h1 : ¬ (t : Int) < 0 := by omega
  have h2 : ¬ (1048576 : Int) < (t : Int) := by omega
  have q1 : IntKind.i64.wrap (22064 * (t : Int)) = 22064 * (t : Int) := by rw [IntKind.wrap_i64]; omega
  have q2 : IntKind.i64.wrap (1008432000 + 22064 * (t : Int)) = 1008432000 + 22064 * (t : Int) := by rw [IntKind.wrap_i64]; omega
  have q3 : IntKind.i64.wrap (t : Int) = (t : Int) := by rw [IntKind.wrap_i64]; omega
  clear HT e1 e2 e3 e4 ht h
  generalize ndP t = p at *
  generalize ndQ t = q at *
  generalize (t : Int) = T at *
  go_enter Try.func6, Try.ntmps6
  go_wp2_with fail
  refine Calls.mono (HT'.out _) ?_
  rintro e w1 ⟨rfl, hb1⟩
  go_wp2_with fail
  refine Calls.mono (HR.out _) ?_
  rintro e w2 ⟨rfl, hb2⟩
  go_wp2_with fail
  go_returns
  exact ⟨rfl, b2 hb1 hb2⟩
set_option maxHeartbeats 800000 in
set_option maxRecDepth 100000 in
theorem nrNode_err (t : Int) (w : World) (h : ¬ (0 ≤ t ∧ t ≤ 1048576)) :
    Calls Try.prog 6 #[.int .i64 t] w fun e w' => e = .returned (.tuple #[.complex .f64 0 0, .int .i64 2]) ∧ w' = w := by
  by_cases h0 : t < 0
  · go_enter Try.func6, Try.ntmps6
    go_wp2_with fail
    go_returns
    exact ⟨rfl, rfl⟩
  · have h1 : (1048576 : Int) < t := by omega
    go_enter Try.func6, Try.ntmps6
    go_wp2_with fail
    go_returns
    exact ⟨rfl, rfl⟩

set_option maxHeartbeats 1600000 in
set_option maxRecDepth 100000 in
theorem nrFactor_ok (n : ByteArray) (k t re im p f : Nat) (w : World) (hk : ndK n.toList = some k) (ht : t ≤ 1048576) (h : NodeR t re im) (h1 : floatBits .mul .f64 (ndS k) re = some p) (h2 : floatBits .add .f64 p (ndB k) = some f) :
    Calls Try.prog 8 #[.string n, .int .i64 (t : Int)] w fun e w' => e = .returned (.tuple #[.float .f64 f, .int .i64 0]) ∧ Below w.heap.size w w' := by
  have HN := hid (fun V => nrNode_ok t re im V ht h)
  have HR := hid (fun V => nrrow_any n V)
  rw [hk, show nrV (some k) = Value.tuple #[.float .f64 (ndB k), .float .f64 (ndS k), .float .f64 (ndC k), .bool true] from rfl] at HR
  have rM : ∀ V, (binOp .mul 27 (.float .f64 (ndS k)) (.float .f64 re)).run Try.prog V = .ok (.float .f64 p) V := fun V => run_float_arith V _ _ _ _ _ _ h1
  have rA : ∀ V, (binOp .add 27 (.float .f64 p) (.float .f64 (ndB k))).run Try.prog V = .ok (.float .f64 f) V := fun V => run_float_arith V _ _ _ _ _ _ h2
  generalize ndB k = rb at *
  generalize ndS k = rs at *
  generalize ndC k = rc at *
  clear hk ht h h1 h2
  go_enter Try.func8, Try.ntmps8
  go_wp2_with fail
  refine Calls.mono (HN.out _) ?_
  rintro e w1 ⟨rfl, hb1⟩
  go_wp2_with fail
  refine Calls.mono (HR.out _) ?_
  rintro e w2 ⟨rfl, rfl⟩
  go_wp2_with fail
  go_returns
  exact ⟨rfl, hb1⟩
set_option maxHeartbeats 1600000 in
set_option maxRecDepth 100000 in
theorem nrFactor_none (n : ByteArray) (t re im : Nat) (w : World) (hk : ndK n.toList = none) (ht : t ≤ 1048576) (h : NodeR t re im) :
    Calls Try.prog 8 #[.string n, .int .i64 (t : Int)] w fun e w' => e = .returned (.tuple #[.float .f64 0, .int .i64 6]) ∧ Below w.heap.size w w' := by
  have HN := hid (fun V => nrNode_ok t re im V ht h)
  have HR := hid (fun V => nrrow_any n V)
  rw [hk, show nrV none = Value.tuple #[.float .f64 0, .float .f64 0, .float .f64 0, .bool false] from rfl] at HR
  clear hk ht h
  go_enter Try.func8, Try.ntmps8
  go_wp2_with fail
  refine Calls.mono (HN.out _) ?_
  rintro e w1 ⟨rfl, hb1⟩
  go_wp2_with fail
  refine Calls.mono (HR.out _) ?_
  rintro e w2 ⟨rfl, rfl⟩
  go_wp2_with fail
  go_returns
  exact ⟨rfl, hb1⟩
set_option maxHeartbeats 1600000 in
set_option maxRecDepth 100000 in
theorem nrFactor_err (n : ByteArray) (t : Int) (w : World) (h : ¬ (0 ≤ t ∧ t ≤ 1048576)) :
    Calls Try.prog 8 #[.string n, .int .i64 t] w fun e w' => e = .returned (.tuple #[.float .f64 0, .int .i64 2]) ∧ w' = w := by
  have HN := hid (fun V => nrNode_err t V h)
  clear h
  go_enter Try.func8, Try.ntmps8
  go_wp2_with fail
  refine Calls.mono (HN.out _) ?_
  rintro e w1 ⟨rfl, rfl⟩
  go_wp2_with fail
  go_returns
  exact ⟨rfl, rfl⟩

set_option maxHeartbeats 3200000 in
set_option maxRecDepth 100000 in
theorem nrMean_ok (n : ByteArray) (k a m r : Nat) (f : Nat → Nat) (w : World) (hk : ndK n.toList = some k) (hm0 : 0 < m) (hm : m ≤ 4096) (ha : a + m ≤ 1048577)
    (hf : ∀ j, j < m → ∃ re im p, NodeR (a + j) re im ∧ floatBits .mul .f64 (ndS k) re = some p ∧ floatBits .add .f64 p (ndB k) = some (f j))
    (hi : ∀ j, In 1034 549755813888 1649267441664 (f j)) (hr : floatBits .quo .f64 (mnS f (List.range m)) (floatOfInt .f64 (m : Int)) = some r) :
    Calls Try.prog 17 #[.string n, .int .i64 (a : Int), .int .i64 ((a + m : Nat) : Int)] w fun e w' => e = .returned (.tuple #[.float .f64 r, .int .i64 0]) ∧ Below w.heap.size w w' := by
  have hsp : spnR (a : Int) ((a + m : Nat) : Int) = 0 := by unfold spnR; rw [if_neg (by omega), if_neg (by omega)]
  have HSp := hid (fun V => cdspn_any (a : Int) ((a + m : Nat) : Int) V ⟨by omega, by omega⟩ ⟨by omega, by omega⟩)
  rw [hsp] at HSp
  have HR := hid (fun V => nrrow_any n V)
  rw [hk, show nrV (some k) = Value.tuple #[.float .f64 (ndB k), .float .f64 (ndS k), .float .f64 (ndC k), .bool true] from rfl] at HR
  have HFac : Hid (∀ j, j < m → ∀ V, Calls Try.prog 8 #[.string n, .int .i64 ((a : Int) + (j : Int))] V fun e w' => e = .returned (.tuple #[.float .f64 (f j), .int .i64 0]) ∧ Below V.heap.size V w') := fun j hj V => by
    obtain ⟨re, im, p, h1, h2, h3⟩ := hf j hj
    exact nrFactor_ok n k (a + j) re im p (f j) V hk (by omega) h1 h2 h3
  have HS : Hid (∀ j, j < m → floatBits .add .f64 (mnS f (List.range j)) (f j) = some (mnS f (List.range (j + 1)))) := fun j hj => by
    rw [List.range_succ]; exact mnS_step hi _ j (by rw [List.length_range]; omega)
  have rQ : ∀ V, (binOp .quo 27 (.float .f64 (mnS f (List.range m))) (.float .f64 (floatOfInt .f64 (m : Int)))).run Try.prog V = .ok (.float .f64 r) V := fun V => run_float_arith V _ _ _ _ _ _ hr
  have hab' : ((a : Int) == ((a + m : Nat) : Int)) = false := by simp; omega
  have hsub : IntKind.i64.wrap (((a + m : Nat) : Int) - (a : Int)) = (m : Int) := by rw [IntKind.wrap_i64]; omega
  have HL : Hid (m ≤ 4096 ∧ a + m ≤ 1048577) := ⟨hm, ha⟩
  obtain ⟨B, hB⟩ : ∃ B : Int, B = ((a + m : Nat) : Int) := ⟨_, rfl⟩
  rw [← hB] at HSp hab' hsub ⊢
  have HB := hid hB
  generalize ndB k = rb at *
  generalize ndS k = rs at *
  generalize ndC k = rc at *
  clear hk hm0 hm ha hf hi hr hsp hB
  go_enter Try.func17, Try.ntmps17
  go_wp2_with fail
  refine Calls.mono (HSp.out _) ?_
  rintro e w1 ⟨rfl, rfl⟩
  go_wp2_with fail
  refine Calls.mono (HR.out _) ?_
  rintro e w2 ⟨rfl, rfl⟩
  go_wp2_with fail
  go_loopw [14, 13] (fun i v wr => ∃ j : Nat, ∃ tk : Int, j ≤ m ∧ i = .int .i64 tk ∧ v = .float .f64 (mnS f (List.range j)) ∧ Hid (tk = (a : Int) + (j : Int)) ∧ Hid (Below w2.heap.size w2 wr)) (fun i _ _ => (B - intOf i).toNat)
  case atStart => exact ⟨0, a, by omega, rfl, rfl, hid (by omega), hid (Below.refl _ _)⟩
  case round =>
    obtain ⟨j, tk, hj, rfl, rfl, HTk, HW⟩ := hrel
    by_cases hlt : j < m
    · have HF := hid (HFac.out j hlt)
      rw [← HTk.out] at HF
      have rA : ∀ V, (binOp .add 27 (.float .f64 (mnS f (List.range j))) (.float .f64 (f j))).run Try.prog V = .ok (.float .f64 (mnS f (List.range (j + 1)))) V := fun V => run_float_arith V _ _ _ _ _ _ (HS.out j hlt)
      have h1 : tk < B := by have := HTk.out; have := HB.out; omega
      have h2 : IntKind.i64.wrap (tk + 1) = tk + 1 := by have := HTk.out; have := HL.out; rw [IntKind.wrap_i64]; omega
      obtain ⟨sn, hsn⟩ : ∃ sn, sn = mnS f (List.range (j + 1)) := ⟨_, rfl⟩
      rw [← hsn] at rA
      have HSN := hid hsn
      clear hsn
      generalize mnS f (List.range j) = so at *
      generalize f j = fj at *
      go_wp2_with fail
      refine Calls.mono (HF.out _) ?_
      rintro e w3 ⟨rfl, hb3⟩
      have HB3 := hid (b2 HW.out hb3)
      clear hb3 HF
      go_wp2_with fail
      refine ⟨⟨j + 1, tk + 1, by omega, rfl, by rw [HSN.out], ?_, HB3⟩, by simp [intOf]; omega⟩
      have := HTk.out
      show tk + 1 = (a : Int) + ((j + 1 : Nat) : Int)
      omega
    · obtain rfl : j = m := by omega
      have h1 : ¬ tk < B := by have := HTk.out; have := HB.out; omega
      clear HFac HS HSp HR
      go_wp2_with fail
      go_returns
      exact ⟨rfl, HW.out⟩
end Go.Proofs.Ytodihhokodnmkaa

