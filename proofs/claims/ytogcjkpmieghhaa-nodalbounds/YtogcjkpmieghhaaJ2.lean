/- My texts on the way to NodalBounds, one behind the other: contracts of the program and of the document's answers. -/
import Derived.Test.YtogcjkpmieghhaaJ1
import Derived.Laws.FloatArith
/- package nodal: the table of names, of every text; Names. (tools/mkno1.py) -/
namespace Go.Proofs.Ytogcjkpmieghhaa
open Go.RowKit
set_option linter.unusedVariables false

/-- A name's row: the factor's base, its slope, the turn's swing, by their bits. -/
def ndR : Nat → Nat × Nat × Nat
  | 0 => (4607182418800017408, 13808865119849376907, 13894873686856433664)
  | 1 => (4607182418800017408, 0, 0)
  | 2 => (4607290505191074300, 4598823737891617767, 13908693723383857152)
  | 3 => (4607209440397781631, 4592951043977526641, 13904224483494854656)
  | 4 => (4607222951196663742, 4595905405333081686, 4682158116698062848)
  | 5 => (4607376073583994339, 4601129580900831461, 13910755307685937152)
  | _ => (4607182418800017408, 13817223800757776548, 0)
/-- Which row a name has. -/
def ndK (l : List UInt8) : Option Nat :=
  if l = [77, 50] then some 0 else
  if l = [78, 50] then some 0 else
  if l = [83, 50] then some 1 else
  if l = [80, 49] then some 1 else
  if l = [75, 50] then some 2 else
  if l = [75, 49] then some 3 else
  if l = [79, 49] then some 4 else
  if l = [81, 49] then some 4 else
  if l = [77, 102] then some 5 else
  if l = [77, 109] then some 6 else none
def ndB (k : Nat) : Nat := (ndR k).1
def ndS (k : Nat) : Nat := (ndR k).2.1
def ndC (k : Nat) : Nat := (ndR k).2.2
def ndV (x : Option Nat) : Value := match x with
  | some k => .tuple #[.agg #[.float .f64 (ndB k), .float .f64 (ndS k), .float .f64 (ndC k)], .int .i64 0]
  | none => .tuple #[.agg #[.float .f64 0, .float .f64 0, .float .f64 0], .int .i64 6]
theorem ndbeq {s : ByteArray} {l : List UInt8} (h : ¬ s.toList = l) : (s.toList == l) = false := beq_eq_false_iff_ne.2 h
theorem ndfput3 {B : Nat} {a w : World} (h : Below B a w) (b : Nat) (hb : B ≤ b) (v0 v1 v2 : Value) : Below B a (((w.setCell ⟨b, 0, none⟩ v0).setCell ⟨b, 1, none⟩ v1).setCell ⟨b, 2, none⟩ v2) :=
  ((h.setCell (p := ⟨b, 0, none⟩) hb _).setCell (p := ⟨b, 1, none⟩) hb _).setCell (p := ⟨b, 2, none⟩) hb _

set_option maxHeartbeats 1600000 in
set_option maxRecDepth 100000 in
theorem ndfind_M2 (s : ByteArray) (w : World) (h0 : (s.toList == [77, 50]) = true) :
    Calls Try.prog 20 #[.string s] w fun e w' => e = .returned (.tuple #[.agg #[.float .f64 4607182418800017408, .float .f64 13808865119849376907, .float .f64 13894873686856433664], .int .i64 0]) ∧ Below w.heap.size w w' := by
  have HX := hid (boxes1 w 49 #[.float .f64 0, .float .f64 0, .float .f64 0])
  obtain ⟨X, hX⟩ : ∃ X, w.alloc (.cells #[.float .f64 0, .float .f64 0, .float .f64 0] 49) = X := ⟨_, rfl⟩
  rw [hX] at HX
  obtain ⟨X1, s1, h1', bl1⟩ := store_box Try.prog HX.out.1 0 (by simp) 4607182418800017408
  obtain ⟨X2, s2, h2', bl2⟩ := store_box Try.prog h1' 1 (by simp) 13808865119849376907
  obtain ⟨X3, s3, h3', bl3⟩ := store_box Try.prog h2' 2 (by simp) 13894873686856433664
  have g0 : X3.cell? ⟨w.heap.size, 0, none⟩ = some (.float .f64 4607182418800017408) := h3'.cell 0
  have g1 : X3.cell? ⟨w.heap.size, 1, none⟩ = some (.float .f64 13808865119849376907) := h3'.cell 1
  have g2 : X3.cell? ⟨w.heap.size, 2, none⟩ = some (.float .f64 13894873686856433664) := h3'.cell 2
  have HB := hid (bl3 _ _ (Nat.le_refl _) (bl2 _ _ (Nat.le_refl _) (bl1 _ _ (Nat.le_refl _) HX.out.2)))
  clear bl1 bl2 bl3 HX h1' h2' h3'
  go_enter Try.func20, Try.ntmps20
  go_wp2_with fail
  refine bodyPost_ret (v := Value.tuple #[.agg #[.float .f64 4607182418800017408, .float .f64 13808865119849376907, .float .f64 13894873686856433664], .int .i64 0]) (by simp [results, Try.results20, go_sem, g0, g1, g2]) rfl ?_
  exact ⟨rfl, HB.out⟩
set_option maxHeartbeats 1600000 in
set_option maxRecDepth 100000 in
theorem ndfind_N2 (s : ByteArray) (w : World) (h0 : (s.toList == [77, 50]) = false) (h1 : (s.toList == [78, 50]) = true) :
    Calls Try.prog 20 #[.string s] w fun e w' => e = .returned (.tuple #[.agg #[.float .f64 4607182418800017408, .float .f64 13808865119849376907, .float .f64 13894873686856433664], .int .i64 0]) ∧ Below w.heap.size w w' := by
  have HX := hid (boxes1 w 49 #[.float .f64 0, .float .f64 0, .float .f64 0])
  obtain ⟨X, hX⟩ : ∃ X, w.alloc (.cells #[.float .f64 0, .float .f64 0, .float .f64 0] 49) = X := ⟨_, rfl⟩
  rw [hX] at HX
  obtain ⟨X1, s1, h1', bl1⟩ := store_box Try.prog HX.out.1 0 (by simp) 4607182418800017408
  obtain ⟨X2, s2, h2', bl2⟩ := store_box Try.prog h1' 1 (by simp) 13808865119849376907
  obtain ⟨X3, s3, h3', bl3⟩ := store_box Try.prog h2' 2 (by simp) 13894873686856433664
  have g0 : X3.cell? ⟨w.heap.size, 0, none⟩ = some (.float .f64 4607182418800017408) := h3'.cell 0
  have g1 : X3.cell? ⟨w.heap.size, 1, none⟩ = some (.float .f64 13808865119849376907) := h3'.cell 1
  have g2 : X3.cell? ⟨w.heap.size, 2, none⟩ = some (.float .f64 13894873686856433664) := h3'.cell 2
  have HB := hid (bl3 _ _ (Nat.le_refl _) (bl2 _ _ (Nat.le_refl _) (bl1 _ _ (Nat.le_refl _) HX.out.2)))
  clear bl1 bl2 bl3 HX h1' h2' h3'
  go_enter Try.func20, Try.ntmps20
  go_wp2_with fail
  refine bodyPost_ret (v := Value.tuple #[.agg #[.float .f64 4607182418800017408, .float .f64 13808865119849376907, .float .f64 13894873686856433664], .int .i64 0]) (by simp [results, Try.results20, go_sem, g0, g1, g2]) rfl ?_
  exact ⟨rfl, HB.out⟩
set_option maxHeartbeats 1600000 in
set_option maxRecDepth 100000 in
theorem ndfind_S2 (s : ByteArray) (w : World) (h0 : (s.toList == [77, 50]) = false) (h1 : (s.toList == [78, 50]) = false) (h2 : (s.toList == [83, 50]) = true) :
    Calls Try.prog 20 #[.string s] w fun e w' => e = .returned (.tuple #[.agg #[.float .f64 4607182418800017408, .float .f64 0, .float .f64 0], .int .i64 0]) ∧ Below w.heap.size w w' := by
  have HX := hid (boxes1 w 49 #[.float .f64 0, .float .f64 0, .float .f64 0])
  obtain ⟨X, hX⟩ : ∃ X, w.alloc (.cells #[.float .f64 0, .float .f64 0, .float .f64 0] 49) = X := ⟨_, rfl⟩
  rw [hX] at HX
  obtain ⟨X1, s1, h1', bl1⟩ := store_box Try.prog HX.out.1 0 (by simp) 4607182418800017408
  obtain ⟨X2, s2, h2', bl2⟩ := store_box Try.prog h1' 1 (by simp) 0
  obtain ⟨X3, s3, h3', bl3⟩ := store_box Try.prog h2' 2 (by simp) 0
  have g0 : X3.cell? ⟨w.heap.size, 0, none⟩ = some (.float .f64 4607182418800017408) := h3'.cell 0
  have g1 : X3.cell? ⟨w.heap.size, 1, none⟩ = some (.float .f64 0) := h3'.cell 1
  have g2 : X3.cell? ⟨w.heap.size, 2, none⟩ = some (.float .f64 0) := h3'.cell 2
  have HB := hid (bl3 _ _ (Nat.le_refl _) (bl2 _ _ (Nat.le_refl _) (bl1 _ _ (Nat.le_refl _) HX.out.2)))
  clear bl1 bl2 bl3 HX h1' h2' h3'
  go_enter Try.func20, Try.ntmps20
  go_wp2_with fail
  refine bodyPost_ret (v := Value.tuple #[.agg #[.float .f64 4607182418800017408, .float .f64 0, .float .f64 0], .int .i64 0]) (by simp [results, Try.results20, go_sem, g0, g1, g2]) rfl ?_
  exact ⟨rfl, HB.out⟩
set_option maxHeartbeats 1600000 in
set_option maxRecDepth 100000 in
theorem ndfind_P1 (s : ByteArray) (w : World) (h0 : (s.toList == [77, 50]) = false) (h1 : (s.toList == [78, 50]) = false) (h2 : (s.toList == [83, 50]) = false) (h3 : (s.toList == [80, 49]) = true) :
    Calls Try.prog 20 #[.string s] w fun e w' => e = .returned (.tuple #[.agg #[.float .f64 4607182418800017408, .float .f64 0, .float .f64 0], .int .i64 0]) ∧ Below w.heap.size w w' := by
  have HX := hid (boxes1 w 49 #[.float .f64 0, .float .f64 0, .float .f64 0])
  obtain ⟨X, hX⟩ : ∃ X, w.alloc (.cells #[.float .f64 0, .float .f64 0, .float .f64 0] 49) = X := ⟨_, rfl⟩
  rw [hX] at HX
  obtain ⟨X1, s1, h1', bl1⟩ := store_box Try.prog HX.out.1 0 (by simp) 4607182418800017408
  obtain ⟨X2, s2, h2', bl2⟩ := store_box Try.prog h1' 1 (by simp) 0
  obtain ⟨X3, s3, h3', bl3⟩ := store_box Try.prog h2' 2 (by simp) 0
  have g0 : X3.cell? ⟨w.heap.size, 0, none⟩ = some (.float .f64 4607182418800017408) := h3'.cell 0
  have g1 : X3.cell? ⟨w.heap.size, 1, none⟩ = some (.float .f64 0) := h3'.cell 1
  have g2 : X3.cell? ⟨w.heap.size, 2, none⟩ = some (.float .f64 0) := h3'.cell 2
  have HB := hid (bl3 _ _ (Nat.le_refl _) (bl2 _ _ (Nat.le_refl _) (bl1 _ _ (Nat.le_refl _) HX.out.2)))
  clear bl1 bl2 bl3 HX h1' h2' h3'
  go_enter Try.func20, Try.ntmps20
  go_wp2_with fail
  refine bodyPost_ret (v := Value.tuple #[.agg #[.float .f64 4607182418800017408, .float .f64 0, .float .f64 0], .int .i64 0]) (by simp [results, Try.results20, go_sem, g0, g1, g2]) rfl ?_
  exact ⟨rfl, HB.out⟩
set_option maxHeartbeats 1600000 in
set_option maxRecDepth 100000 in
theorem ndfind_K2 (s : ByteArray) (w : World) (h0 : (s.toList == [77, 50]) = false) (h1 : (s.toList == [78, 50]) = false) (h2 : (s.toList == [83, 50]) = false) (h3 : (s.toList == [80, 49]) = false) (h4 : (s.toList == [75, 50]) = true) :
    Calls Try.prog 20 #[.string s] w fun e w' => e = .returned (.tuple #[.agg #[.float .f64 4607290505191074300, .float .f64 4598823737891617767, .float .f64 13908693723383857152], .int .i64 0]) ∧ Below w.heap.size w w' := by
  have HX := hid (boxes1 w 49 #[.float .f64 0, .float .f64 0, .float .f64 0])
  obtain ⟨X, hX⟩ : ∃ X, w.alloc (.cells #[.float .f64 0, .float .f64 0, .float .f64 0] 49) = X := ⟨_, rfl⟩
  rw [hX] at HX
  obtain ⟨X1, s1, h1', bl1⟩ := store_box Try.prog HX.out.1 0 (by simp) 4607290505191074300
  obtain ⟨X2, s2, h2', bl2⟩ := store_box Try.prog h1' 1 (by simp) 4598823737891617767
  obtain ⟨X3, s3, h3', bl3⟩ := store_box Try.prog h2' 2 (by simp) 13908693723383857152
  have g0 : X3.cell? ⟨w.heap.size, 0, none⟩ = some (.float .f64 4607290505191074300) := h3'.cell 0
  have g1 : X3.cell? ⟨w.heap.size, 1, none⟩ = some (.float .f64 4598823737891617767) := h3'.cell 1
  have g2 : X3.cell? ⟨w.heap.size, 2, none⟩ = some (.float .f64 13908693723383857152) := h3'.cell 2
  have HB := hid (bl3 _ _ (Nat.le_refl _) (bl2 _ _ (Nat.le_refl _) (bl1 _ _ (Nat.le_refl _) HX.out.2)))
  clear bl1 bl2 bl3 HX h1' h2' h3'
  go_enter Try.func20, Try.ntmps20
  go_wp2_with fail
  refine bodyPost_ret (v := Value.tuple #[.agg #[.float .f64 4607290505191074300, .float .f64 4598823737891617767, .float .f64 13908693723383857152], .int .i64 0]) (by simp [results, Try.results20, go_sem, g0, g1, g2]) rfl ?_
  exact ⟨rfl, HB.out⟩
set_option maxHeartbeats 1600000 in
set_option maxRecDepth 100000 in
theorem ndfind_K1 (s : ByteArray) (w : World) (h0 : (s.toList == [77, 50]) = false) (h1 : (s.toList == [78, 50]) = false) (h2 : (s.toList == [83, 50]) = false) (h3 : (s.toList == [80, 49]) = false) (h4 : (s.toList == [75, 50]) = false) (h5 : (s.toList == [75, 49]) = true) :
    Calls Try.prog 20 #[.string s] w fun e w' => e = .returned (.tuple #[.agg #[.float .f64 4607209440397781631, .float .f64 4592951043977526641, .float .f64 13904224483494854656], .int .i64 0]) ∧ Below w.heap.size w w' := by
  have HX := hid (boxes1 w 49 #[.float .f64 0, .float .f64 0, .float .f64 0])
  obtain ⟨X, hX⟩ : ∃ X, w.alloc (.cells #[.float .f64 0, .float .f64 0, .float .f64 0] 49) = X := ⟨_, rfl⟩
  rw [hX] at HX
  obtain ⟨X1, s1, h1', bl1⟩ := store_box Try.prog HX.out.1 0 (by simp) 4607209440397781631
  obtain ⟨X2, s2, h2', bl2⟩ := store_box Try.prog h1' 1 (by simp) 4592951043977526641
  obtain ⟨X3, s3, h3', bl3⟩ := store_box Try.prog h2' 2 (by simp) 13904224483494854656
  have g0 : X3.cell? ⟨w.heap.size, 0, none⟩ = some (.float .f64 4607209440397781631) := h3'.cell 0
  have g1 : X3.cell? ⟨w.heap.size, 1, none⟩ = some (.float .f64 4592951043977526641) := h3'.cell 1
  have g2 : X3.cell? ⟨w.heap.size, 2, none⟩ = some (.float .f64 13904224483494854656) := h3'.cell 2
  have HB := hid (bl3 _ _ (Nat.le_refl _) (bl2 _ _ (Nat.le_refl _) (bl1 _ _ (Nat.le_refl _) HX.out.2)))
  clear bl1 bl2 bl3 HX h1' h2' h3'
  go_enter Try.func20, Try.ntmps20
  go_wp2_with fail
  refine bodyPost_ret (v := Value.tuple #[.agg #[.float .f64 4607209440397781631, .float .f64 4592951043977526641, .float .f64 13904224483494854656], .int .i64 0]) (by simp [results, Try.results20, go_sem, g0, g1, g2]) rfl ?_
  exact ⟨rfl, HB.out⟩
set_option maxHeartbeats 1600000 in
set_option maxRecDepth 100000 in
theorem ndfind_O1 (s : ByteArray) (w : World) (h0 : (s.toList == [77, 50]) = false) (h1 : (s.toList == [78, 50]) = false) (h2 : (s.toList == [83, 50]) = false) (h3 : (s.toList == [80, 49]) = false) (h4 : (s.toList == [75, 50]) = false) (h5 : (s.toList == [75, 49]) = false) (h6 : (s.toList == [79, 49]) = true) :
    Calls Try.prog 20 #[.string s] w fun e w' => e = .returned (.tuple #[.agg #[.float .f64 4607222951196663742, .float .f64 4595905405333081686, .float .f64 4682158116698062848], .int .i64 0]) ∧ Below w.heap.size w w' := by
  have HX := hid (boxes1 w 49 #[.float .f64 0, .float .f64 0, .float .f64 0])
  obtain ⟨X, hX⟩ : ∃ X, w.alloc (.cells #[.float .f64 0, .float .f64 0, .float .f64 0] 49) = X := ⟨_, rfl⟩
  rw [hX] at HX
  obtain ⟨X1, s1, h1', bl1⟩ := store_box Try.prog HX.out.1 0 (by simp) 4607222951196663742
  obtain ⟨X2, s2, h2', bl2⟩ := store_box Try.prog h1' 1 (by simp) 4595905405333081686
  obtain ⟨X3, s3, h3', bl3⟩ := store_box Try.prog h2' 2 (by simp) 4682158116698062848
  have g0 : X3.cell? ⟨w.heap.size, 0, none⟩ = some (.float .f64 4607222951196663742) := h3'.cell 0
  have g1 : X3.cell? ⟨w.heap.size, 1, none⟩ = some (.float .f64 4595905405333081686) := h3'.cell 1
  have g2 : X3.cell? ⟨w.heap.size, 2, none⟩ = some (.float .f64 4682158116698062848) := h3'.cell 2
  have HB := hid (bl3 _ _ (Nat.le_refl _) (bl2 _ _ (Nat.le_refl _) (bl1 _ _ (Nat.le_refl _) HX.out.2)))
  clear bl1 bl2 bl3 HX h1' h2' h3'
  go_enter Try.func20, Try.ntmps20
  go_wp2_with fail
  refine bodyPost_ret (v := Value.tuple #[.agg #[.float .f64 4607222951196663742, .float .f64 4595905405333081686, .float .f64 4682158116698062848], .int .i64 0]) (by simp [results, Try.results20, go_sem, g0, g1, g2]) rfl ?_
  exact ⟨rfl, HB.out⟩
set_option maxHeartbeats 1600000 in
set_option maxRecDepth 100000 in
theorem ndfind_Q1 (s : ByteArray) (w : World) (h0 : (s.toList == [77, 50]) = false) (h1 : (s.toList == [78, 50]) = false) (h2 : (s.toList == [83, 50]) = false) (h3 : (s.toList == [80, 49]) = false) (h4 : (s.toList == [75, 50]) = false) (h5 : (s.toList == [75, 49]) = false) (h6 : (s.toList == [79, 49]) = false) (h7 : (s.toList == [81, 49]) = true) :
    Calls Try.prog 20 #[.string s] w fun e w' => e = .returned (.tuple #[.agg #[.float .f64 4607222951196663742, .float .f64 4595905405333081686, .float .f64 4682158116698062848], .int .i64 0]) ∧ Below w.heap.size w w' := by
  have HX := hid (boxes1 w 49 #[.float .f64 0, .float .f64 0, .float .f64 0])
  obtain ⟨X, hX⟩ : ∃ X, w.alloc (.cells #[.float .f64 0, .float .f64 0, .float .f64 0] 49) = X := ⟨_, rfl⟩
  rw [hX] at HX
  obtain ⟨X1, s1, h1', bl1⟩ := store_box Try.prog HX.out.1 0 (by simp) 4607222951196663742
  obtain ⟨X2, s2, h2', bl2⟩ := store_box Try.prog h1' 1 (by simp) 4595905405333081686
  obtain ⟨X3, s3, h3', bl3⟩ := store_box Try.prog h2' 2 (by simp) 4682158116698062848
  have g0 : X3.cell? ⟨w.heap.size, 0, none⟩ = some (.float .f64 4607222951196663742) := h3'.cell 0
  have g1 : X3.cell? ⟨w.heap.size, 1, none⟩ = some (.float .f64 4595905405333081686) := h3'.cell 1
  have g2 : X3.cell? ⟨w.heap.size, 2, none⟩ = some (.float .f64 4682158116698062848) := h3'.cell 2
  have HB := hid (bl3 _ _ (Nat.le_refl _) (bl2 _ _ (Nat.le_refl _) (bl1 _ _ (Nat.le_refl _) HX.out.2)))
  clear bl1 bl2 bl3 HX h1' h2' h3'
  go_enter Try.func20, Try.ntmps20
  go_wp2_with fail
  refine bodyPost_ret (v := Value.tuple #[.agg #[.float .f64 4607222951196663742, .float .f64 4595905405333081686, .float .f64 4682158116698062848], .int .i64 0]) (by simp [results, Try.results20, go_sem, g0, g1, g2]) rfl ?_
  exact ⟨rfl, HB.out⟩
set_option maxHeartbeats 1600000 in
set_option maxRecDepth 100000 in
theorem ndfind_Mf (s : ByteArray) (w : World) (h0 : (s.toList == [77, 50]) = false) (h1 : (s.toList == [78, 50]) = false) (h2 : (s.toList == [83, 50]) = false) (h3 : (s.toList == [80, 49]) = false) (h4 : (s.toList == [75, 50]) = false) (h5 : (s.toList == [75, 49]) = false) (h6 : (s.toList == [79, 49]) = false) (h7 : (s.toList == [81, 49]) = false) (h8 : (s.toList == [77, 102]) = true) :
    Calls Try.prog 20 #[.string s] w fun e w' => e = .returned (.tuple #[.agg #[.float .f64 4607376073583994339, .float .f64 4601129580900831461, .float .f64 13910755307685937152], .int .i64 0]) ∧ Below w.heap.size w w' := by
  have HX := hid (boxes1 w 49 #[.float .f64 0, .float .f64 0, .float .f64 0])
  obtain ⟨X, hX⟩ : ∃ X, w.alloc (.cells #[.float .f64 0, .float .f64 0, .float .f64 0] 49) = X := ⟨_, rfl⟩
  rw [hX] at HX
  obtain ⟨X1, s1, h1', bl1⟩ := store_box Try.prog HX.out.1 0 (by simp) 4607376073583994339
  obtain ⟨X2, s2, h2', bl2⟩ := store_box Try.prog h1' 1 (by simp) 4601129580900831461
  obtain ⟨X3, s3, h3', bl3⟩ := store_box Try.prog h2' 2 (by simp) 13910755307685937152
  have g0 : X3.cell? ⟨w.heap.size, 0, none⟩ = some (.float .f64 4607376073583994339) := h3'.cell 0
  have g1 : X3.cell? ⟨w.heap.size, 1, none⟩ = some (.float .f64 4601129580900831461) := h3'.cell 1
  have g2 : X3.cell? ⟨w.heap.size, 2, none⟩ = some (.float .f64 13910755307685937152) := h3'.cell 2
  have HB := hid (bl3 _ _ (Nat.le_refl _) (bl2 _ _ (Nat.le_refl _) (bl1 _ _ (Nat.le_refl _) HX.out.2)))
  clear bl1 bl2 bl3 HX h1' h2' h3'
  go_enter Try.func20, Try.ntmps20
  go_wp2_with fail
  refine bodyPost_ret (v := Value.tuple #[.agg #[.float .f64 4607376073583994339, .float .f64 4601129580900831461, .float .f64 13910755307685937152], .int .i64 0]) (by simp [results, Try.results20, go_sem, g0, g1, g2]) rfl ?_
  exact ⟨rfl, HB.out⟩
set_option maxHeartbeats 1600000 in
set_option maxRecDepth 100000 in
theorem ndfind_Mm (s : ByteArray) (w : World) (h0 : (s.toList == [77, 50]) = false) (h1 : (s.toList == [78, 50]) = false) (h2 : (s.toList == [83, 50]) = false) (h3 : (s.toList == [80, 49]) = false) (h4 : (s.toList == [75, 50]) = false) (h5 : (s.toList == [75, 49]) = false) (h6 : (s.toList == [79, 49]) = false) (h7 : (s.toList == [81, 49]) = false) (h8 : (s.toList == [77, 102]) = false) (h9 : (s.toList == [77, 109]) = true) :
    Calls Try.prog 20 #[.string s] w fun e w' => e = .returned (.tuple #[.agg #[.float .f64 4607182418800017408, .float .f64 13817223800757776548, .float .f64 0], .int .i64 0]) ∧ Below w.heap.size w w' := by
  have HX := hid (boxes1 w 49 #[.float .f64 0, .float .f64 0, .float .f64 0])
  obtain ⟨X, hX⟩ : ∃ X, w.alloc (.cells #[.float .f64 0, .float .f64 0, .float .f64 0] 49) = X := ⟨_, rfl⟩
  rw [hX] at HX
  obtain ⟨X1, s1, h1', bl1⟩ := store_box Try.prog HX.out.1 0 (by simp) 4607182418800017408
  obtain ⟨X2, s2, h2', bl2⟩ := store_box Try.prog h1' 1 (by simp) 13817223800757776548
  obtain ⟨X3, s3, h3', bl3⟩ := store_box Try.prog h2' 2 (by simp) 0
  have g0 : X3.cell? ⟨w.heap.size, 0, none⟩ = some (.float .f64 4607182418800017408) := h3'.cell 0
  have g1 : X3.cell? ⟨w.heap.size, 1, none⟩ = some (.float .f64 13817223800757776548) := h3'.cell 1
  have g2 : X3.cell? ⟨w.heap.size, 2, none⟩ = some (.float .f64 0) := h3'.cell 2
  have HB := hid (bl3 _ _ (Nat.le_refl _) (bl2 _ _ (Nat.le_refl _) (bl1 _ _ (Nat.le_refl _) HX.out.2)))
  clear bl1 bl2 bl3 HX h1' h2' h3'
  go_enter Try.func20, Try.ntmps20
  go_wp2_with fail
  refine bodyPost_ret (v := Value.tuple #[.agg #[.float .f64 4607182418800017408, .float .f64 13817223800757776548, .float .f64 0], .int .i64 0]) (by simp [results, Try.results20, go_sem, g0, g1, g2]) rfl ?_
  exact ⟨rfl, HB.out⟩
set_option maxHeartbeats 1600000 in
set_option maxRecDepth 100000 in
theorem ndfind_no (s : ByteArray) (w : World) (h0 : (s.toList == [77, 50]) = false) (h1 : (s.toList == [78, 50]) = false) (h2 : (s.toList == [83, 50]) = false) (h3 : (s.toList == [80, 49]) = false) (h4 : (s.toList == [75, 50]) = false) (h5 : (s.toList == [75, 49]) = false) (h6 : (s.toList == [79, 49]) = false) (h7 : (s.toList == [81, 49]) = false) (h8 : (s.toList == [77, 102]) = false) (h9 : (s.toList == [77, 109]) = false) :
    Calls Try.prog 20 #[.string s] w fun e w' => e = .returned (.tuple #[.agg #[.float .f64 0, .float .f64 0, .float .f64 0], .int .i64 6]) ∧ Below w.heap.size w w' := by
  have HX := hid (boxes1 w 49 #[.float .f64 0, .float .f64 0, .float .f64 0])
  obtain ⟨X, hX⟩ : ∃ X, w.alloc (.cells #[.float .f64 0, .float .f64 0, .float .f64 0] 49) = X := ⟨_, rfl⟩
  rw [hX] at HX
  obtain ⟨X1, s1, h1', bl1⟩ := store_box Try.prog HX.out.1 0 (by simp) 0
  obtain ⟨X2, s2, h2', bl2⟩ := store_box Try.prog h1' 1 (by simp) 0
  obtain ⟨X3, s3, h3', bl3⟩ := store_box Try.prog h2' 2 (by simp) 0
  have g0 : X3.cell? ⟨w.heap.size, 0, none⟩ = some (.float .f64 0) := h3'.cell 0
  have g1 : X3.cell? ⟨w.heap.size, 1, none⟩ = some (.float .f64 0) := h3'.cell 1
  have g2 : X3.cell? ⟨w.heap.size, 2, none⟩ = some (.float .f64 0) := h3'.cell 2
  have HB := hid (bl3 _ _ (Nat.le_refl _) (bl2 _ _ (Nat.le_refl _) (bl1 _ _ (Nat.le_refl _) HX.out.2)))
  clear bl1 bl2 bl3 HX h1' h2' h3'
  go_enter Try.func20, Try.ntmps20
  go_wp2_with fail
  refine bodyPost_ret (v := Value.tuple #[.agg #[.float .f64 0, .float .f64 0, .float .f64 0], .int .i64 6]) (by simp [results, Try.results20, go_sem, g0, g1, g2]) rfl ?_
  exact ⟨rfl, HB.out⟩
theorem ndfind_any (s : ByteArray) (w : World) :
    Calls Try.prog 20 #[.string s] w fun e w' => e = .returned (ndV (ndK s.toList)) ∧ Below w.heap.size w w' := by
  unfold ndK
  by_cases g0 : s.toList = [77, 50]
  · rw [if_pos g0]; exact ndfind_M2 s w  (beq_iff_eq.2 g0)
  rw [if_neg g0]
  by_cases g1 : s.toList = [78, 50]
  · rw [if_pos g1]; exact ndfind_N2 s w (ndbeq g0) (beq_iff_eq.2 g1)
  rw [if_neg g1]
  by_cases g2 : s.toList = [83, 50]
  · rw [if_pos g2]; exact ndfind_S2 s w (ndbeq g0) (ndbeq g1) (beq_iff_eq.2 g2)
  rw [if_neg g2]
  by_cases g3 : s.toList = [80, 49]
  · rw [if_pos g3]; exact ndfind_P1 s w (ndbeq g0) (ndbeq g1) (ndbeq g2) (beq_iff_eq.2 g3)
  rw [if_neg g3]
  by_cases g4 : s.toList = [75, 50]
  · rw [if_pos g4]; exact ndfind_K2 s w (ndbeq g0) (ndbeq g1) (ndbeq g2) (ndbeq g3) (beq_iff_eq.2 g4)
  rw [if_neg g4]
  by_cases g5 : s.toList = [75, 49]
  · rw [if_pos g5]; exact ndfind_K1 s w (ndbeq g0) (ndbeq g1) (ndbeq g2) (ndbeq g3) (ndbeq g4) (beq_iff_eq.2 g5)
  rw [if_neg g5]
  by_cases g6 : s.toList = [79, 49]
  · rw [if_pos g6]; exact ndfind_O1 s w (ndbeq g0) (ndbeq g1) (ndbeq g2) (ndbeq g3) (ndbeq g4) (ndbeq g5) (beq_iff_eq.2 g6)
  rw [if_neg g6]
  by_cases g7 : s.toList = [81, 49]
  · rw [if_pos g7]; exact ndfind_Q1 s w (ndbeq g0) (ndbeq g1) (ndbeq g2) (ndbeq g3) (ndbeq g4) (ndbeq g5) (ndbeq g6) (beq_iff_eq.2 g7)
  rw [if_neg g7]
  by_cases g8 : s.toList = [77, 102]
  · rw [if_pos g8]; exact ndfind_Mf s w (ndbeq g0) (ndbeq g1) (ndbeq g2) (ndbeq g3) (ndbeq g4) (ndbeq g5) (ndbeq g6) (ndbeq g7) (beq_iff_eq.2 g8)
  rw [if_neg g8]
  by_cases g9 : s.toList = [77, 109]
  · rw [if_pos g9]; exact ndfind_Mm s w (ndbeq g0) (ndbeq g1) (ndbeq g2) (ndbeq g3) (ndbeq g4) (ndbeq g5) (ndbeq g6) (ndbeq g7) (ndbeq g8) (beq_iff_eq.2 g9)
  rw [if_neg g9]
  exact ndfind_no s w (ndbeq g0) (ndbeq g1) (ndbeq g2) (ndbeq g3) (ndbeq g4) (ndbeq g5) (ndbeq g6) (ndbeq g7) (ndbeq g8) (ndbeq g9)
end Go.Proofs.Ytogcjkpmieghhaa

/- package nodal: a row's factor and turn; Node, Factor, Turn, of every name and tick. -/
namespace Go.Proofs.Ytogcjkpmieghhaa
open Go.RowKit
set_option linter.unusedVariables false

theorem fn_ex (op : BinOp) (x y : Nat) : ∃ r, FN op x y r := by
  cases h : floatBits op .f64 x y with
  | some r => exact ⟨r, FN.some h⟩
  | none => exact ⟨_, FN.none 0 h⟩
theorem horn_ex (q : Nat) : ∀ (l : List Nat) (h : Nat), ∃ r, Horn q h l r
  | [], h => ⟨h, rfl⟩
  | c :: cs, h => by
    obtain ⟨p, hp⟩ := fn_ex .mul h q
    obtain ⟨s, hs⟩ := fn_ex .add p c
    obtain ⟨r, hr⟩ := horn_ex q cs s
    exact ⟨r, p, s, hp, hs, hr⟩
theorem root_ex (p q : Nat) : ∃ re im, RootR p q re im := by
  obtain ⟨f, hf⟩ := fn_ex .quo (floatOfInt .f64 (rootA p q : Int)) (floatOfInt .f64 (q : Int))
  obtain ⟨y, hy⟩ := fn_ex .mul f 4605249457297304856
  obtain ⟨s2, h2⟩ := fn_ex .mul y y
  obtain ⟨hs, k1⟩ := horn_ex s2 (sinC.drop 1) 13648976655441704991
  obtain ⟨hc, k2⟩ := horn_ex s2 (cosC.drop 1) 4407590220077447199
  obtain ⟨a, ha⟩ := fn_ex .mul y s2
  obtain ⟨b, hb⟩ := fn_ex .mul a hs
  obtain ⟨s, hS⟩ := fn_ex .add y b
  obtain ⟨d, hd⟩ := fn_ex .mul s2 hc
  obtain ⟨c, hC⟩ := fn_ex .add 4607182418800017408 d
  exact ⟨_, _, f, y, c, s, hf, hy, ⟨s2, hc, d, h2, k2, hd, hC⟩, ⟨s2, hs, a, b, h2, k1, ha, hb, hS⟩, rfl, rfl⟩

/-- The node's turn at a tick. -/
def ndP (t : Nat) : Nat := agU 4 t / Nat.gcd (agU 4 t) 3600000000
def ndQ (t : Nat) : Nat := 3600000000 / Nat.gcd (agU 4 t) 3600000000
theorem nd_turn (t : Nat) : agA 4 t = ((ndP t : Int), (ndQ t : Int), 0) ∧ ndP t < ndQ t ∧ ndQ t ≤ 3600000000 ∧ Nat.gcd (ndP t) (ndQ t) = 1 := by
  have hu := agU_lt 4 t
  unfold agA ndP ndQ ofR
  generalize agU 4 t = u at *
  have hg : 0 < Nat.gcd u 3600000000 := Nat.gcd_pos_of_pos_right _ (by decide)
  have hd := Nat.gcd_dvd_right u 3600000000
  have hdl := Nat.gcd_dvd_left u 3600000000
  have e1 : ((u : Int) % 3600000000).toNat = u := by omega
  have hle : 3600000000 / Nat.gcd u 3600000000 ≤ 3600000000 := Nat.div_le_self _ _
  refine ⟨?_, ?_, hle, ?_⟩
  · rw [if_neg (by decide), if_neg (by decide), e1]
    unfold lowR
    rw [show (3600000000 : Int).toNat = 3600000000 from rfl, if_pos (by omega)]
  · obtain ⟨a, ha⟩ := hdl
    obtain ⟨b, hb⟩ := hd
    generalize Nat.gcd u 3600000000 = g at *
    rw [ha, hb, Nat.mul_div_cancel_left _ hg, Nat.mul_div_cancel_left _ hg]
    rw [ha, hb] at hu
    exact Nat.lt_of_mul_lt_mul_left hu
  · rw [Nat.gcd_div hdl hd, Nat.div_self hg]
/-- The node's number at a tick. -/
def NodeR (t re im : Nat) : Prop := RootR (ndP t) (ndQ t) re im
theorem node_ex (t : Nat) : ∃ re im, NodeR t re im := root_ex _ _
theorem NodeR.unit {t re im : Nat} (h : NodeR t re im) : Unit1 re ∧ Unit1 im := root_in (nd_turn t).2.1 (by have := (nd_turn t).2.2.1; omega) h

set_option maxHeartbeats 800000 in
set_option maxRecDepth 100000 in
theorem ndNode_ok (t re im : Nat) (w : World) (ht : t ≤ 1048576) (h : NodeR t re im) :
    Calls Try.prog 14 #[.int .i64 (t : Int)] w fun e w' => e = .returned (.tuple #[.complex .f64 re im, .int .i64 0]) ∧ Below w.heap.size w w' := by
  have HA := hid (fun V => agAngle_ok 4 t V (by decide) ht)
  have hT := nd_turn t
  obtain ⟨e1, e2, e3, e4⟩ := hT
  rw [e1, show ∀ a b c, tV (a, b, c) = Value.tuple #[.agg #[.int .i64 a, .int .i64 b], .int .i64 c] from fun _ _ _ => rfl] at HA
  have HR : Hid (∀ V, Calls Try.prog 23 #[.agg #[.int .i64 (ndP t : Int), .int .i64 (ndQ t : Int)]] V fun e w' => e = .returned (.tuple #[.complex .f64 re im, .int .i64 0]) ∧ Below V.heap.size V w') := by
    intro V
    refine Calls.mono (troot_ok (ndP t) (ndQ t) V e2 (by omega) e4) ?_
    rintro e w' ⟨a, b, rfl, hr, hb⟩
    obtain ⟨rfl, rfl⟩ := root_one e2 (by omega) hr h
    exact ⟨rfl, hb⟩
  generalize ndP t = p at *
  generalize ndQ t = q at *
  have HX : Hid (∀ V : World, FBox (V.alloc (.cells #[.int .i64 (p : Int), .int .i64 (q : Int)] 31)) V.heap.size 31 #[.int .i64 (p : Int), .int .i64 (q : Int)] ∧ Below V.heap.size V (V.alloc (.cells #[.int .i64 (p : Int), .int .i64 (q : Int)] 31))) := fun V => boxes1 V _ _
  clear h ht e1 e2 e3 e4
  go_enter Try.func14, Try.ntmps14
  go_wp2_with fail
  refine Calls.mono (HA.out _) ?_
  rintro e w1 ⟨rfl, hb1⟩
  have HB1 := hid (b2 hb1 (HX.out w1).2)
  obtain ⟨c0, c1, f0, f1⟩ := fbox_facts (HX.out w1).1 (Below.refl _ _)
  clear hb1
  go_wp2_with fail
  generalize w1.alloc (.cells #[.int .i64 (p : Int), .int .i64 (q : Int)] 31) = X at *
  refine Calls.mono (HR.out _) ?_
  rintro e w2 ⟨rfl, hb2⟩
  go_wp2_with fail
  go_returns
  exact ⟨rfl, b2 HB1.out hb2⟩
set_option maxHeartbeats 800000 in
set_option maxRecDepth 100000 in
theorem ndNode_err (t : Int) (w : World) (hi : I64 t) (h : ¬ (0 ≤ t ∧ t ≤ 1048576)) :
    Calls Try.prog 14 #[.int .i64 t] w fun e w' => e = .returned (.tuple #[.complex .f64 0 0, .int .i64 2]) ∧ Below w.heap.size w w' := by
  have HA := hid (fun V => agAngle_err 4 t V ⟨by decide, by decide⟩ hi (fun x => h x.2))
  unfold tT at HA
  clear h hi
  go_enter Try.func14, Try.ntmps14
  go_wp2_with fail
  refine Calls.mono (HA.out _) ?_
  rintro e w1 ⟨rfl, hb1⟩
  have HB1 : Hid (Below w.heap.size w (w1.alloc (.cells #[.int .i64 0, .int .i64 0] 31))) := hb1.alloc hb1.size _
  clear hb1
  go_wp2_with fail
  go_returns
  exact ⟨rfl, HB1.out⟩

/-- The factor and the turn's units, as the machine makes them. -/
def FacR (k re f : Nat) : Prop := ∃ p, FN .mul (ndS k) re p ∧ FN .add p (ndB k) f
def UnR (k im : Nat) (n : Int) : Prop := ∃ u, FN .mul (ndC k) im u ∧ RI u n

theorem FN.fin {op : BinOp} {x y r : Nat} (h : FN op x y r) (f : Fi r) : floatBits op .f64 x y = Option.some r := by
  rcases h.2 with h | ⟨_, h⟩
  · exact h
  · rw [f.notnan] at h; cases h

set_option maxHeartbeats 800000 in
set_option maxRecDepth 100000 in
theorem ndfactor_any (b s c re im p f : Nat) (w : World) (h1 : floatBits .mul .f64 s re = some p) (h2 : floatBits .add .f64 p b = some f) :
    Calls Try.prog 17 #[.agg #[.float .f64 b, .float .f64 s, .float .f64 c], .complex .f64 re im] w fun e w' => e = .returned (.float .f64 f) ∧ Below w.heap.size w w' := by
  have rM : ∀ V, (binOp .mul 26 (.float .f64 s) (.float .f64 re)).run Try.prog V = .ok (.float .f64 p) V := fun V => run_float_arith V _ _ _ _ _ _ h1
  have rA : ∀ V, (binOp .add 26 (.float .f64 p) (.float .f64 b)).run Try.prog V = .ok (.float .f64 f) V := fun V => run_float_arith V _ _ _ _ _ _ h2
  have HX := hid (boxes1 w 49 #[.float .f64 b, .float .f64 s, .float .f64 c])
  obtain ⟨c0, c1, c2, f0, f1, f2⟩ := box3 HX.out.1 (Below.refl _ _)
  clear h1 h2
  go_enter Try.func17, Try.ntmps17
  go_wp2_with fail
  go_ret
  exact ⟨rfl, HX.out.2⟩

theorem toInt_eq (u : Nat) : Extern.MathFloor.toIntegral "math.RoundToEven" .even #[.float .f64 u] = (match FloatKind.f64.decode u with
    | .nan s t => if FloatKind.f64.format.quiet t = t then pure (.float .f64 u) else do
      let kept ← choose (.extern "math.Floor,Ceil,Trunc,RoundToEven.signallingNaN kept" 2)
      pure (.float .f64 (if kept == 1 then u else FloatKind.f64.encode (.nan s (FloatKind.f64.format.quiet t))))
    | d => pure (.float .f64 (FloatKind.f64.encode (d.integral .even)))) := rfl
theorem round_run {u : Nat} (f : Fi u) (w : World) : (callFunc 26 #[.float .f64 u]).run Try.prog w = .ok (.value (.float .f64 (FloatKind.f64.encode ((FloatKind.f64.decode u).integral .even)))) w := by
  rw [run_callFunc_extern (fn := Try.f26) Try.func26 (by kernel_rfl) (by kernel_rfl) (by kernel_rfl) (e := Extern.MathFloor.toIntegral "math.RoundToEven" .even) (by kernel_rfl)]
  obtain ⟨m, a, e1, v1⟩ := read_num f.2
  have e1' : FloatKind.f64.decode u = .number (u / 9223372036854775808 % 2 == 1) m (-1074 + (a : Int)) := e1
  have e2 : Extern.MathFloor.toIntegral "math.RoundToEven" .even #[.float .f64 u] = pure (.float .f64 (FloatKind.f64.encode ((FloatKind.f64.decode u).integral .even))) := by
    rw [toInt_eq, e1']
  rw [e2]
  rfl

theorem boxes2t (w : World) (t t' : Nat) (u v : Array Value) : FBox ((w.alloc (.cells u t)).alloc (.cells v t')) w.heap.size t u ∧ FBox ((w.alloc (.cells u t)).alloc (.cells v t')) (w.heap.size + 1) t' v ∧ Below w.heap.size w ((w.alloc (.cells u t)).alloc (.cells v t')) := by
  have e : (w.alloc (.cells u t)).heap.size = w.heap.size + 1 := by unfold World.alloc; simp
  have h := FBox.made (w.alloc (.cells u t)) t' v
  rw [e] at h
  have hb := (Below.refl (w.alloc (.cells u t)).heap.size (w.alloc (.cells u t))).alloc (Nat.le_refl _) (.cells v t')
  exact ⟨(FBox.made w t u).later hb (FBox.made w t u).lt, h, b2 ((Below.refl _ _).alloc (Nat.le_refl _) _) hb⟩
set_option maxHeartbeats 1600000 in
set_option maxRecDepth 100000 in
theorem ndturn_any (b s c re im u v : Nat) (n : Int) (w : World) (h1 : floatBits .mul .f64 c im = some u) (hf : Fi u) (h2 : FloatKind.f64.encode ((FloatKind.f64.decode u).integral .even) = v) (h3 : floatToIntVal .f64 v .i64 = some n) (hn : I64 n) :
    Calls Try.prog 18 #[.agg #[.float .f64 b, .float .f64 s, .float .f64 c], .complex .f64 re im] w fun e w' => e = .returned (tV (ofR n 3600000)) ∧ Below w.heap.size w w' := by
  have rM : ∀ V, (binOp .mul 26 (.float .f64 c) (.float .f64 im)).run Try.prog V = .ok (.float .f64 u) V := fun V => run_float_arith V _ _ _ _ _ _ h1
  have rR : ∀ V, (callFunc 26 #[.float .f64 u]).run Try.prog V = .ok (.value (.float .f64 v)) V := fun V => by rw [round_run hf V, h2]
  have rC : ∀ V, (convert 26 2 (.float .f64 v)).run Try.prog V = .ok (.int .i64 n) V := fun V => run_convert_float_int V _ _ _ _ _ _ (by kernel_rfl) (by kernel_rfl) h3
  have HO := hid (fun V => tof_any n 3600000 V ⟨hn, by decide, by decide⟩)
  have HX := hid (boxes2t w 49 31 #[.float .f64 b, .float .f64 s, .float .f64 c] #[.int .i64 0, .int .i64 0])
  obtain ⟨c0, c1, c2, f0, f1, f2⟩ := box3 HX.out.1 (Below.refl _ _)
  clear h1 h2 h3 hn hf
  generalize ofR n 3600000 = T at *
  obtain ⟨t1, t2, t3⟩ := T
  rw [show tV (t1, t2, t3) = Value.tuple #[.agg #[.int .i64 t1, .int .i64 t2], .int .i64 t3] from rfl] at *
  go_enter Try.func18, Try.ntmps18
  go_wp2_with fail
  generalize ((w.alloc (.cells #[.float .f64 b, .float .f64 s, .float .f64 c] 49)).alloc (.cells #[.int .i64 0, .int .i64 0] 31)) = X at *
  refine Calls.mono (HO.out _) ?_
  rintro e w2 ⟨rfl, hb2⟩
  obtain ⟨d2, d3, g2, g3⟩ := fbox_facts HX.out.2.1 hb2
  have HB := hid (b2 HX.out.2.2 hb2)
  clear hb2 HX
  go_wp2_with fail
  refine bodyPost_ret (v := Value.tuple #[.agg #[.int .i64 t1, .int .i64 t2], .int .i64 t3]) (by simp [results, Try.results18, go_sem, d2, d3]) rfl ?_
  exact ⟨rfl, fput2 HB.out _ (by omega) _ _⟩
end Go.Proofs.Ytogcjkpmieghhaa

/- package nodal: at, Factor, Turn, of every name and tick. -/
namespace Go.Proofs.Ytogcjkpmieghhaa
open Go.RowKit
set_option linter.unusedVariables false

/-- Three floats stored into a box, each world named. -/
theorem put3f (P : Program) {X : World} {b t : Nat} {u0 u1 u2 : Value} (h : FBox X b t #[u0, u1, u2]) (x y z : Nat) :
    ∃ X1 X2 X3, (store ⟨b, 0, none⟩ (.float .f64 x)).run P X = .ok () X1 ∧ (store ⟨b, 1, none⟩ (.float .f64 y)).run P X1 = .ok () X2 ∧ (store ⟨b, 2, none⟩ (.float .f64 z)).run P X2 = .ok () X3 ∧ FBox X3 b t #[.float .f64 x, .float .f64 y, .float .f64 z] ∧
      (∀ B a, B ≤ b → Below B a X → Below B a X3) ∧ (∀ b' t' vs, b' ≠ b → FBox X b' t' vs → FBox X3 b' t' vs) ∧ X3.heap.size = X.heap.size := by
  have hh := (h.set 0 (.float .f64 x)).set 1 (.float .f64 y)
  have st : ∀ {W : World} {v0 v1 v2 : Value} (j k : Nat), j < 3 → FBox W b t #[v0, v1, v2] → (store ⟨b, j, none⟩ (.float .f64 k)).run P W = .ok () (W.setCell ⟨b, j, none⟩ (.float .f64 k)) := by
    intro W v0 v1 v2 j k hj g
    have c : W.cell? ⟨b, j, none⟩ = some #[v0, v1, v2][j] := by rw [g.cell j]; simp [hj]
    have f := g.free j
    rw [store_flt]
    simp [go_sem, c, f]
  refine ⟨_, _, _, st 0 x (by decide) h, st 1 y (by decide) (h.set 0 _), st 2 z (by decide) hh, hh.set 2 _, fun B a hB hb => ndfput3 hb b hB _ _ _, fun b' t' vs hne g => ((g.other _ _ hne).other _ _ hne).other _ _ hne, ?_⟩
  simp

set_option maxHeartbeats 1600000 in
set_option maxRecDepth 100000 in
theorem ndat_ok (n : ByteArray) (t : Int) (re im b s c : Nat) (w : World) (HN : Hid (∀ V, Calls Try.prog 14 #[.int .i64 t] V fun e w' => e = .returned (.tuple #[.complex .f64 re im, .int .i64 0]) ∧ Below V.heap.size V w'))
    (HF : Hid (∀ V, Calls Try.prog 20 #[.string n] V fun e w' => e = .returned (.tuple #[.agg #[.float .f64 b, .float .f64 s, .float .f64 c], .int .i64 0]) ∧ Below V.heap.size V w')) :
    Calls Try.prog 16 #[.string n, .int .i64 t] w fun e w' => e = .returned (.tuple #[.agg #[.float .f64 b, .float .f64 s, .float .f64 c], .complex .f64 re im, .int .i64 0]) ∧ Below w.heap.size w w' := by
  have HX := hid (boxes1 w 49 #[.float .f64 0, .float .f64 0, .float .f64 0])
  go_enter Try.func16, Try.ntmps16
  go_wp2_with fail
  generalize w.alloc (.cells #[.float .f64 0, .float .f64 0, .float .f64 0] 49) = X at *
  refine Calls.mono (HN.out _) ?_
  rintro e w1 ⟨rfl, hb1⟩
  go_wp2_with fail
  refine Calls.mono (HF.out _) ?_
  rintro e w2 ⟨rfl, hb2⟩
  have hx2 : FBox w2 w.heap.size _ _ := HX.out.1.later (b2 hb1 hb2) HX.out.1.lt
  have hBw := b2 HX.out.2 (b2 hb1 hb2)
  have hy := boxes1 w2 49 #[.float .f64 0, .float .f64 0, .float .f64 0]
  obtain ⟨Y, hY⟩ : ∃ Y, w2.alloc (.cells #[.float .f64 0, .float .f64 0, .float .f64 0] 49) = Y := ⟨_, rfl⟩
  rw [hY] at hy
  have hlt := hx2.lt
  have hx3 := hx2.later hy.2 hlt
  obtain ⟨Y1, Y2, Y3, r1, r2, r3, k1, k2, k3, k4⟩ := put3f Try.prog hy.1 b s c
  have hx4 := k3 _ _ _ (by omega) hx3
  obtain ⟨Z1, Z2, Z3, q1, q2, q3, m1, m2, m3, m4⟩ := put3f Try.prog hx4 b s c
  have HB := hid (m2 _ _ (Nat.le_refl _) (k2 _ _ hBw.size (b2 hBw hy.2)))
  have d0 : Y3.cell? ⟨w2.heap.size, 0, none⟩ = some (.float .f64 b) := k1.cell 0
  have d1 : Y3.cell? ⟨w2.heap.size, 1, none⟩ = some (.float .f64 s) := k1.cell 1
  have d2 : Y3.cell? ⟨w2.heap.size, 2, none⟩ = some (.float .f64 c) := k1.cell 2
  have g0 : Z3.cell? ⟨w.heap.size, 0, none⟩ = some (.float .f64 b) := m1.cell 0
  have g1 : Z3.cell? ⟨w.heap.size, 1, none⟩ = some (.float .f64 s) := m1.cell 1
  have g2 : Z3.cell? ⟨w.heap.size, 2, none⟩ = some (.float .f64 c) := m1.cell 2
  clear hx2 hBw hy hlt hx3 k1 k2 k3 k4 hx4 m1 m2 m3 m4 hb1 hb2 HX HN HF
  go_wp2_with fail
  refine bodyPost_ret (v := Value.tuple #[.agg #[.float .f64 b, .float .f64 s, .float .f64 c], .complex .f64 re im, .int .i64 0]) (by simp [results, Try.results16, go_sem, g0, g1, g2]) rfl ?_
  exact ⟨rfl, HB.out⟩
set_option maxHeartbeats 1600000 in
set_option maxRecDepth 100000 in
theorem ndat_none (n : ByteArray) (t : Int) (re im : Nat) (w : World) (HN : Hid (∀ V, Calls Try.prog 14 #[.int .i64 t] V fun e w' => e = .returned (.tuple #[.complex .f64 re im, .int .i64 0]) ∧ Below V.heap.size V w'))
    (HF : Hid (∀ V, Calls Try.prog 20 #[.string n] V fun e w' => e = .returned (.tuple #[.agg #[.float .f64 0, .float .f64 0, .float .f64 0], .int .i64 6]) ∧ Below V.heap.size V w')) :
    Calls Try.prog 16 #[.string n, .int .i64 t] w fun e w' => e = .returned (.tuple #[.agg #[.float .f64 0, .float .f64 0, .float .f64 0], .complex .f64 0 0, .int .i64 6]) ∧ Below w.heap.size w w' := by
  have HX := hid (boxes1 w 49 #[.float .f64 0, .float .f64 0, .float .f64 0])
  go_enter Try.func16, Try.ntmps16
  go_wp2_with fail
  generalize w.alloc (.cells #[.float .f64 0, .float .f64 0, .float .f64 0] 49) = X at *
  refine Calls.mono (HN.out _) ?_
  rintro e w1 ⟨rfl, hb1⟩
  go_wp2_with fail
  refine Calls.mono (HF.out _) ?_
  rintro e w2 ⟨rfl, hb2⟩
  have hx2 : FBox w2 w.heap.size _ _ := HX.out.1.later (b2 hb1 hb2) HX.out.1.lt
  have hBw := b2 HX.out.2 (b2 hb1 hb2)
  have hy := boxes1 w2 49 #[.float .f64 0, .float .f64 0, .float .f64 0]
  obtain ⟨Y, hY⟩ : ∃ Y, w2.alloc (.cells #[.float .f64 0, .float .f64 0, .float .f64 0] 49) = Y := ⟨_, rfl⟩
  rw [hY] at hy
  have hlt := hx2.lt
  have hx3 := hx2.later hy.2 hlt
  obtain ⟨Y1, Y2, Y3, r1, r2, r3, k1, k2, k3, k4⟩ := put3f Try.prog hy.1 0 0 0
  have hx4 := k3 _ _ _ (by omega) hx3
  obtain ⟨Z1, Z2, Z3, q1, q2, q3, m1, m2, m3, m4⟩ := put3f Try.prog hx4 0 0 0
  have HB := hid (m2 _ _ (Nat.le_refl _) (k2 _ _ hBw.size (b2 hBw hy.2)))
  have g0 : Z3.cell? ⟨w.heap.size, 0, none⟩ = some (.float .f64 0) := m1.cell 0
  have g1 : Z3.cell? ⟨w.heap.size, 1, none⟩ = some (.float .f64 0) := m1.cell 1
  have g2 : Z3.cell? ⟨w.heap.size, 2, none⟩ = some (.float .f64 0) := m1.cell 2
  clear hx2 hBw hy hlt hx3 k1 k2 k3 k4 hx4 m1 m2 m3 m4 hb1 hb2 HX HN HF
  go_wp2_with fail
  refine bodyPost_ret (v := Value.tuple #[.agg #[.float .f64 0, .float .f64 0, .float .f64 0], .complex .f64 0 0, .int .i64 6]) (by simp [results, Try.results16, go_sem, g0, g1, g2]) rfl ?_
  exact ⟨rfl, HB.out⟩
set_option maxHeartbeats 1600000 in
set_option maxRecDepth 100000 in
theorem ndat_err (n : ByteArray) (t : Int) (w : World) (HN : Hid (∀ V, Calls Try.prog 14 #[.int .i64 t] V fun e w' => e = .returned (.tuple #[.complex .f64 0 0, .int .i64 2]) ∧ Below V.heap.size V w')) :
    Calls Try.prog 16 #[.string n, .int .i64 t] w fun e w' => e = .returned (.tuple #[.agg #[.float .f64 0, .float .f64 0, .float .f64 0], .complex .f64 0 0, .int .i64 2]) ∧ Below w.heap.size w w' := by
  have HX := hid (boxes1 w 49 #[.float .f64 0, .float .f64 0, .float .f64 0])
  go_enter Try.func16, Try.ntmps16
  go_wp2_with fail
  generalize w.alloc (.cells #[.float .f64 0, .float .f64 0, .float .f64 0] 49) = X at *
  refine Calls.mono (HN.out _) ?_
  rintro e w1 ⟨rfl, hb1⟩
  have hx2 : FBox w1 w.heap.size _ _ := HX.out.1.later hb1 HX.out.1.lt
  have hBw := b2 HX.out.2 hb1
  obtain ⟨Z1, Z2, Z3, q1, q2, q3, m1, m2, m3, m4⟩ := put3f Try.prog hx2 0 0 0
  have HB := hid (m2 _ _ (Nat.le_refl _) hBw)
  have g0 : Z3.cell? ⟨w.heap.size, 0, none⟩ = some (.float .f64 0) := m1.cell 0
  have g1 : Z3.cell? ⟨w.heap.size, 1, none⟩ = some (.float .f64 0) := m1.cell 1
  have g2 : Z3.cell? ⟨w.heap.size, 2, none⟩ = some (.float .f64 0) := m1.cell 2
  clear hx2 hBw m1 m2 m3 m4 hb1 HX HN
  go_wp2_with fail
  refine bodyPost_ret (v := Value.tuple #[.agg #[.float .f64 0, .float .f64 0, .float .f64 0], .complex .f64 0 0, .int .i64 2]) (by simp [results, Try.results16, go_sem, g0, g1, g2]) rfl ?_
  exact ⟨rfl, HB.out⟩

/-- A new box of three floats, made and filled, each world named. -/
theorem newrow (P : Program) (w : World) (t x y z : Nat) :
    ∃ Y Y1 Y2 Y3, w.alloc (.cells #[.float .f64 0, .float .f64 0, .float .f64 0] t) = Y ∧ (store ⟨w.heap.size, 0, none⟩ (.float .f64 x)).run P Y = .ok () Y1 ∧ (store ⟨w.heap.size, 1, none⟩ (.float .f64 y)).run P Y1 = .ok () Y2 ∧ (store ⟨w.heap.size, 2, none⟩ (.float .f64 z)).run P Y2 = .ok () Y3 ∧
      (Y3.cell? ⟨w.heap.size, 0, none⟩ = some (.float .f64 x) ∧ Y3.cell? ⟨w.heap.size, 1, none⟩ = some (.float .f64 y) ∧ Y3.cell? ⟨w.heap.size, 2, none⟩ = some (.float .f64 z)) ∧ FBox Y3 w.heap.size t #[.float .f64 x, .float .f64 y, .float .f64 z] ∧ Below w.heap.size w Y3 := by
  have hy := boxes1 w t #[.float .f64 0, .float .f64 0, .float .f64 0]
  obtain ⟨Y1, Y2, Y3, r1, r2, r3, k1, k2, k3, k4⟩ := put3f P hy.1 x y z
  exact ⟨_, Y1, Y2, Y3, rfl, r1, r2, r3, ⟨k1.cell 0, k1.cell 1, k1.cell 2⟩, k1, k2 _ _ (Nat.le_refl _) hy.2⟩

set_option maxHeartbeats 1600000 in
set_option maxRecDepth 100000 in
theorem ndFactor_ok (n : ByteArray) (t : Int) (re im b s c p f : Nat) (w : World) (h1 : floatBits .mul .f64 s re = some p) (h2 : floatBits .add .f64 p b = some f)
    (HA : Hid (∀ V, Calls Try.prog 16 #[.string n, .int .i64 t] V fun e w' => e = .returned (.tuple #[.agg #[.float .f64 b, .float .f64 s, .float .f64 c], .complex .f64 re im, .int .i64 0]) ∧ Below V.heap.size V w')) :
    Calls Try.prog 9 #[.string n, .int .i64 t] w fun e w' => e = .returned (.tuple #[.float .f64 f, .int .i64 0]) ∧ Below w.heap.size w w' := by
  have HC := hid (fun V => ndfactor_any b s c re im p f V h1 h2)
  clear h1 h2
  go_enter Try.func9, Try.ntmps9
  go_wp2_with fail
  refine Calls.mono (HA.out _) ?_
  rintro e w1 ⟨rfl, hb1⟩
  obtain ⟨Y, Y1, Y2, Y3, r0, r1, r2, r3, ⟨d0, d1, d2⟩, k1, k2⟩ := newrow Try.prog w1 49 b s c
  have HB1 := hid (b2 hb1 k2)
  clear hb1 k1 k2 HA
  go_wp2_with fail
  refine Calls.mono (HC.out _) ?_
  rintro e w2 ⟨rfl, hb2⟩
  go_wp2_with fail
  go_returns
  exact ⟨rfl, b2 HB1.out hb2⟩
set_option maxHeartbeats 1600000 in
set_option maxRecDepth 100000 in
theorem ndFactor_err (n : ByteArray) (t E : Int) (w : World) (hE : (E == 0) = false)
    (HA : Hid (∀ V, Calls Try.prog 16 #[.string n, .int .i64 t] V fun e w' => e = .returned (.tuple #[.agg #[.float .f64 0, .float .f64 0, .float .f64 0], .complex .f64 0 0, .int .i64 E]) ∧ Below V.heap.size V w')) :
    Calls Try.prog 9 #[.string n, .int .i64 t] w fun e w' => e = .returned (.tuple #[.float .f64 0, .int .i64 E]) ∧ Below w.heap.size w w' := by
  go_enter Try.func9, Try.ntmps9
  go_wp2_with fail
  refine Calls.mono (HA.out _) ?_
  rintro e w1 ⟨rfl, hb1⟩
  obtain ⟨Y, Y1, Y2, Y3, r0, r1, r2, r3, ⟨d0, d1, d2⟩, k1, k2⟩ := newrow Try.prog w1 49 0 0 0
  have HB1 := hid (b2 hb1 k2)
  clear hb1 k1 k2 HA
  go_wp2_with fail
  go_returns
  exact ⟨rfl, HB1.out⟩

set_option maxHeartbeats 1600000 in
set_option maxRecDepth 100000 in
theorem ndTurn_ok (n : ByteArray) (t : Int) (re im b s c : Nat) (T : Int × Int × Int) (w : World)
    (HT : Hid (∀ V, Calls Try.prog 18 #[.agg #[.float .f64 b, .float .f64 s, .float .f64 c], .complex .f64 re im] V fun e w' => e = .returned (tV T) ∧ Below V.heap.size V w'))
    (HA : Hid (∀ V, Calls Try.prog 16 #[.string n, .int .i64 t] V fun e w' => e = .returned (.tuple #[.agg #[.float .f64 b, .float .f64 s, .float .f64 c], .complex .f64 re im, .int .i64 0]) ∧ Below V.heap.size V w')) :
    Calls Try.prog 10 #[.string n, .int .i64 t] w fun e w' => e = .returned (tV T) ∧ Below w.heap.size w w' := by
  obtain ⟨t1, t2, t3⟩ := T
  rw [show tV (t1, t2, t3) = Value.tuple #[.agg #[.int .i64 t1, .int .i64 t2], .int .i64 t3] from rfl] at *
  have HX := hid (boxes1 w 31 #[.int .i64 0, .int .i64 0])
  go_enter Try.func10, Try.ntmps10
  go_wp2_with fail
  generalize w.alloc (.cells #[.int .i64 0, .int .i64 0] 31) = X at *
  refine Calls.mono (HA.out _) ?_
  rintro e w1 ⟨rfl, hb1⟩
  obtain ⟨Y, Y1, Y2, Y3, r0, r1, r2, r3, ⟨d0, d1, d2⟩, k1, k2⟩ := newrow Try.prog w1 49 b s c
  have HB1 := hid (b2 hb1 k2)
  clear hb1 k1 k2 HA
  go_wp2_with fail
  refine Calls.mono (HT.out _) ?_
  rintro e w2 ⟨rfl, hb2⟩
  obtain ⟨c2, c3, f2, f3⟩ := fbox_facts HX.out.1 (b2 HB1.out hb2)
  have HB := hid (b2 HX.out.2 (b2 HB1.out hb2))
  clear hb2 HX HB1
  go_wp2_with fail
  refine bodyPost_ret (v := Value.tuple #[.agg #[.int .i64 t1, .int .i64 t2], .int .i64 t3]) (by simp [results, Try.results10, go_sem, c2, c3]) rfl ?_
  exact ⟨rfl, fput2 HB.out _ (Nat.le_refl _) _ _⟩
set_option maxHeartbeats 1600000 in
set_option maxRecDepth 100000 in
theorem ndTurn_err (n : ByteArray) (t E : Int) (w : World) (hE : (E == 0) = false)
    (HA : Hid (∀ V, Calls Try.prog 16 #[.string n, .int .i64 t] V fun e w' => e = .returned (.tuple #[.agg #[.float .f64 0, .float .f64 0, .float .f64 0], .complex .f64 0 0, .int .i64 E]) ∧ Below V.heap.size V w')) :
    Calls Try.prog 10 #[.string n, .int .i64 t] w fun e w' => e = .returned (.tuple #[.agg #[.int .i64 0, .int .i64 0], .int .i64 E]) ∧ Below w.heap.size w w' := by
  have HX := hid (boxes1 w 31 #[.int .i64 0, .int .i64 0])
  go_enter Try.func10, Try.ntmps10
  go_wp2_with fail
  generalize w.alloc (.cells #[.int .i64 0, .int .i64 0] 31) = X at *
  refine Calls.mono (HA.out _) ?_
  rintro e w1 ⟨rfl, hb1⟩
  obtain ⟨Y, Y1, Y2, Y3, r0, r1, r2, r3, ⟨d0, d1, d2⟩, k1, k2⟩ := newrow Try.prog w1 49 0 0 0
  obtain ⟨c2, c3, f2, f3⟩ := fbox_facts HX.out.1 (b2 hb1 k2)
  have HB := hid (b2 HX.out.2 (b2 hb1 k2))
  clear hb1 k1 k2 HA HX
  go_wp2_with fail
  refine bodyPost_ret (v := Value.tuple #[.agg #[.int .i64 0, .int .i64 0], .int .i64 E]) (by simp [results, Try.results10, go_sem, c2, c3]) rfl ?_
  exact ⟨rfl, by first | exact fput2 HB.out _ (Nat.le_refl _) _ _ | exact HB.out⟩
end Go.Proofs.Ytogcjkpmieghhaa

/- package nodal: Names; each row's factor is from 0.5 to 1.5, its units at most 237,000 in size. (tools/mkno4.py) -/
namespace Go.Proofs.Ytogcjkpmieghhaa
open Go.RowKit
set_option linter.unusedVariables false

/-- The names, rising, and their rows. -/
def ndN : Nat → ByteArray
  | 0 => { data := #[75, 49] }
  | 1 => { data := #[75, 50] }
  | 2 => { data := #[77, 50] }
  | 3 => { data := #[77, 102] }
  | 4 => { data := #[77, 109] }
  | 5 => { data := #[78, 50] }
  | 6 => { data := #[79, 49] }
  | 7 => { data := #[80, 49] }
  | 8 => { data := #[81, 49] }
  | _ => { data := #[83, 50] }
def ndI : Nat → Nat
  | 0 => 3
  | 1 => 2
  | 2 => 0
  | 3 => 5
  | 4 => 6
  | 5 => 0
  | 6 => 4
  | 7 => 1
  | 8 => 4
  | _ => 1
def ndA : Array Value := #[.string { data := #[75, 49] }, .string { data := #[75, 50] }, .string { data := #[77, 50] }, .string { data := #[77, 102] }, .string { data := #[77, 109] }, .string { data := #[78, 50] }, .string { data := #[79, 49] }, .string { data := #[80, 49] }, .string { data := #[81, 49] }, .string { data := #[83, 50] }]
theorem nd_ten {i : Nat} (h : i < 10) : i = 0 ∨ i = 1 ∨ i = 2 ∨ i = 3 ∨ i = 4 ∨ i = 5 ∨ i = 6 ∨ i = 7 ∨ i = 8 ∨ i = 9 := by omega
theorem ndA_at {i : Nat} (h : i < 10) : ndA[i]? = some (.string (ndN i)) := by
  rcases nd_ten h with rfl | rfl | rfl | rfl | rfl | rfl | rfl | rfl | rfl | rfl <;> rfl
theorem ndN_row {i : Nat} (h : i < 10) : ndK (ndN i).toList = some (ndI i) := by
  rcases nd_ten h with rfl | rfl | rfl | rfl | rfl | rfl | rfl | rfl | rfl | rfl <;> decide +kernel
theorem ndI_lt {i : Nat} (h : i < 10) : ndI i < 7 := by
  rcases nd_ten h with rfl | rfl | rfl | rfl | rfl | rfl | rfl | rfl | rfl | rfl <;> decide
/-- Which names stand still, which turn none. -/
theorem ndN_still {i : Nat} (h : i < 10) : (((ndN i).toList == [83, 50]) = true → ndI i = 1) ∧ (((ndN i).toList == [80, 49]) = true → ndI i = 1) ∧ (((ndN i).toList == [77, 109]) = true → ndI i = 6) := by
  rcases nd_ten h with rfl | rfl | rfl | rfl | rfl | rfl | rfl | rfl | rfl | rfl <;> decide +kernel
set_option maxHeartbeats 1600000 in
set_option maxRecDepth 100000 in
theorem ndNames_any (w : World) :
    Calls Try.prog 7 #[] w fun e w' => e = .returned (.slice (some ⟨w.heap.size, 0, none⟩) 10 10) ∧ FBox w' w.heap.size 9 ndA ∧ Below w.heap.size w w' ∧ w'.heap.size = w.heap.size + 1 := by
  have HX := hid (boxes1 w 9 ndA)
  have HS : Hid ((w.alloc (.cells ndA 9)).heap.size = w.heap.size + 1) := World.size_alloc _ _
  go_enter Try.func7, Try.ntmps7
  go_wp2_with fail
  go_ret
  exact ⟨rfl, HX.out.1, HX.out.2, HS.out⟩

theorem In.abs {x c : Nat} {d : Int} (h : In 1064 (-d) d x) (hd : d = (c : Int) * 1024) : (sv x).natAbs ≤ c * 2 ^ 1074 := by
  obtain ⟨f, h1, h2⟩ := h
  obtain ⟨E, hE⟩ : ∃ E, E = 1064 := ⟨_, rfl⟩
  have e : 2 ^ 1074 = 1024 * 2 ^ E := by rw [show 1074 = 10 + E by omega, Nat.pow_add]
  rw [e]
  rw [← hE, hd] at h1 h2
  generalize 2 ^ E = P at *
  rw [Int.neg_mul] at h1
  have e2 : (c : Int) * 1024 * (P : Int) = ((c * (1024 * P) : Nat) : Int) := by rw [Int.natCast_mul, Int.natCast_mul, Int.mul_assoc]; rfl
  rw [e2] at h1 h2
  omega
theorem fac_0 {re : Nat} (h : Unit1 re) : ∃ p f, floatBits .mul .f64 13808865119849376907 re = some p ∧ floatBits .add .f64 p 4607182418800017408 = some f ∧ In 1024 (562949953421312) (1688849860263936) f := by
  obtain ⟨p, hp⟩ := fn_ex .mul 13808865119849376907 re
  obtain ⟨f, hf⟩ := fn_ex .add p 4607182418800017408
  have is : In 1024 (-41658296553178) (-41658296553177) 13808865119849376907 := ⟨⟨by decide, by decide⟩, by decide +kernel, by decide +kernel⟩
  have ib : In 1024 (1125899906842624) (1125899906842624) 4607182418800017408 := ⟨⟨by decide, by decide⟩, by decide +kernel, by decide +kernel⟩
  have ip : In 1024 (-41658296553178) (41658296553178) p := In.mul is h hp (s := 50) (by decide) (by decide) (by decide) (by decide) (by decide) (by decide) (by decide) (by decide) (by decide) (by decide) (by decide) (by decide) (by decide)
  have if' : In 1024 (1084241610289446) (1167558203395802) f := In.add ip ib hf (by decide) (by decide) (by decide) (by decide) (by decide) (by decide)
  exact ⟨p, f, hp.fin ip.1, hf.fin if'.1, if'.wide (by decide) (by decide)⟩
theorem un_0 {im : Nat} (h : Unit1 im) : ∃ u v n, floatBits .mul .f64 13894873686856433664 im = some u ∧ Fi u ∧ FloatKind.f64.encode ((FloatKind.f64.decode u).integral .even) = v ∧ floatToIntVal .f64 v .i64 = some n ∧ RI u n ∧ n.natAbs ≤ 21000 := by
  obtain ⟨u, hu⟩ := fn_ex .mul 13894873686856433664 im
  have ic : In 1074 (-21000) (-21000) 13894873686856433664 := ⟨⟨by decide, by decide⟩, by decide +kernel, by decide +kernel⟩
  have iu : In 1064 (-21504000) 21504000 u := In.mul ic h hu (s := 40) (by decide) (by decide) (by decide) (by decide) (by decide) (by decide) (by decide) (by decide) (by decide) (by decide) (by decide) (by decide) (by decide)
  have hb := iu.abs (c := 21000) (by decide)
  obtain ⟨v, n, e1, e2, e3, e4, e5, e6⟩ := round_ex iu.1 21000 (by decide) hb
  exact ⟨u, v, n, hu.fin iu.1, iu.1, e1, e3, e4, e5⟩
theorem fac_1 {re : Nat} (h : Unit1 re) : ∃ p f, floatBits .mul .f64 0 re = some p ∧ floatBits .add .f64 p 4607182418800017408 = some f ∧ In 1024 (1125899906842624) (1125899906842624) f := by
  obtain ⟨p, hp⟩ := fn_ex .mul 0 re
  obtain ⟨f, hf⟩ := fn_ex .add p 4607182418800017408
  have is : In 1024 (0) (0) 0 := ⟨⟨by decide, by decide⟩, by decide +kernel, by decide +kernel⟩
  have ib : In 1024 (1125899906842624) (1125899906842624) 4607182418800017408 := ⟨⟨by decide, by decide⟩, by decide +kernel, by decide +kernel⟩
  have ip : In 1024 (0) (0) p := In.mul is h hp (s := 50) (by decide) (by decide) (by decide) (by decide) (by decide) (by decide) (by decide) (by decide) (by decide) (by decide) (by decide) (by decide) (by decide)
  have if' : In 1024 (1125899906842624) (1125899906842624) f := In.add ip ib hf (by decide) (by decide) (by decide) (by decide) (by decide) (by decide)
  exact ⟨p, f, hp.fin ip.1, hf.fin if'.1, if'.wide (by decide) (by decide)⟩
theorem un_1 {im : Nat} (h : Unit1 im) : ∃ u v n, floatBits .mul .f64 0 im = some u ∧ Fi u ∧ FloatKind.f64.encode ((FloatKind.f64.decode u).integral .even) = v ∧ floatToIntVal .f64 v .i64 = some n ∧ RI u n ∧ n.natAbs ≤ 0 := by
  obtain ⟨u, hu⟩ := fn_ex .mul 0 im
  have ic : In 1074 (0) (0) 0 := ⟨⟨by decide, by decide⟩, by decide +kernel, by decide +kernel⟩
  have iu : In 1064 (-0) 0 u := In.mul ic h hu (s := 40) (by decide) (by decide) (by decide) (by decide) (by decide) (by decide) (by decide) (by decide) (by decide) (by decide) (by decide) (by decide) (by decide)
  have hb := iu.abs (c := 0) (by decide)
  obtain ⟨v, n, e1, e2, e3, e4, e5, e6⟩ := round_ex iu.1 0 (by decide) hb
  exact ⟨u, v, n, hu.fin iu.1, iu.1, e1, e3, e4, e5⟩
theorem fac_2 {re : Nat} (h : Unit1 re) : ∃ p f, floatBits .mul .f64 4598823737891617767 re = some p ∧ floatBits .add .f64 p 4607290505191074300 = some f ∧ In 1024 (562949953421312) (1688849860263936) f := by
  obtain ⟨p, hp⟩ := fn_ex .mul 4598823737891617767 re
  obtain ⟨f, hf⟩ := fn_ex .add p 4607290505191074300
  have is : In 1024 (322007373356990) (322007373356991) 4598823737891617767 := ⟨⟨by decide, by decide⟩, by decide +kernel, by decide +kernel⟩
  have ib : In 1024 (1152921504606847) (1152921504606847) 4607290505191074300 := ⟨⟨by decide, by decide⟩, by decide +kernel, by decide +kernel⟩
  have ip : In 1024 (-322007373356991) (322007373356991) p := In.mul is h hp (s := 50) (by decide) (by decide) (by decide) (by decide) (by decide) (by decide) (by decide) (by decide) (by decide) (by decide) (by decide) (by decide) (by decide)
  have if' : In 1024 (830914131249856) (1474928877963838) f := In.add ip ib hf (by decide) (by decide) (by decide) (by decide) (by decide) (by decide)
  exact ⟨p, f, hp.fin ip.1, hf.fin if'.1, if'.wide (by decide) (by decide)⟩
theorem un_2 {im : Nat} (h : Unit1 im) : ∃ u v n, floatBits .mul .f64 13908693723383857152 im = some u ∧ Fi u ∧ FloatKind.f64.encode ((FloatKind.f64.decode u).integral .even) = v ∧ floatToIntVal .f64 v .i64 = some n ∧ RI u n ∧ n.natAbs ≤ 177000 := by
  obtain ⟨u, hu⟩ := fn_ex .mul 13908693723383857152 im
  have ic : In 1074 (-177000) (-177000) 13908693723383857152 := ⟨⟨by decide, by decide⟩, by decide +kernel, by decide +kernel⟩
  have iu : In 1064 (-181248000) 181248000 u := In.mul ic h hu (s := 40) (by decide) (by decide) (by decide) (by decide) (by decide) (by decide) (by decide) (by decide) (by decide) (by decide) (by decide) (by decide) (by decide)
  have hb := iu.abs (c := 177000) (by decide)
  obtain ⟨v, n, e1, e2, e3, e4, e5, e6⟩ := round_ex iu.1 177000 (by decide) hb
  exact ⟨u, v, n, hu.fin iu.1, iu.1, e1, e3, e4, e5⟩
theorem fac_3 {re : Nat} (h : Unit1 re) : ∃ p f, floatBits .mul .f64 4592951043977526641 re = some p ∧ floatBits .add .f64 p 4607209440397781631 = some f ∧ In 1024 (562949953421312) (1688849860263936) f := by
  obtain ⟨p, hp⟩ := fn_ex .mul 4592951043977526641 re
  obtain ⟨f, hf⟩ := fn_ex .add p 4607209440397781631
  have is : In 1024 (129478489286901) (129478489286902) 4592951043977526641 := ⟨⟨by decide, by decide⟩, by decide +kernel, by decide +kernel⟩
  have ib : In 1024 (1132655306283679) (1132655306283680) 4607209440397781631 := ⟨⟨by decide, by decide⟩, by decide +kernel, by decide +kernel⟩
  have ip : In 1024 (-129478489286902) (129478489286902) p := In.mul is h hp (s := 50) (by decide) (by decide) (by decide) (by decide) (by decide) (by decide) (by decide) (by decide) (by decide) (by decide) (by decide) (by decide) (by decide)
  have if' : In 1024 (1003176816996777) (1262133795570582) f := In.add ip ib hf (by decide) (by decide) (by decide) (by decide) (by decide) (by decide)
  exact ⟨p, f, hp.fin ip.1, hf.fin if'.1, if'.wide (by decide) (by decide)⟩
theorem un_3 {im : Nat} (h : Unit1 im) : ∃ u v n, floatBits .mul .f64 13904224483494854656 im = some u ∧ Fi u ∧ FloatKind.f64.encode ((FloatKind.f64.decode u).integral .even) = v ∧ floatToIntVal .f64 v .i64 = some n ∧ RI u n ∧ n.natAbs ≤ 89000 := by
  obtain ⟨u, hu⟩ := fn_ex .mul 13904224483494854656 im
  have ic : In 1074 (-89000) (-89000) 13904224483494854656 := ⟨⟨by decide, by decide⟩, by decide +kernel, by decide +kernel⟩
  have iu : In 1064 (-91136000) 91136000 u := In.mul ic h hu (s := 40) (by decide) (by decide) (by decide) (by decide) (by decide) (by decide) (by decide) (by decide) (by decide) (by decide) (by decide) (by decide) (by decide)
  have hb := iu.abs (c := 89000) (by decide)
  obtain ⟨v, n, e1, e2, e3, e4, e5, e6⟩ := round_ex iu.1 89000 (by decide) hb
  exact ⟨u, v, n, hu.fin iu.1, iu.1, e1, e3, e4, e5⟩
theorem fac_4 {re : Nat} (h : Unit1 re) : ∃ p f, floatBits .mul .f64 4595905405333081686 re = some p ∧ floatBits .add .f64 p 4607222951196663742 = some f ∧ In 1024 (562949953421312) (1688849860263936) f := by
  obtain ⟨p, hp⟩ := fn_ex .mul 4595905405333081686 re
  obtain ⟨f, hf⟩ := fn_ex .add p 4607222951196663742
  have is : In 1024 (210543282579570) (210543282579571) 4595905405333081686 := ⟨⟨by decide, by decide⟩, by decide +kernel, by decide +kernel⟩
  have ib : In 1024 (1136033006004207) (1136033006004208) 4607222951196663742 := ⟨⟨by decide, by decide⟩, by decide +kernel, by decide +kernel⟩
  have ip : In 1024 (-210543282579571) (210543282579571) p := In.mul is h hp (s := 50) (by decide) (by decide) (by decide) (by decide) (by decide) (by decide) (by decide) (by decide) (by decide) (by decide) (by decide) (by decide) (by decide)
  have if' : In 1024 (925489723424636) (1346576288583779) f := In.add ip ib hf (by decide) (by decide) (by decide) (by decide) (by decide) (by decide)
  exact ⟨p, f, hp.fin ip.1, hf.fin if'.1, if'.wide (by decide) (by decide)⟩
theorem un_4 {im : Nat} (h : Unit1 im) : ∃ u v n, floatBits .mul .f64 4682158116698062848 im = some u ∧ Fi u ∧ FloatKind.f64.encode ((FloatKind.f64.decode u).integral .even) = v ∧ floatToIntVal .f64 v .i64 = some n ∧ RI u n ∧ n.natAbs ≤ 108000 := by
  obtain ⟨u, hu⟩ := fn_ex .mul 4682158116698062848 im
  have ic : In 1074 (108000) (108000) 4682158116698062848 := ⟨⟨by decide, by decide⟩, by decide +kernel, by decide +kernel⟩
  have iu : In 1064 (-110592000) 110592000 u := In.mul ic h hu (s := 40) (by decide) (by decide) (by decide) (by decide) (by decide) (by decide) (by decide) (by decide) (by decide) (by decide) (by decide) (by decide) (by decide)
  have hb := iu.abs (c := 108000) (by decide)
  obtain ⟨v, n, e1, e2, e3, e4, e5, e6⟩ := round_ex iu.1 108000 (by decide) hb
  exact ⟨u, v, n, hu.fin iu.1, iu.1, e1, e3, e4, e5⟩
theorem fac_5 {re : Nat} (h : Unit1 re) : ∃ p f, floatBits .mul .f64 4601129580900831461 re = some p ∧ floatBits .add .f64 p 4607376073583994339 = some f ∧ In 1024 (562949953421312) (1688849860263936) f := by
  obtain ⟨p, hp⟩ := fn_ex .mul 4601129580900831461 re
  obtain ⟨f, hf⟩ := fn_ex .add p 4607376073583994339
  have is : In 1024 (466122561432846) (466122561432847) 4601129580900831461 := ⟨⟨by decide, by decide⟩, by decide +kernel, by decide +kernel⟩
  have ib : In 1024 (1174313602836856) (1174313602836857) 4607376073583994339 := ⟨⟨by decide, by decide⟩, by decide +kernel, by decide +kernel⟩
  have ip : In 1024 (-466122561432847) (466122561432847) p := In.mul is h hp (s := 50) (by decide) (by decide) (by decide) (by decide) (by decide) (by decide) (by decide) (by decide) (by decide) (by decide) (by decide) (by decide) (by decide)
  have if' : In 1024 (708191041404009) (1640436164269704) f := In.add ip ib hf (by decide) (by decide) (by decide) (by decide) (by decide) (by decide)
  exact ⟨p, f, hp.fin ip.1, hf.fin if'.1, if'.wide (by decide) (by decide)⟩
theorem un_5 {im : Nat} (h : Unit1 im) : ∃ u v n, floatBits .mul .f64 13910755307685937152 im = some u ∧ Fi u ∧ FloatKind.f64.encode ((FloatKind.f64.decode u).integral .even) = v ∧ floatToIntVal .f64 v .i64 = some n ∧ RI u n ∧ n.natAbs ≤ 237000 := by
  obtain ⟨u, hu⟩ := fn_ex .mul 13910755307685937152 im
  have ic : In 1074 (-237000) (-237000) 13910755307685937152 := ⟨⟨by decide, by decide⟩, by decide +kernel, by decide +kernel⟩
  have iu : In 1064 (-242688000) 242688000 u := In.mul ic h hu (s := 40) (by decide) (by decide) (by decide) (by decide) (by decide) (by decide) (by decide) (by decide) (by decide) (by decide) (by decide) (by decide) (by decide)
  have hb := iu.abs (c := 237000) (by decide)
  obtain ⟨v, n, e1, e2, e3, e4, e5, e6⟩ := round_ex iu.1 237000 (by decide) hb
  exact ⟨u, v, n, hu.fin iu.1, iu.1, e1, e3, e4, e5⟩
theorem fac_6 {re : Nat} (h : Unit1 re) : ∃ p f, floatBits .mul .f64 13817223800757776548 re = some p ∧ floatBits .add .f64 p 4607182418800017408 = some f ∧ In 1024 (562949953421312) (1688849860263936) f := by
  obtain ⟨p, hp⟩ := fn_ex .mul 13817223800757776548 re
  obtain ⟨f, hf⟩ := fn_ex .add p 4607182418800017408
  have is : In 1024 (-146366987889542) (-146366987889541) 13817223800757776548 := ⟨⟨by decide, by decide⟩, by decide +kernel, by decide +kernel⟩
  have ib : In 1024 (1125899906842624) (1125899906842624) 4607182418800017408 := ⟨⟨by decide, by decide⟩, by decide +kernel, by decide +kernel⟩
  have ip : In 1024 (-146366987889542) (146366987889542) p := In.mul is h hp (s := 50) (by decide) (by decide) (by decide) (by decide) (by decide) (by decide) (by decide) (by decide) (by decide) (by decide) (by decide) (by decide) (by decide)
  have if' : In 1024 (979532918953082) (1272266894732166) f := In.add ip ib hf (by decide) (by decide) (by decide) (by decide) (by decide) (by decide)
  exact ⟨p, f, hp.fin ip.1, hf.fin if'.1, if'.wide (by decide) (by decide)⟩
theorem un_6 {im : Nat} (h : Unit1 im) : ∃ u v n, floatBits .mul .f64 0 im = some u ∧ Fi u ∧ FloatKind.f64.encode ((FloatKind.f64.decode u).integral .even) = v ∧ floatToIntVal .f64 v .i64 = some n ∧ RI u n ∧ n.natAbs ≤ 0 := by
  obtain ⟨u, hu⟩ := fn_ex .mul 0 im
  have ic : In 1074 (0) (0) 0 := ⟨⟨by decide, by decide⟩, by decide +kernel, by decide +kernel⟩
  have iu : In 1064 (-0) 0 u := In.mul ic h hu (s := 40) (by decide) (by decide) (by decide) (by decide) (by decide) (by decide) (by decide) (by decide) (by decide) (by decide) (by decide) (by decide) (by decide)
  have hb := iu.abs (c := 0) (by decide)
  obtain ⟨v, n, e1, e2, e3, e4, e5, e6⟩ := round_ex iu.1 0 (by decide) hb
  exact ⟨u, v, n, hu.fin iu.1, iu.1, e1, e3, e4, e5⟩
theorem nd_seven {k : Nat} (h : k < 7) : k = 0 ∨ k = 1 ∨ k = 2 ∨ k = 3 ∨ k = 4 ∨ k = 5 ∨ k = 6 := by omega
/-- Each row's factor, and the still one's. -/
theorem fac_ex {re : Nat} (h : Unit1 re) {k : Nat} (hk : k < 7) : ∃ p f, floatBits .mul .f64 (ndS k) re = some p ∧ floatBits .add .f64 p (ndB k) = some f ∧ In 1024 (562949953421312) (1688849860263936) f ∧ (k = 1 → In 1024 (1125899906842624) (1125899906842624) f) := by
  rcases nd_seven hk with rfl | rfl | rfl | rfl | rfl | rfl | rfl
  · obtain ⟨p, f, h1, h2, h3⟩ := fac_0 h; exact ⟨p, f, h1, h2, h3, fun e => by cases e⟩
  · obtain ⟨p, f, h1, h2, h3⟩ := fac_1 h; exact ⟨p, f, h1, h2, h3.wide (by decide) (by decide), fun _ => h3⟩
  · obtain ⟨p, f, h1, h2, h3⟩ := fac_2 h; exact ⟨p, f, h1, h2, h3, fun e => by cases e⟩
  · obtain ⟨p, f, h1, h2, h3⟩ := fac_3 h; exact ⟨p, f, h1, h2, h3, fun e => by cases e⟩
  · obtain ⟨p, f, h1, h2, h3⟩ := fac_4 h; exact ⟨p, f, h1, h2, h3, fun e => by cases e⟩
  · obtain ⟨p, f, h1, h2, h3⟩ := fac_5 h; exact ⟨p, f, h1, h2, h3, fun e => by cases e⟩
  · obtain ⟨p, f, h1, h2, h3⟩ := fac_6 h; exact ⟨p, f, h1, h2, h3, fun e => by cases e⟩
/-- Each row's units. -/
theorem un_ex {im : Nat} (h : Unit1 im) {k : Nat} (hk : k < 7) : ∃ u v n, floatBits .mul .f64 (ndC k) im = some u ∧ Fi u ∧ FloatKind.f64.encode ((FloatKind.f64.decode u).integral .even) = v ∧ floatToIntVal .f64 v .i64 = some n ∧ RI u n ∧ n.natAbs ≤ 237000 ∧ (k = 1 ∨ k = 6 → n = 0) := by
  rcases nd_seven hk with rfl | rfl | rfl | rfl | rfl | rfl | rfl
  · obtain ⟨u, v, n, h1, h2, h3, h4, h5, h6⟩ := un_0 h; exact ⟨u, v, n, h1, h2, h3, h4, h5, by omega, fun e => by omega⟩
  · obtain ⟨u, v, n, h1, h2, h3, h4, h5, h6⟩ := un_1 h; exact ⟨u, v, n, h1, h2, h3, h4, h5, by omega, fun e => by omega⟩
  · obtain ⟨u, v, n, h1, h2, h3, h4, h5, h6⟩ := un_2 h; exact ⟨u, v, n, h1, h2, h3, h4, h5, by omega, fun e => by omega⟩
  · obtain ⟨u, v, n, h1, h2, h3, h4, h5, h6⟩ := un_3 h; exact ⟨u, v, n, h1, h2, h3, h4, h5, by omega, fun e => by omega⟩
  · obtain ⟨u, v, n, h1, h2, h3, h4, h5, h6⟩ := un_4 h; exact ⟨u, v, n, h1, h2, h3, h4, h5, by omega, fun e => by omega⟩
  · obtain ⟨u, v, n, h1, h2, h3, h4, h5, h6⟩ := un_5 h; exact ⟨u, v, n, h1, h2, h3, h4, h5, by omega, fun e => by omega⟩
  · obtain ⟨u, v, n, h1, h2, h3, h4, h5, h6⟩ := un_6 h; exact ⟨u, v, n, h1, h2, h3, h4, h5, by omega, fun e => by omega⟩

/-- Factor and Turn of a name of the table, at a tick that there is. -/
theorem ndat_k {s : ByteArray} {k t re im : Nat} (hk : ndK s.toList = some k) (ht : t ≤ 1048576) (h : NodeR t re im) (w : World) :
    Calls Try.prog 16 #[.string s, .int .i64 (t : Int)] w fun e w' => e = .returned (.tuple #[.agg #[.float .f64 (ndB k), .float .f64 (ndS k), .float .f64 (ndC k)], .complex .f64 re im, .int .i64 0]) ∧ Below w.heap.size w w' :=
  ndat_ok s t re im (ndB k) (ndS k) (ndC k) w (hid fun V => ndNode_ok t re im V ht h) (hid fun V => by have := ndfind_any s V; rw [hk] at this; exact this)
theorem ndFactor_k {s : ByteArray} {k t re im p f : Nat} (hk : ndK s.toList = some k) (ht : t ≤ 1048576) (h : NodeR t re im) (h1 : floatBits .mul .f64 (ndS k) re = some p) (h2 : floatBits .add .f64 p (ndB k) = some f) (w : World) :
    Calls Try.prog 9 #[.string s, .int .i64 (t : Int)] w fun e w' => e = .returned (.tuple #[.float .f64 f, .int .i64 0]) ∧ Below w.heap.size w w' :=
  ndFactor_ok s t re im _ _ _ p f w h1 h2 (hid fun V => ndat_k hk ht h V)
theorem ndTurn_k {s : ByteArray} {k t re im u v : Nat} {n : Int} (hk : ndK s.toList = some k) (ht : t ≤ 1048576) (h : NodeR t re im) (h1 : floatBits .mul .f64 (ndC k) im = some u) (hf : Fi u) (h2 : FloatKind.f64.encode ((FloatKind.f64.decode u).integral .even) = v) (h3 : floatToIntVal .f64 v .i64 = some n) (hn : n.natAbs ≤ 237000) (w : World) :
    Calls Try.prog 10 #[.string s, .int .i64 (t : Int)] w fun e w' => e = .returned (tV (ofR n 3600000)) ∧ Below w.heap.size w w' :=
  ndTurn_ok s t re im _ _ _ _ w (hid fun V => ndturn_any _ _ _ re im u v n V h1 hf h2 h3 ⟨by omega, by omega⟩) (hid fun V => ndat_k hk ht h V)
end Go.Proofs.Ytogcjkpmieghhaa

/- The laws' own Pick, parts, sameTurn, awake of layer 12. -/
namespace Go.Proofs.Ytogcjkpmieghhaa
open Go.RowKit
set_option linter.unusedVariables false

set_option maxHeartbeats 800000 in
set_option maxRecDepth 100000 in
theorem ndpick_any (x : Int) (m n : Nat) (w : World) (h : I64 x) (h0 : 0 < m) (hm : m ≤ 1048577) (hx : x % (m : Int) = (n : Int)) : Calls Try.prog 6 #[.int .i64 x, .int .i64 (m : Int)] w fun e w' => e = .returned (.int .i64 (n : Int)) ∧ w' = w := by
  obtain ⟨h0', h1⟩ := h
  have a := Int.emod_nonneg x (show (m : Int) ≠ 0 by omega)
  have b := Int.emod_lt_of_pos x (show (0 : Int) < (m : Int) by omega)
  have b1 : (0 ≤ Int.tmod x m ∧ Int.tmod x m = x % m) ∨ (Int.tmod x m < 0 ∧ Int.tmod x m = x % m - m) := by
    rw [Int.tmod_eq_emod]
    split <;> omega
  rw [hx] at a b b1
  have m0 : (m : Int) ≠ 0 := by omega
  rcases b1 with ⟨hn, b1⟩ | ⟨hn, b1⟩
  · have e1 : IntKind.i64.wrap (n : Int) = (n : Int) := by rw [IntKind.wrap_i64]; omega
    rw [b1] at hn
    clear a b h0' h1 hm h0 hx
    go_enter Try.func6, Try.ntmps6
    go_wp2_with fail
    go_ret
    exact ⟨rfl, rfl⟩
  · obtain ⟨r, hr⟩ : ∃ r, Int.tmod x m = r := ⟨_, rfl⟩
    rw [hr] at b1 hn
    have e1 : IntKind.i64.wrap r = r := by rw [IntKind.wrap_i64]; omega
    have e2 : IntKind.i64.wrap (r + m) = (n : Int) := by rw [IntKind.wrap_i64]; omega
    clear a b b1 h0' h1 hm h0 hx
    go_enter Try.func6, Try.ntmps6
    go_wp2_with fail
    go_ret
    exact ⟨rfl, rfl⟩

/-- A turn of so many 3,600,000ths, taken back. -/
theorem of_parts (n : Int) : ∃ a b g : Nat, ofR n 3600000 = ((a : Int), (b : Int), 0) ∧ b * g = 3600000 ∧ a * g = (n % 3600000).toNat ∧ a < b ∧ Nat.gcd a b = 1 := by
  have h0 := Int.emod_nonneg n (show (3600000 : Int) ≠ 0 by decide)
  have h1 := Int.emod_lt_of_pos n (show (0 : Int) < 3600000 by decide)
  have hu : (n % 3600000).toNat < 3600000 := by omega
  unfold ofR
  rw [if_neg (by decide), if_neg (by decide), show (3600000 : Int).toNat = 3600000 from rfl]
  generalize (n % 3600000).toNat = u at *
  have hg : 0 < Nat.gcd u 3600000 := Nat.gcd_pos_of_pos_right _ (by decide)
  have hd := Nat.gcd_dvd_right u 3600000
  have hdl := Nat.gcd_dvd_left u 3600000
  refine ⟨u / Nat.gcd u 3600000, 3600000 / Nat.gcd u 3600000, Nat.gcd u 3600000, ?_, Nat.div_mul_cancel hd, Nat.div_mul_cancel hdl, ?_, ?_⟩
  · unfold lowR
    have hle : 3600000 / Nat.gcd u 3600000 ≤ 3600000 := Nat.div_le_self _ _
    rw [if_pos (by omega)]
  · have e1 := Nat.div_mul_cancel hd
    have e2 := Nat.div_mul_cancel hdl
    generalize Nat.gcd u 3600000 = g at *
    refine Nat.lt_of_mul_lt_mul_right (a := g) ?_
    omega
  · rw [Nat.gcd_div hdl hd, Nat.div_self hg]

set_option maxHeartbeats 1600000 in
set_option maxRecDepth 100000 in
theorem ndparts_any (a b g : Nat) (w : World) (hb : b * g = 3600000) (hab : a < b) :
    Calls Try.prog 11 #[.agg #[.int .i64 (a : Int), .int .i64 (b : Int)]] w fun e w' => e = .returned (.tuple #[.int .i64 ((a * g : Nat) : Int), .bool true]) ∧ Below w.heap.size w w' := by
  have HX := hid (boxes1 w 31 #[.int .i64 (a : Int), .int .i64 (b : Int)])
  obtain ⟨c0, c1, f0, f1⟩ := fbox_facts HX.out.1 (Below.refl _ _)
  have g0 : 0 < g := by
    by_cases hz : g = 0
    · subst hz; omega
    · omega
  have b1 : b ≤ 3600000 := by rw [← hb]; exact Nat.le_mul_of_pos_right _ g0
  have ag : a * g < 3600000 := by rw [← hb]; exact Nat.mul_lt_mul_of_pos_right hab g0
  have q0 : (b : Int) ≠ 0 := by omega
  have e1 : Int.tmod 3600000 (b : Int) = 0 := by
    rw [Int.tmod_eq_emod_of_nonneg (by decide)]
    have : (3600000 : Int) = ((b * g : Nat) : Int) := by rw [hb]; rfl
    rw [this, Int.natCast_mul, Int.mul_emod_right]
  have e2 : Int.tdiv 3600000 (b : Int) = (g : Int) := by
    rw [Int.tdiv_eq_ediv_of_nonneg (by decide)]
    have : (3600000 : Int) = ((b * g : Nat) : Int) := by rw [hb]; rfl
    rw [this, Int.natCast_mul, Int.mul_ediv_cancel_left _ q0]
  have e4 : (a : Int) * (g : Int) = ((a * g : Nat) : Int) := (Int.natCast_mul ..).symm
  have gle : g ≤ 3600000 := by rw [← hb]; exact Nat.le_mul_of_pos_left _ (by omega)
  have e3 : IntKind.i64.wrap (g : Int) = (g : Int) := by rw [IntKind.wrap_i64]; omega
  generalize a * g = M at *
  have e5 : IntKind.i64.wrap (M : Int) = (M : Int) := by rw [IntKind.wrap_i64]; omega
  clear hb g0 gle
  go_enter Try.func11, Try.ntmps11
  go_wp2_with fail
  go_quiet (fail)
  go_wp2_with fail
  go_returns
  exact ⟨rfl, bdrewN HX.out.2 _⟩

set_option maxHeartbeats 800000 in
set_option maxRecDepth 100000 in
theorem ndsame_eq (a b : Int) (w : World) : Calls Try.prog 12 #[.agg #[.int .i64 a, .int .i64 b], .agg #[.int .i64 a, .int .i64 b]] w fun e w' => e = .returned (.bool true) ∧ Below w.heap.size w w' := by
  have HX := hid (boxes2 w 31 #[.int .i64 a, .int .i64 b] #[.int .i64 a, .int .i64 b])
  obtain ⟨c0, c1, f0, f1⟩ := fbox_facts HX.out.1 (Below.refl _ _)
  obtain ⟨d0, d1, g0, g1⟩ := fbox_facts HX.out.2.1 (Below.refl _ _)
  go_enter Try.func12, Try.ntmps12
  go_wp2_with fail
  go_returns
  exact ⟨rfl, HX.out.2.2⟩

/-- Comparisons of a factor with 0.5, 1.5 and 1. -/
theorem half_in : In 1024 562949953421312 562949953421312 4602678819172646912 := ⟨⟨by decide, by decide⟩, by decide +kernel, by decide +kernel⟩
theorem half3_in : In 1024 1688849860263936 1688849860263936 4609434218613702656 := ⟨⟨by decide, by decide⟩, by decide +kernel, by decide +kernel⟩
theorem in_geq {k x y : Nat} {a b c d : Int} (hx : In k a b x) (hy : In k c d y) (h : d ≤ a) : (FloatKind.f64.format.order x y == some .gt || FloatKind.f64.format.order x y == some .eq) = true := by
  have hp : (0 : Int) ≤ ((2 ^ k : Nat) : Int) := Int.natCast_nonneg _
  have h1 : sv y ≤ sv x := Int.le_trans hy.2.2 (Int.le_trans (Int.mul_le_mul_of_nonneg_right h hp) hx.2.1)
  rw [order_sv hx.1 hy.1]
  rcases Int.lt_or_eq_of_le h1 with h2 | h2
  · rw [Int.compare_eq_gt.2 h2]; rfl
  · rw [h2]; simp
theorem in_leq {k x y : Nat} {a b c d : Int} (hx : In k a b x) (hy : In k c d y) (h : b ≤ c) : (FloatKind.f64.format.order x y == some .lt || FloatKind.f64.format.order x y == some .eq) = true := by
  have hp : (0 : Int) ≤ ((2 ^ k : Nat) : Int) := Int.natCast_nonneg _
  have h1 : sv x ≤ sv y := Int.le_trans hx.2.2 (Int.le_trans (Int.mul_le_mul_of_nonneg_right h hp) hy.2.1)
  rw [order_sv hx.1 hy.1]
  rcases Int.lt_or_eq_of_le h1 with h2 | h2
  · rw [Int.compare_eq_lt.2 h2]; rfl
  · rw [h2]; simp
theorem in_eq {k x y : Nat} {a : Int} (hx : In k a a x) (hy : In k a a y) : FloatKind.f64.format.order x y = some .eq := by
  rw [order_sv hx.1 hy.1, hx.of_eq, hy.of_eq]; simp

theorem ndK_S2 : ndK (ByteArray.mk #[83, 50]).toList = some 1 := by decide +kernel
theorem ndK_P1 : ndK (ByteArray.mk #[80, 49]).toList = some 1 := by decide +kernel
theorem ndK_M4 : ndK (ByteArray.mk #[77, 52]).toList = none := by decide +kernel
theorem of_zero : ofR 0 3600000 = (0, 1, 0) := by decide +kernel

set_option maxHeartbeats 1600000 in
set_option maxRecDepth 100000 in
theorem ndawake_any (w : World) : Calls Try.prog 8 #[] w fun e w' => e = .returned (.bool true) ∧ Below w.heap.size w w' := by
  obtain ⟨re, im, hN⟩ := node_ex 5
  obtain ⟨uR, uI⟩ := hN.unit
  obtain ⟨p, f, f1, f2, f3, f4⟩ := fac_ex uR (k := 1) (by decide)
  obtain ⟨u, v, n, u1, u2, u3, u4, u5, u6, u7⟩ := un_ex uI (k := 1) (by decide)
  have hn := u7 (.inl rfl)
  subst hn
  have H1 := hid (fun V => ndFactor_k ndK_S2 (t := 5) (by decide) hN f1 f2 V)
  have H2 := hid (fun V => ndTurn_k ndK_P1 (t := 5) (by decide) hN u1 u2 u3 u4 (by decide) V)
  rw [of_zero, show tV (0, 1, 0) = Value.tuple #[.agg #[.int .i64 0, .int .i64 1], .int .i64 0] from rfl] at H2
  have H3 := hid (fun V => ndFactor_err { data := #[77, 52] } 5 6 V rfl (hid fun V => ndat_none { data := #[77, 52] } 5 re im V (hid fun V => ndNode_ok 5 re im V (by decide) hN) (hid fun V => by have := ndfind_any { data := #[77, 52] } V; rw [ndK_M4] at this; exact this)))
  have HS := hid (fun V => ndsame_eq 0 1 V)
  have hq : (FloatKind.f64.format.order f 4607182418800017408 == some .eq) = true := by rw [in_eq (f4 rfl) one_in]; rfl
  clear f1 f2 f3 f4 u1 u2 u3 u4 u5 u6 u7 hN uR uI
  go_enter Try.func8, Try.ntmps8
  go_wp2_with fail
  refine Calls.mono (H1.out _) ?_
  rintro e w1 ⟨rfl, hb1⟩
  go_wp2_with fail
  refine Calls.mono (H2.out _) ?_
  rintro e w2 ⟨rfl, hb2⟩
  have hx := boxes1 w2 31 #[.int .i64 0, .int .i64 1]
  go_wp2_with fail
  generalize w2.alloc (.cells #[.int .i64 0, .int .i64 1] 31) = X at *
  refine Calls.mono (H3.out _) ?_
  rintro e w3 ⟨rfl, hb3⟩
  obtain ⟨c0, c1, g0, g1⟩ := fbox_facts hx.1 hb3
  have HB := hid (b2 (b2 hb1 hb2) (b2 hx.2 hb3))
  clear hb1 hb2 hb3 hx
  go_wp2_with fail
  refine Calls.mono (HS.out _) ?_
  rintro e w4 ⟨rfl, hb4⟩
  go_wp2_with fail
  go_returns
  exact ⟨rfl, b2 HB.out hb4⟩
end Go.Proofs.Ytogcjkpmieghhaa

/- The law NodalBounds. -/
namespace Go.Proofs.Ytogcjkpmieghhaa
open Go.RowKit
set_option linter.unusedVariables false

set_option maxHeartbeats 6400000 in
set_option maxRecDepth 100000 in
theorem nodalBounds_any (x : Int) (w : World) (hx : I64 x) : Calls Try.prog 3 #[.int .i64 x] w fun e w' => e = .returned (.bool true) ∧ Below w.heap.size w w' := by
  obtain ⟨t, ht⟩ : ∃ t : Nat, x % ((1048577 : Nat) : Int) = (t : Int) := ⟨(x % 1048577).toNat, by have := Int.emod_nonneg x (show (1048577 : Int) ≠ 0 by decide); omega⟩
  have hle : t ≤ 1048576 := by have := Int.emod_lt_of_pos x (show (0 : Int) < 1048577 by decide); omega
  have HP := hid (fun V => ndpick_any x 1048577 t V hx (by decide) (by decide) ht)
  obtain ⟨re, im, hN⟩ := node_ex t
  obtain ⟨uR, uI⟩ := hN.unit
  have HK : Hid (∀ i, i < 10 → ∃ f a b g, (∀ V, Calls Try.prog 9 #[.string (ndN i), .int .i64 (t : Int)] V fun e w' => e = .returned (.tuple #[.float .f64 f, .int .i64 0]) ∧ Below V.heap.size V w') ∧
      (∀ V, Calls Try.prog 10 #[.string (ndN i), .int .i64 (t : Int)] V fun e w' => e = .returned (.tuple #[.agg #[.int .i64 ((a : Nat) : Int), .int .i64 ((b : Nat) : Int)], .int .i64 0]) ∧ Below V.heap.size V w') ∧
      b * g = 3600000 ∧ a < b ∧ ((a * g : Nat) ≤ 237000 ∨ 3363000 ≤ a * g) ∧ (ndI i = 1 ∨ ndI i = 6 → a * g = 0) ∧ In 1024 562949953421312 1688849860263936 f ∧ (ndI i = 1 → In 1024 1125899906842624 1125899906842624 f)) := by
    intro i hi
    obtain ⟨p, f, f1, f2, f3, f4⟩ := fac_ex uR (ndI_lt hi)
    obtain ⟨u, v, n, u1, u2, u3, u4, u5, u6, u7⟩ := un_ex uI (ndI_lt hi)
    obtain ⟨a, b, g, o1, o2, o3, o4, o5⟩ := of_parts n
    refine ⟨f, a, b, g, fun V => ndFactor_k (ndN_row hi) hle hN f1 f2 V, fun V => ?_, o2, o4, ?_, ?_, f3, f4⟩
    · have := ndTurn_k (ndN_row hi) hle hN u1 u2 u3 u4 u6 V
      rw [o1] at this; exact this
    · omega
    · intro h
      have := u7 h
      subst this
      rw [o3]; rfl
  have HPair : Hid (∀ k s1 s2, k < 7 → ndK (ByteArray.toList s1) = some k → ndK (ByteArray.toList s2) = some k → ∃ f a b, FloatKind.f64.format.order f f = some .eq ∧ (∀ s, s = s1 ∨ s = s2 → (∀ V, Calls Try.prog 9 #[.string s, .int .i64 (t : Int)] V fun e w' => e = .returned (.tuple #[.float .f64 f, .int .i64 0]) ∧ Below V.heap.size V w') ∧
      (∀ V, Calls Try.prog 10 #[.string s, .int .i64 (t : Int)] V fun e w' => e = .returned (.tuple #[.agg #[.int .i64 a, .int .i64 b], .int .i64 0]) ∧ Below V.heap.size V w'))) := by
    intro k s1 s2 hk h1 h2
    obtain ⟨p, f, f1, f2, f3, f4⟩ := fac_ex uR hk
    obtain ⟨u, v, n, u1, u2, u3, u4, u5, u6, u7⟩ := un_ex uI hk
    obtain ⟨a, b, g, o1, -⟩ := of_parts n
    refine ⟨f, a, b, order_refl f3.1.notnan, fun s hs => ?_⟩
    have hr : ndK s.toList = some k := by rcases hs with rfl | rfl <;> assumption
    refine ⟨fun V => ndFactor_k hr hle hN f1 f2 V, fun V => ?_⟩
    have := ndTurn_k hr hle hN u1 u2 u3 u4 u6 V
    rw [o1] at this; exact this
  obtain ⟨f0, a0, b0, q0, cM⟩ := HPair.out 0 { data := #[77, 50] } { data := #[78, 50] } (by decide) (by decide +kernel) (by decide +kernel)
  obtain ⟨f4, a4, b4, q4, cO⟩ := HPair.out 4 { data := #[79, 49] } { data := #[81, 49] } (by decide) (by decide +kernel) (by decide +kernel)
  have F1 := hid (cM _ (.inl rfl)).1
  have F2 := hid (cM _ (.inr rfl)).1
  have F3 := hid (cO _ (.inl rfl)).1
  have F4 := hid (cO _ (.inr rfl)).1
  have T1 := hid (cM _ (.inl rfl)).2
  have T2 := hid (cM _ (.inr rfl)).2
  have T3 := hid (cO _ (.inl rfl)).2
  have T4 := hid (cO _ (.inr rfl)).2
  have SM := hid (fun V => ndsame_eq a0 b0 V)
  have SO := hid (fun V => ndsame_eq a4 b4 V)
  have HQ : Hid (FloatKind.f64.format.order f0 f0 = some .eq ∧ FloatKind.f64.format.order f4 f4 = some .eq) := ⟨q0, q4⟩
  clear HPair cM cO q0 q4
  have HA := hid ndawake_any
  have HNm := hid ndNames_any
  clear hx ht hN uR uI
  go_enter Try.func3, Try.ntmps3
  go_wp2_with fail
  refine Calls.mono (HP.out _) ?_
  rintro e w1 ⟨rfl, rfl⟩
  go_wp2_with fail
  refine Calls.mono (HNm.out _) ?_
  rintro e w2 ⟨rfl, hb2, hl2, hs2⟩
  go_wp2_with fail
  refine Calls.mono (HA.out _) ?_
  rintro e w3 ⟨rfl, hb3⟩
  have HI : Hid (Below w1.heap.size w1 w3 ∧ FBox w3 w1.heap.size 9 ndA) := ⟨b2 hl2 hb3, hb2.later hb3 hb2.lt⟩
  clear hb2 hl2 hs2 hb3 HA HNm HP
  go_wp2_with fail
  go_loopw [4] (fun i wr => ∃ k : Nat, k ≤ 10 ∧ i = .int .i64 (k : Int) ∧ Hid (Below w1.heap.size w1 wr ∧ FBox wr w1.heap.size 9 ndA)) (fun i _ => 10 - (intOf i).toNat)
  case atStart => exact ⟨0, by decide, rfl, HI⟩
  case round =>
    obtain ⟨k, hk, rfl, HW⟩ := hrel
    by_cases hlt : k < 10
    · obtain ⟨f, a, b, g, c1, c2, hbg, hab, hfar, hz, hf, hf1⟩ := HK.out k hlt
      have H1 := hid c1
      have H2 := hid c2
      have H3 := hid (fun V => ndparts_any a b g V hbg hab)
      have o1 := in_geq hf half_in (by decide)
      have o2 := in_leq hf half3_in (by decide)
      obtain ⟨s1, s2, s3⟩ := ndN_still hlt
      have cc : wr.cell? ⟨w1.heap.size, k, none⟩ = some (.string (ndN k)) := (HW.out.2.cell k).trans (ndA_at hlt)
      have HS : Hid (((ndN k).toList == [83, 50]) = true ∨ ((ndN k).toList == [80, 49]) = true → FloatKind.f64.format.order f 4607182418800017408 = some .eq ∧ a * g = 0) := fun h => by
        have e : ndI k = 1 := by rcases h with h | h; exact s1 h; exact s2 h
        exact ⟨in_eq (hf1 e) one_in, hz (.inl e)⟩
      have HM : Hid (((ndN k).toList == [77, 109]) = true → a * g = 0) := fun h => hz (.inr (s3 h))
      generalize a * g = M at *
      generalize ndN k = nm at *
      have hlt' : (k : Int) < 10 := by omega
      have HFar := hid hfar
      clear c1 c2 hbg hab hz hf hf1 s1 s2 s3 HK hfar
      go_wp2_with fail
      refine Calls.mono (H1.out _) ?_
      rintro e w4 ⟨rfl, hb4⟩
      have cc4 : w4.cell? ⟨w1.heap.size, k, none⟩ = some (.string nm) := (hb4.cell (p := ⟨w1.heap.size, k, none⟩) HW.out.2.lt).trans cc
      go_wp2_with fail
      refine Calls.mono (H2.out _) ?_
      rintro e w5 ⟨rfl, hb5⟩
      have hx := boxes1 w5 31 #[.int .i64 (a : Int), .int .i64 (b : Int)]
      obtain ⟨d0, d1, g0, g1⟩ := fbox_facts hx.1 (Below.refl _ _)
      have HB5 := hid (b2 (b2 hb4 hb5) hx.2)
      clear hb4 hb5 H1 H2
      go_wp2_with fail
      generalize w5.alloc (.cells #[.int .i64 (a : Int), .int .i64 (b : Int)] 31) = X at *
      refine Calls.mono (H3.out _) ?_
      rintro e w6 ⟨rfl, hb6⟩
      have hB6 := b2 HB5.out hb6
      have HE : Hid (Below w1.heap.size w1 w6 ∧ FBox w6 w1.heap.size 9 ndA) := ⟨b2 HW.out.1 hB6, HW.out.2.later hB6 HW.out.2.lt⟩
      have cc6 : w6.cell? ⟨w1.heap.size, k, none⟩ = some (.string nm) := (hB6.cell (p := ⟨w1.heap.size, k, none⟩) HW.out.2.lt).trans cc
      clear hb6 hB6 HB5 hx d0 d1 g0 g1 cc cc4 HW H3
      cases h1 : (nm.toList == [83, 50]) with
      | true =>
        obtain ⟨q1, rfl⟩ := HS.out (.inl h1)
        clear HS HM HFar
        have q2 : (FloatKind.f64.format.order f 4607182418800017408 != some .eq) = false := by rw [q1]; rfl
        have h3 : (nm.toList == [77, 109]) = false := by rw [beq_iff_eq.1 h1]; rfl
        go_wp2_with fail
        refine ⟨⟨k + 1, by omega, by go_num, HE⟩, by simp [intOf]; omega⟩
      | false =>
        cases h2 : (nm.toList == [80, 49]) with
        | true =>
          obtain ⟨q1, rfl⟩ := HS.out (.inr h2)
          clear HS HM HFar
          have q2 : (FloatKind.f64.format.order f 4607182418800017408 != some .eq) = false := by rw [q1]; rfl
          have h3 : (nm.toList == [77, 109]) = false := by rw [beq_iff_eq.1 h2]; rfl
          go_wp2_with fail
          refine ⟨⟨k + 1, by omega, by go_num, HE⟩, by simp [intOf]; omega⟩
        | false =>
          cases h3 : (nm.toList == [77, 109]) with
          | true =>
            obtain rfl := HM.out h3
            clear HS HM HFar
            go_wp2_with fail
            refine ⟨⟨k + 1, by omega, by go_num, HE⟩, by simp [intOf]; omega⟩
          | false =>
            clear HS HM
            rcases HFar.out with hfar | hfar
            · have k1 : ¬ (237000 : Int) < (M : Int) := by omega
              clear HFar hfar
              generalize (M : Int) = J at *
              go_wp2_with fail
              refine ⟨⟨k + 1, by omega, by go_num, HE⟩, by simp [intOf]; omega⟩
            · have k1 : (237000 : Int) < (M : Int) := by omega
              have k2 : ¬ (M : Int) < 3363000 := by omega
              clear HFar hfar
              generalize (M : Int) = J at *
              go_wp2_with fail
              refine ⟨⟨k + 1, by omega, by go_num, HE⟩, by simp [intOf]; omega⟩
    · obtain rfl : k = 10 := by omega
      have HB0 := hid HW.out.1
      clear HK HW HI
      go_wp2_with fail
      refine Calls.mono (F1.out _) ?_
      rintro e v1 ⟨rfl, hc1⟩
      have HB1 := hid (b2 HB0.out hc1)
      clear hc1 HB0
      go_wp2_with fail
      refine Calls.mono (F2.out _) ?_
      rintro e v2 ⟨rfl, hc2⟩
      have HB2 := hid (b2 HB1.out hc2)
      clear hc2 HB1
      go_wp2_with fail
      refine Calls.mono (F3.out _) ?_
      rintro e v3 ⟨rfl, hc3⟩
      have HB3 := hid (b2 HB2.out hc3)
      clear hc3 HB2
      go_wp2_with fail
      refine Calls.mono (F4.out _) ?_
      rintro e v4 ⟨rfl, hc4⟩
      have HB4 := hid (b2 HB3.out hc4)
      clear hc4 HB3
      go_wp2_with fail
      refine Calls.mono (T1.out _) ?_
      rintro e v5 ⟨rfl, hc5⟩
      have hx5 := boxes1 v5 31 #[.int .i64 a0, .int .i64 b0]
      have HB5 := hid (b2 (b2 HB4.out hc5) hx5.2)
      clear hc5 HB4
      go_wp2_with fail
      generalize v5.alloc (.cells #[.int .i64 a0, .int .i64 b0] 31) = X5 at *
      refine Calls.mono (T2.out _) ?_
      rintro e v6 ⟨rfl, hc6⟩
      have hx6 := boxes1 v6 31 #[.int .i64 a0, .int .i64 b0]
      have hd6 := b2 hc6 hx6.2
      have HB6 := hid (b2 HB5.out hd6)
      have hy5 := hx5.1.later hd6 hx5.1.lt
      clear hc6 HB5 hx5 hd6
      go_wp2_with fail
      generalize v6.alloc (.cells #[.int .i64 a0, .int .i64 b0] 31) = X6 at *
      refine Calls.mono (T3.out _) ?_
      rintro e v7 ⟨rfl, hc7⟩
      have hx7 := boxes1 v7 31 #[.int .i64 a4, .int .i64 b4]
      have hd7 := b2 hc7 hx7.2
      have HB7 := hid (b2 HB6.out hd7)
      have hz5 := hy5.later hd7 hy5.lt
      have hz6 := hx6.1.later hd7 hx6.1.lt
      clear hc7 HB6 hy5 hx6 hd7
      go_wp2_with fail
      generalize v7.alloc (.cells #[.int .i64 a4, .int .i64 b4] 31) = X7 at *
      refine Calls.mono (T4.out _) ?_
      rintro e v8 ⟨rfl, hc8⟩
      have hx8 := boxes1 v8 31 #[.int .i64 a4, .int .i64 b4]
      have hd8 := b2 hc8 hx8.2
      have HB8 := hid (b2 HB7.out hd8)
      have hw5 := hz5.later hd8 hz5.lt
      have hw6 := hz6.later hd8 hz6.lt
      have hw7 := hx7.1.later hd8 hx7.1.lt
      obtain ⟨c50, c51, g50, g51⟩ := fbox_facts hw5 (Below.refl _ _)
      obtain ⟨c60, c61, g60, g61⟩ := fbox_facts hw6 (Below.refl _ _)
      have HR7 := hid hw7
      have HR8 := hid hx8.1
      obtain ⟨q0, q4⟩ := HQ.out
      have q0' : (FloatKind.f64.format.order f0 f0 == some .eq) = true := by rw [q0]; rfl
      have q4' : (FloatKind.f64.format.order f4 f4 == some .eq) = true := by rw [q4]; rfl
      clear hc8 HB7 hz5 hz6 hx7 hd8 hw5 hw6 hw7 hx8 q0 q4 HQ
      go_wp2_with fail
      generalize v8.alloc (.cells #[.int .i64 a4, .int .i64 b4] 31) = X8 at *
      refine Calls.mono (SM.out _) ?_
      rintro e v9 ⟨rfl, hc9⟩
      obtain ⟨c70, c71, g70, g71⟩ := fbox_facts HR7.out hc9
      obtain ⟨c80, c81, g80, g81⟩ := fbox_facts HR8.out hc9
      have HB9 := hid (b2 HB8.out hc9)
      clear hc9 HB8 HR7 HR8 c50 c51 g50 g51 c60 c61 g60 g61
      go_wp2_with fail
      refine Calls.mono (SO.out _) ?_
      rintro e v10 ⟨rfl, hc10⟩
      have HB10 := hid (b2 HB9.out hc10)
      clear hc10 HB9
      go_wp2_with fail
      go_returns
      exact ⟨rfl, HB10.out⟩
end Go.Proofs.Ytogcjkpmieghhaa

