/-
  The law MinkMirrors, under what packages hull and mink owe.
-/
import Derived.Test.YteglefjnbkocgaaMinkUse
namespace Go.Proofs.Yteglefjnbkocgaa
open Go.RowKit Hl
namespace Mk
set_option maxRecDepth 100000 in
set_option maxHeartbeats 4000000 in
theorem mirrors_1 (_K : Hl.Code) (F : Code) (p : List Pt) (x : Pt) (v : Value) (w : World) (P : Hid (Sl w v p)) (LP : Hid (p.length ≤ 9223372036854775807)) (VN : Hid (¬ Vl p)) : Calls Try.prog 8 #[v, .agg #[.int .i64 x.1, .int .i64 x.2]] w fun e w' => e = .returned (.bool true) ∧ Grew w w' := by
  have G0 : Grew (w.alloc (.cells #[.int .i64 x.1, .int .i64 x.2] 24)) (w.alloc (.cells #[.int .i64 x.1, .int .i64 x.2] 24)) := Grew.refl _
  have P0 := Lib.hid (P.out.grown (w' := (w.alloc (.cells #[.int .i64 x.1, .int .i64 x.2] 24))) (by (repeat' (first | (with_reducible exact Grew.refl _) | (with_reducible assumption) | (with_reducible refine Grew.alloc ?_ _ _) | (with_reducible refine Grew.drew ?_) | (with_reducible refine Grew.drewN ?_ _) | (with_reducible refine Grew.setCell ?_ ?_ _) | go_size))))
  go_enter Try.func8, Try.ntmps8
  go_wp2_with fail
  refine (head_true F _).mono ?_
  rintro e w1 ⟨rfl, g1⟩
  have D1 : Grew (w.alloc (.cells #[.int .i64 x.1, .int .i64 x.2] 24)) w1 := Grew.trans (by (repeat' (first | (with_reducible exact Grew.refl _) | (with_reducible assumption) | (with_reducible refine Grew.alloc ?_ _ _) | (with_reducible refine Grew.drew ?_) | (with_reducible refine Grew.drewN ?_ _) | (with_reducible refine Grew.setCell ?_ ?_ _) | go_size))) g1
  have G1 : Grew (w.alloc (.cells #[.int .i64 x.1, .int .i64 x.2] 24)) w1 := D1
  have P1 := Lib.hid (P0.out.grown D1)
  clear P0
  clear g1 D1 G0
  have x00 : w1.cell? ⟨w.heap.size, 0, none⟩ = some (.int .i64 x.1) := by rw [G1.cell (by simp only [World.size_alloc]; omega)]; simp [go_sem, *]
  have x01 : w1.cell? ⟨w.heap.size, 1, none⟩ = some (.int .i64 x.2) := by rw [G1.cell (by simp only [World.size_alloc]; omega)]; simp [go_sem, *]
  go_wp2_with fail
  refine ((rvalid_any p v _ P1.out LP.out).mono fun _ _ t => t.un VN.out).mono ?_
  rintro e w2 ⟨rfl, g2⟩
  have D2 : Grew w1 w2 := Grew.trans (by (repeat' (first | (with_reducible exact Grew.refl _) | (with_reducible assumption) | (with_reducible refine Grew.alloc ?_ _ _) | (with_reducible refine Grew.drew ?_) | (with_reducible refine Grew.drewN ?_ _) | (with_reducible refine Grew.setCell ?_ ?_ _) | go_size))) g2
  have G2 : Grew (w.alloc (.cells #[.int .i64 x.1, .int .i64 x.2] 24)) w2 := Grew.trans G1 D2
  have P2 := Lib.hid (P1.out.grown D2)
  clear P1
  clear g2 D2 G1
  clear x00 x01
  have x00 : w2.cell? ⟨w.heap.size, 0, none⟩ = some (.int .i64 x.1) := by rw [G2.cell (by simp only [World.size_alloc]; omega)]; simp [go_sem, *]
  have x01 : w2.cell? ⟨w.heap.size, 1, none⟩ = some (.int .i64 x.2) := by rw [G2.cell (by simp only [World.size_alloc]; omega)]; simp [go_sem, *]
  go_wp2_with fail
  go_ret
  exact ⟨rfl, Grew.trans (by (repeat' (first | (with_reducible exact Grew.refl _) | (with_reducible assumption) | (with_reducible refine Grew.alloc ?_ _ _) | (with_reducible refine Grew.drew ?_) | (with_reducible refine Grew.drewN ?_ _) | (with_reducible refine Grew.setCell ?_ ?_ _) | go_size))) G2⟩
set_option maxRecDepth 100000 in
set_option maxHeartbeats 4000000 in
theorem mirrors_2 (K : Hl.Code) (F : Code) (p : List Pt) (x : Pt) (v : Value) (w : World) (P : Hid (Sl w v p)) (LP : Hid (p.length ≤ 9223372036854775807)) (VP : Hid (Vl p)) (X : Hid (Plc x)) : Calls Try.prog 8 #[v, .agg #[.int .i64 x.1, .int .i64 x.2]] w fun e w' => e = .returned (.bool true) ∧ Grew w w' := by
  have G0 : Grew (w.alloc (.cells #[.int .i64 x.1, .int .i64 x.2] 24)) (w.alloc (.cells #[.int .i64 x.1, .int .i64 x.2] 24)) := Grew.refl _
  have P0 := Lib.hid (P.out.grown (w' := (w.alloc (.cells #[.int .i64 x.1, .int .i64 x.2] 24))) (by (repeat' (first | (with_reducible exact Grew.refl _) | (with_reducible assumption) | (with_reducible refine Grew.alloc ?_ _ _) | (with_reducible refine Grew.drew ?_) | (with_reducible refine Grew.drewN ?_ _) | (with_reducible refine Grew.setCell ?_ ?_ _) | go_size))))
  go_enter Try.func8, Try.ntmps8
  go_wp2_with fail
  refine (head_true F _).mono ?_
  rintro e w1 ⟨rfl, g1⟩
  have D1 : Grew (w.alloc (.cells #[.int .i64 x.1, .int .i64 x.2] 24)) w1 := Grew.trans (by (repeat' (first | (with_reducible exact Grew.refl _) | (with_reducible assumption) | (with_reducible refine Grew.alloc ?_ _ _) | (with_reducible refine Grew.drew ?_) | (with_reducible refine Grew.drewN ?_ _) | (with_reducible refine Grew.setCell ?_ ?_ _) | go_size))) g1
  have G1 : Grew (w.alloc (.cells #[.int .i64 x.1, .int .i64 x.2] 24)) w1 := D1
  have P1 := Lib.hid (P0.out.grown D1)
  clear P0
  clear g1 D1 G0
  have x00 : w1.cell? ⟨w.heap.size, 0, none⟩ = some (.int .i64 x.1) := by rw [G1.cell (by simp only [World.size_alloc]; omega)]; simp [go_sem, *]
  have x01 : w1.cell? ⟨w.heap.size, 1, none⟩ = some (.int .i64 x.2) := by rw [G1.cell (by simp only [World.size_alloc]; omega)]; simp [go_sem, *]
  go_wp2_with fail
  refine ((rvalid_any p v _ P1.out LP.out).mono fun _ _ t => t.to VP.out).mono ?_
  rintro e w2 ⟨rfl, g2⟩
  have D2 : Grew w1 w2 := Grew.trans (by (repeat' (first | (with_reducible exact Grew.refl _) | (with_reducible assumption) | (with_reducible refine Grew.alloc ?_ _ _) | (with_reducible refine Grew.drew ?_) | (with_reducible refine Grew.drewN ?_ _) | (with_reducible refine Grew.setCell ?_ ?_ _) | go_size))) g2
  have G2 : Grew (w.alloc (.cells #[.int .i64 x.1, .int .i64 x.2] 24)) w2 := Grew.trans G1 D2
  have P2 := Lib.hid (P1.out.grown D2)
  clear P1
  clear g2 D2 G1
  clear x00 x01
  have x00 : w2.cell? ⟨w.heap.size, 0, none⟩ = some (.int .i64 x.1) := by rw [G2.cell (by simp only [World.size_alloc]; omega)]; simp [go_sem, *]
  have x01 : w2.cell? ⟨w.heap.size, 1, none⟩ = some (.int .i64 x.2) := by rw [G2.cell (by simp only [World.size_alloc]; omega)]; simp [go_sem, *]
  go_wp2_with fail
  refine (F.mir p _ _ P2.out LP.out).mono ?_
  rintro e w3 ⟨v1, k1, r1, i1, rfl, s1, g3⟩
  have D3 : Grew w2 w3 := Grew.trans (by (repeat' (first | (with_reducible exact Grew.refl _) | (with_reducible assumption) | (with_reducible refine Grew.alloc ?_ _ _) | (with_reducible refine Grew.drew ?_) | (with_reducible refine Grew.drewN ?_ _) | (with_reducible refine Grew.setCell ?_ ?_ _) | go_size))) g3
  have G3 : Grew (w.alloc (.cells #[.int .i64 x.1, .int .i64 x.2] 24)) w3 := Grew.trans G2 D3
  have P3 := Lib.hid (P2.out.grown D3)
  clear P2
  clear g3 D3 G2
  clear x00 x01
  have x00 : w3.cell? ⟨w.heap.size, 0, none⟩ = some (.int .i64 x.1) := by rw [G3.cell (by simp only [World.size_alloc]; omega)]; simp [go_sem, *]
  have x01 : w3.cell? ⟨w.heap.size, 1, none⟩ = some (.int .i64 x.2) := by rw [G3.cell (by simp only [World.size_alloc]; omega)]; simp [go_sem, *]
  have A3 := Lib.hid s1
  clear s1
  obtain ⟨rfl, hm, vm⟩ := mir_good VP.out i1
  have HM := Lib.hid hm
  have VM := Lib.hid vm
  clear hm vm i1
  go_wp2_with fail
  refine (F.mir r1 _ _ A3.out (by have := VM.out.1.2; omega)).mono ?_
  rintro e w4 ⟨v2, k2, r2, i2, rfl, s2, g4⟩
  have D4 : Grew w3 w4 := Grew.trans (by (repeat' (first | (with_reducible exact Grew.refl _) | (with_reducible assumption) | (with_reducible refine Grew.alloc ?_ _ _) | (with_reducible refine Grew.drew ?_) | (with_reducible refine Grew.drewN ?_ _) | (with_reducible refine Grew.setCell ?_ ?_ _) | go_size))) g4
  have G4 : Grew (w.alloc (.cells #[.int .i64 x.1, .int .i64 x.2] 24)) w4 := Grew.trans G3 D4
  have P4 := Lib.hid (P3.out.grown D4)
  have A4 := Lib.hid (A3.out.grown D4)
  clear P3 A3
  clear g4 D4 G3
  clear x00 x01
  have x00 : w4.cell? ⟨w.heap.size, 0, none⟩ = some (.int .i64 x.1) := by rw [G4.cell (by simp only [World.size_alloc]; omega)]; simp [go_sem, *]
  have x01 : w4.cell? ⟨w.heap.size, 1, none⟩ = some (.int .i64 x.2) := by rw [G4.cell (by simp only [World.size_alloc]; omega)]; simp [go_sem, *]
  have B4 := Lib.hid s2
  clear s2
  obtain ⟨rfl, rfl⟩ := mir_twice VP.out HM.out VM.out i2
  clear i2
  go_wp2_with fail
  refine (h_same _ _ _ _ B4.out P4.out LP.out).mono ?_
  rintro e w5 ⟨rfl, g5⟩
  have D5 : Grew w4 w5 := Grew.trans (by (repeat' (first | (with_reducible exact Grew.refl _) | (with_reducible assumption) | (with_reducible refine Grew.alloc ?_ _ _) | (with_reducible refine Grew.drew ?_) | (with_reducible refine Grew.drewN ?_ _) | (with_reducible refine Grew.setCell ?_ ?_ _) | go_size))) g5
  have G5 : Grew (w.alloc (.cells #[.int .i64 x.1, .int .i64 x.2] 24)) w5 := Grew.trans G4 D5
  have P5 := Lib.hid (P4.out.grown D5)
  have A5 := Lib.hid (A4.out.grown D5)
  have B5 := Lib.hid (B4.out.grown D5)
  clear P4 A4 B4
  clear g5 D5 G4
  clear x00 x01
  have x00 : w5.cell? ⟨w.heap.size, 0, none⟩ = some (.int .i64 x.1) := by rw [G5.cell (by simp only [World.size_alloc]; omega)]; simp [go_sem, *]
  have x01 : w5.cell? ⟨w.heap.size, 1, none⟩ = some (.int .i64 x.2) := by rw [G5.cell (by simp only [World.size_alloc]; omega)]; simp [go_sem, *]
  clear B5
  go_wp2_with fail
  refine (valid_yes K r1 _ _ A5.out VM.out).mono ?_
  rintro e w6 ⟨rfl, g6⟩
  have D6 : Grew w5 w6 := Grew.trans (by (repeat' (first | (with_reducible exact Grew.refl _) | (with_reducible assumption) | (with_reducible refine Grew.alloc ?_ _ _) | (with_reducible refine Grew.drew ?_) | (with_reducible refine Grew.drewN ?_ _) | (with_reducible refine Grew.setCell ?_ ?_ _) | go_size))) g6
  have G6 : Grew (w.alloc (.cells #[.int .i64 x.1, .int .i64 x.2] 24)) w6 := Grew.trans G5 D6
  have P6 := Lib.hid (P5.out.grown D6)
  have A6 := Lib.hid (A5.out.grown D6)
  clear P5 A5
  clear g6 D6 G5
  clear x00 x01
  have x00 : w6.cell? ⟨w.heap.size, 0, none⟩ = some (.int .i64 x.1) := by rw [G6.cell (by simp only [World.size_alloc]; omega)]; simp [go_sem, *]
  have x01 : w6.cell? ⟨w.heap.size, 1, none⟩ = some (.int .i64 x.2) := by rw [G6.cell (by simp only [World.size_alloc]; omega)]; simp [go_sem, *]
  go_wp2_with fail
  refine (F.sum _ r1 _ _ _ P6.out A6.out LP.out (by have := VM.out.1.2; omega)).mono ?_
  rintro e w7 ⟨v3, k3, r3, i3, rfl, s3, g7⟩
  have D7 : Grew w6 w7 := Grew.trans (by (repeat' (first | (with_reducible exact Grew.refl _) | (with_reducible assumption) | (with_reducible refine Grew.alloc ?_ _ _) | (with_reducible refine Grew.drew ?_) | (with_reducible refine Grew.drewN ?_ _) | (with_reducible refine Grew.setCell ?_ ?_ _) | go_size))) g7
  have G7 : Grew (w.alloc (.cells #[.int .i64 x.1, .int .i64 x.2] 24)) w7 := Grew.trans G6 D7
  have P7 := Lib.hid (P6.out.grown D7)
  have A7 := Lib.hid (A6.out.grown D7)
  clear P6 A6
  clear g7 D7 G6
  clear x00 x01
  have x00 : w7.cell? ⟨w.heap.size, 0, none⟩ = some (.int .i64 x.1) := by rw [G7.cell (by simp only [World.size_alloc]; omega)]; simp [go_sem, *]
  have x01 : w7.cell? ⟨w.heap.size, 1, none⟩ = some (.int .i64 x.2) := by rw [G7.cell (by simp only [World.size_alloc]; omega)]; simp [go_sem, *]
  have S7 := Lib.hid s3
  clear s3
  have I3 := Lib.hid i3
  have hk : k3 = 0 ∨ k3 = 3 := by
    rcases sum_keys i3 ⟨VP.out, VM.out⟩ with e | ⟨e, _⟩ <;> omega
  clear i3
  rcases hk with rfl | rfl
  · obtain ⟨vs, h0⟩ := mir_sum VP.out HM.out VM.out I3.out
    have VS := Lib.hid vs
    have H0 := Lib.hid h0
    clear vs h0 I3
    go_wp2_with fail
    refine (has_yes K r3 (0, 0) _ _ S7.out VS.out (by decide) H0.out).mono ?_
    rintro e w8 ⟨rfl, g8⟩
    have D8 : Grew w7 w8 := Grew.trans (by (repeat' (first | (with_reducible exact Grew.refl _) | (with_reducible assumption) | (with_reducible refine Grew.alloc ?_ _ _) | (with_reducible refine Grew.drew ?_) | (with_reducible refine Grew.drewN ?_ _) | (with_reducible refine Grew.setCell ?_ ?_ _) | go_size))) g8
    have G8 : Grew (w.alloc (.cells #[.int .i64 x.1, .int .i64 x.2] 24)) w8 := Grew.trans G7 D8
    have P8 := Lib.hid (P7.out.grown D8)
    have A8 := Lib.hid (A7.out.grown D8)
    have S8 := Lib.hid (S7.out.grown D8)
    clear P7 A7 S7
    clear g8 D8 G7
    clear x00 x01
    have x00 : w8.cell? ⟨w.heap.size, 0, none⟩ = some (.int .i64 x.1) := by rw [G8.cell (by simp only [World.size_alloc]; omega)]; simp [go_sem, *]
    have x01 : w8.cell? ⟨w.heap.size, 1, none⟩ = some (.int .i64 x.2) := by rw [G8.cell (by simp only [World.size_alloc]; omega)]; simp [go_sem, *]
    go_wp2_with fail
    refine (rplace_yes x _ X.out).mono ?_
    rintro e w9 ⟨rfl, g9⟩
    have D9 : Grew w8 w9 := Grew.trans (by (repeat' (first | (with_reducible exact Grew.refl _) | (with_reducible assumption) | (with_reducible refine Grew.alloc ?_ _ _) | (with_reducible refine Grew.drew ?_) | (with_reducible refine Grew.drewN ?_ _) | (with_reducible refine Grew.setCell ?_ ?_ _) | go_size))) g9
    have G9 : Grew (w.alloc (.cells #[.int .i64 x.1, .int .i64 x.2] 24)) w9 := Grew.trans G8 D9
    have P9 := Lib.hid (P8.out.grown D9)
    have A9 := Lib.hid (A8.out.grown D9)
    have S9 := Lib.hid (S8.out.grown D9)
    clear P8 A8 S8
    clear g9 D9 G8
    clear x00 x01
    have x00 : w9.cell? ⟨w.heap.size, 0, none⟩ = some (.int .i64 x.1) := by rw [G9.cell (by simp only [World.size_alloc]; omega)]; simp [go_sem, *]
    have x01 : w9.cell? ⟨w.heap.size, 1, none⟩ = some (.int .i64 x.2) := by rw [G9.cell (by simp only [World.size_alloc]; omega)]; simp [go_sem, *]
    go_wp2_with fail
    refine (K.has_ok _ x _ _ P9.out VP.out X.out).mono ?_
    rintro e w10 ⟨a1, rfl, h1, g10⟩
    have D10 : Grew w9 w10 := Grew.trans (by (repeat' (first | (with_reducible exact Grew.refl _) | (with_reducible assumption) | (with_reducible refine Grew.alloc ?_ _ _) | (with_reducible refine Grew.drew ?_) | (with_reducible refine Grew.drewN ?_ _) | (with_reducible refine Grew.setCell ?_ ?_ _) | go_size))) g10
    have G10 : Grew (w.alloc (.cells #[.int .i64 x.1, .int .i64 x.2] 24)) w10 := Grew.trans G9 D10
    have P10 := Lib.hid (P9.out.grown D10)
    have A10 := Lib.hid (A9.out.grown D10)
    have S10 := Lib.hid (S9.out.grown D10)
    clear P9 A9 S9
    clear g10 D10 G9
    clear x00 x01
    have x00 : w10.cell? ⟨w.heap.size, 0, none⟩ = some (.int .i64 x.1) := by rw [G10.cell (by simp only [World.size_alloc]; omega)]; simp [go_sem, *]
    have x01 : w10.cell? ⟨w.heap.size, 1, none⟩ = some (.int .i64 x.2) := by rw [G10.cell (by simp only [World.size_alloc]; omega)]; simp [go_sem, *]
    have H1 := Lib.hid h1
    clear h1
    obtain ⟨⟨b1, b2⟩, b3, b4⟩ := X.out
    have NX : Hid (Plc (neg x)) := Lib.hid (neg_plc X.out)
    go_wp2_with fail
    refine (K.has_ok r1 (neg x) _ _ A10.out VM.out NX.out).mono ?_
    rintro e w11 ⟨a2, rfl, h2, g11⟩
    have D11 : Grew w10 w11 := Grew.trans (by (repeat' (first | (with_reducible exact Grew.refl _) | (with_reducible assumption) | (with_reducible refine Grew.alloc ?_ _ _) | (with_reducible refine Grew.drew ?_) | (with_reducible refine Grew.drewN ?_ _) | (with_reducible refine Grew.setCell ?_ ?_ _) | go_size))) g11
    have G11 : Grew (w.alloc (.cells #[.int .i64 x.1, .int .i64 x.2] 24)) w11 := Grew.trans G10 D11
    have P11 := Lib.hid (P10.out.grown D11)
    have A11 := Lib.hid (A10.out.grown D11)
    have S11 := Lib.hid (S10.out.grown D11)
    clear P10 A10 S10
    clear g11 D11 G10
    clear x00 x01
    have x00 : w11.cell? ⟨w.heap.size, 0, none⟩ = some (.int .i64 x.1) := by rw [G11.cell (by simp only [World.size_alloc]; omega)]; simp [go_sem, *]
    have x01 : w11.cell? ⟨w.heap.size, 1, none⟩ = some (.int .i64 x.2) := by rw [G11.cell (by simp only [World.size_alloc]; omega)]; simp [go_sem, *]
    obtain rfl : a1 = a2 := Bool.eq_iff_iff.2 ((H1.out.trans (mirror_iff VP.out.pg HM.out x).symm).trans h2.symm)
    clear h2 H1
    go_wp2_with fail
    go_ret
    exact ⟨rfl, Grew.trans (by (repeat' (first | (with_reducible exact Grew.refl _) | (with_reducible assumption) | (with_reducible refine Grew.alloc ?_ _ _) | (with_reducible refine Grew.drew ?_) | (with_reducible refine Grew.drewN ?_ _) | (with_reducible refine Grew.setCell ?_ ?_ _) | go_size))) G11⟩
  · go_wp2_with fail
    refine (rplace_yes x _ X.out).mono ?_
    rintro e w8 ⟨rfl, g8⟩
    have D8 : Grew w7 w8 := Grew.trans (by (repeat' (first | (with_reducible exact Grew.refl _) | (with_reducible assumption) | (with_reducible refine Grew.alloc ?_ _ _) | (with_reducible refine Grew.drew ?_) | (with_reducible refine Grew.drewN ?_ _) | (with_reducible refine Grew.setCell ?_ ?_ _) | go_size))) g8
    have G8 : Grew (w.alloc (.cells #[.int .i64 x.1, .int .i64 x.2] 24)) w8 := Grew.trans G7 D8
    have P8 := Lib.hid (P7.out.grown D8)
    have A8 := Lib.hid (A7.out.grown D8)
    have S8 := Lib.hid (S7.out.grown D8)
    clear P7 A7 S7
    clear g8 D8 G7
    clear x00 x01
    have x00 : w8.cell? ⟨w.heap.size, 0, none⟩ = some (.int .i64 x.1) := by rw [G8.cell (by simp only [World.size_alloc]; omega)]; simp [go_sem, *]
    have x01 : w8.cell? ⟨w.heap.size, 1, none⟩ = some (.int .i64 x.2) := by rw [G8.cell (by simp only [World.size_alloc]; omega)]; simp [go_sem, *]
    go_wp2_with fail
    refine (K.has_ok _ x _ _ P8.out VP.out X.out).mono ?_
    rintro e w9 ⟨a1, rfl, h1, g9⟩
    have D9 : Grew w8 w9 := Grew.trans (by (repeat' (first | (with_reducible exact Grew.refl _) | (with_reducible assumption) | (with_reducible refine Grew.alloc ?_ _ _) | (with_reducible refine Grew.drew ?_) | (with_reducible refine Grew.drewN ?_ _) | (with_reducible refine Grew.setCell ?_ ?_ _) | go_size))) g9
    have G9 : Grew (w.alloc (.cells #[.int .i64 x.1, .int .i64 x.2] 24)) w9 := Grew.trans G8 D9
    have P9 := Lib.hid (P8.out.grown D9)
    have A9 := Lib.hid (A8.out.grown D9)
    have S9 := Lib.hid (S8.out.grown D9)
    clear P8 A8 S8
    clear g9 D9 G8
    clear x00 x01
    have x00 : w9.cell? ⟨w.heap.size, 0, none⟩ = some (.int .i64 x.1) := by rw [G9.cell (by simp only [World.size_alloc]; omega)]; simp [go_sem, *]
    have x01 : w9.cell? ⟨w.heap.size, 1, none⟩ = some (.int .i64 x.2) := by rw [G9.cell (by simp only [World.size_alloc]; omega)]; simp [go_sem, *]
    have H1 := Lib.hid h1
    clear h1
    obtain ⟨⟨b1, b2⟩, b3, b4⟩ := X.out
    have NX : Hid (Plc (neg x)) := Lib.hid (neg_plc X.out)
    go_wp2_with fail
    refine (K.has_ok r1 (neg x) _ _ A9.out VM.out NX.out).mono ?_
    rintro e w10 ⟨a2, rfl, h2, g10⟩
    have D10 : Grew w9 w10 := Grew.trans (by (repeat' (first | (with_reducible exact Grew.refl _) | (with_reducible assumption) | (with_reducible refine Grew.alloc ?_ _ _) | (with_reducible refine Grew.drew ?_) | (with_reducible refine Grew.drewN ?_ _) | (with_reducible refine Grew.setCell ?_ ?_ _) | go_size))) g10
    have G10 : Grew (w.alloc (.cells #[.int .i64 x.1, .int .i64 x.2] 24)) w10 := Grew.trans G9 D10
    have P10 := Lib.hid (P9.out.grown D10)
    have A10 := Lib.hid (A9.out.grown D10)
    have S10 := Lib.hid (S9.out.grown D10)
    clear P9 A9 S9
    clear g10 D10 G9
    clear x00 x01
    have x00 : w10.cell? ⟨w.heap.size, 0, none⟩ = some (.int .i64 x.1) := by rw [G10.cell (by simp only [World.size_alloc]; omega)]; simp [go_sem, *]
    have x01 : w10.cell? ⟨w.heap.size, 1, none⟩ = some (.int .i64 x.2) := by rw [G10.cell (by simp only [World.size_alloc]; omega)]; simp [go_sem, *]
    obtain rfl : a1 = a2 := Bool.eq_iff_iff.2 ((H1.out.trans (mirror_iff VP.out.pg HM.out x).symm).trans h2.symm)
    clear h2 H1
    go_wp2_with fail
    go_ret
    exact ⟨rfl, Grew.trans (by (repeat' (first | (with_reducible exact Grew.refl _) | (with_reducible assumption) | (with_reducible refine Grew.alloc ?_ _ _) | (with_reducible refine Grew.drew ?_) | (with_reducible refine Grew.drewN ?_ _) | (with_reducible refine Grew.setCell ?_ ?_ _) | go_size))) G10⟩
set_option maxRecDepth 100000 in
set_option maxHeartbeats 4000000 in
theorem mirrors_3 (K : Hl.Code) (F : Code) (p : List Pt) (x : Pt) (v : Value) (w : World) (P : Hid (Sl w v p)) (LP : Hid (p.length ≤ 9223372036854775807)) (VP : Hid (Vl p)) (X : Hid (¬ Plc x)) : Calls Try.prog 8 #[v, .agg #[.int .i64 x.1, .int .i64 x.2]] w fun e w' => e = .returned (.bool true) ∧ Grew w w' := by
  have G0 : Grew (w.alloc (.cells #[.int .i64 x.1, .int .i64 x.2] 24)) (w.alloc (.cells #[.int .i64 x.1, .int .i64 x.2] 24)) := Grew.refl _
  have P0 := Lib.hid (P.out.grown (w' := (w.alloc (.cells #[.int .i64 x.1, .int .i64 x.2] 24))) (by (repeat' (first | (with_reducible exact Grew.refl _) | (with_reducible assumption) | (with_reducible refine Grew.alloc ?_ _ _) | (with_reducible refine Grew.drew ?_) | (with_reducible refine Grew.drewN ?_ _) | (with_reducible refine Grew.setCell ?_ ?_ _) | go_size))))
  go_enter Try.func8, Try.ntmps8
  go_wp2_with fail
  refine (head_true F _).mono ?_
  rintro e w1 ⟨rfl, g1⟩
  have D1 : Grew (w.alloc (.cells #[.int .i64 x.1, .int .i64 x.2] 24)) w1 := Grew.trans (by (repeat' (first | (with_reducible exact Grew.refl _) | (with_reducible assumption) | (with_reducible refine Grew.alloc ?_ _ _) | (with_reducible refine Grew.drew ?_) | (with_reducible refine Grew.drewN ?_ _) | (with_reducible refine Grew.setCell ?_ ?_ _) | go_size))) g1
  have G1 : Grew (w.alloc (.cells #[.int .i64 x.1, .int .i64 x.2] 24)) w1 := D1
  have P1 := Lib.hid (P0.out.grown D1)
  clear P0
  clear g1 D1 G0
  have x00 : w1.cell? ⟨w.heap.size, 0, none⟩ = some (.int .i64 x.1) := by rw [G1.cell (by simp only [World.size_alloc]; omega)]; simp [go_sem, *]
  have x01 : w1.cell? ⟨w.heap.size, 1, none⟩ = some (.int .i64 x.2) := by rw [G1.cell (by simp only [World.size_alloc]; omega)]; simp [go_sem, *]
  go_wp2_with fail
  refine ((rvalid_any p v _ P1.out LP.out).mono fun _ _ t => t.to VP.out).mono ?_
  rintro e w2 ⟨rfl, g2⟩
  have D2 : Grew w1 w2 := Grew.trans (by (repeat' (first | (with_reducible exact Grew.refl _) | (with_reducible assumption) | (with_reducible refine Grew.alloc ?_ _ _) | (with_reducible refine Grew.drew ?_) | (with_reducible refine Grew.drewN ?_ _) | (with_reducible refine Grew.setCell ?_ ?_ _) | go_size))) g2
  have G2 : Grew (w.alloc (.cells #[.int .i64 x.1, .int .i64 x.2] 24)) w2 := Grew.trans G1 D2
  have P2 := Lib.hid (P1.out.grown D2)
  clear P1
  clear g2 D2 G1
  clear x00 x01
  have x00 : w2.cell? ⟨w.heap.size, 0, none⟩ = some (.int .i64 x.1) := by rw [G2.cell (by simp only [World.size_alloc]; omega)]; simp [go_sem, *]
  have x01 : w2.cell? ⟨w.heap.size, 1, none⟩ = some (.int .i64 x.2) := by rw [G2.cell (by simp only [World.size_alloc]; omega)]; simp [go_sem, *]
  go_wp2_with fail
  refine (F.mir p _ _ P2.out LP.out).mono ?_
  rintro e w3 ⟨v1, k1, r1, i1, rfl, s1, g3⟩
  have D3 : Grew w2 w3 := Grew.trans (by (repeat' (first | (with_reducible exact Grew.refl _) | (with_reducible assumption) | (with_reducible refine Grew.alloc ?_ _ _) | (with_reducible refine Grew.drew ?_) | (with_reducible refine Grew.drewN ?_ _) | (with_reducible refine Grew.setCell ?_ ?_ _) | go_size))) g3
  have G3 : Grew (w.alloc (.cells #[.int .i64 x.1, .int .i64 x.2] 24)) w3 := Grew.trans G2 D3
  have P3 := Lib.hid (P2.out.grown D3)
  clear P2
  clear g3 D3 G2
  clear x00 x01
  have x00 : w3.cell? ⟨w.heap.size, 0, none⟩ = some (.int .i64 x.1) := by rw [G3.cell (by simp only [World.size_alloc]; omega)]; simp [go_sem, *]
  have x01 : w3.cell? ⟨w.heap.size, 1, none⟩ = some (.int .i64 x.2) := by rw [G3.cell (by simp only [World.size_alloc]; omega)]; simp [go_sem, *]
  have A3 := Lib.hid s1
  clear s1
  obtain ⟨rfl, hm, vm⟩ := mir_good VP.out i1
  have HM := Lib.hid hm
  have VM := Lib.hid vm
  clear hm vm i1
  go_wp2_with fail
  refine (F.mir r1 _ _ A3.out (by have := VM.out.1.2; omega)).mono ?_
  rintro e w4 ⟨v2, k2, r2, i2, rfl, s2, g4⟩
  have D4 : Grew w3 w4 := Grew.trans (by (repeat' (first | (with_reducible exact Grew.refl _) | (with_reducible assumption) | (with_reducible refine Grew.alloc ?_ _ _) | (with_reducible refine Grew.drew ?_) | (with_reducible refine Grew.drewN ?_ _) | (with_reducible refine Grew.setCell ?_ ?_ _) | go_size))) g4
  have G4 : Grew (w.alloc (.cells #[.int .i64 x.1, .int .i64 x.2] 24)) w4 := Grew.trans G3 D4
  have P4 := Lib.hid (P3.out.grown D4)
  have A4 := Lib.hid (A3.out.grown D4)
  clear P3 A3
  clear g4 D4 G3
  clear x00 x01
  have x00 : w4.cell? ⟨w.heap.size, 0, none⟩ = some (.int .i64 x.1) := by rw [G4.cell (by simp only [World.size_alloc]; omega)]; simp [go_sem, *]
  have x01 : w4.cell? ⟨w.heap.size, 1, none⟩ = some (.int .i64 x.2) := by rw [G4.cell (by simp only [World.size_alloc]; omega)]; simp [go_sem, *]
  have B4 := Lib.hid s2
  clear s2
  obtain ⟨rfl, rfl⟩ := mir_twice VP.out HM.out VM.out i2
  clear i2
  go_wp2_with fail
  refine (h_same _ _ _ _ B4.out P4.out LP.out).mono ?_
  rintro e w5 ⟨rfl, g5⟩
  have D5 : Grew w4 w5 := Grew.trans (by (repeat' (first | (with_reducible exact Grew.refl _) | (with_reducible assumption) | (with_reducible refine Grew.alloc ?_ _ _) | (with_reducible refine Grew.drew ?_) | (with_reducible refine Grew.drewN ?_ _) | (with_reducible refine Grew.setCell ?_ ?_ _) | go_size))) g5
  have G5 : Grew (w.alloc (.cells #[.int .i64 x.1, .int .i64 x.2] 24)) w5 := Grew.trans G4 D5
  have P5 := Lib.hid (P4.out.grown D5)
  have A5 := Lib.hid (A4.out.grown D5)
  have B5 := Lib.hid (B4.out.grown D5)
  clear P4 A4 B4
  clear g5 D5 G4
  clear x00 x01
  have x00 : w5.cell? ⟨w.heap.size, 0, none⟩ = some (.int .i64 x.1) := by rw [G5.cell (by simp only [World.size_alloc]; omega)]; simp [go_sem, *]
  have x01 : w5.cell? ⟨w.heap.size, 1, none⟩ = some (.int .i64 x.2) := by rw [G5.cell (by simp only [World.size_alloc]; omega)]; simp [go_sem, *]
  clear B5
  go_wp2_with fail
  refine (valid_yes K r1 _ _ A5.out VM.out).mono ?_
  rintro e w6 ⟨rfl, g6⟩
  have D6 : Grew w5 w6 := Grew.trans (by (repeat' (first | (with_reducible exact Grew.refl _) | (with_reducible assumption) | (with_reducible refine Grew.alloc ?_ _ _) | (with_reducible refine Grew.drew ?_) | (with_reducible refine Grew.drewN ?_ _) | (with_reducible refine Grew.setCell ?_ ?_ _) | go_size))) g6
  have G6 : Grew (w.alloc (.cells #[.int .i64 x.1, .int .i64 x.2] 24)) w6 := Grew.trans G5 D6
  have P6 := Lib.hid (P5.out.grown D6)
  have A6 := Lib.hid (A5.out.grown D6)
  clear P5 A5
  clear g6 D6 G5
  clear x00 x01
  have x00 : w6.cell? ⟨w.heap.size, 0, none⟩ = some (.int .i64 x.1) := by rw [G6.cell (by simp only [World.size_alloc]; omega)]; simp [go_sem, *]
  have x01 : w6.cell? ⟨w.heap.size, 1, none⟩ = some (.int .i64 x.2) := by rw [G6.cell (by simp only [World.size_alloc]; omega)]; simp [go_sem, *]
  go_wp2_with fail
  refine (F.sum _ r1 _ _ _ P6.out A6.out LP.out (by have := VM.out.1.2; omega)).mono ?_
  rintro e w7 ⟨v3, k3, r3, i3, rfl, s3, g7⟩
  have D7 : Grew w6 w7 := Grew.trans (by (repeat' (first | (with_reducible exact Grew.refl _) | (with_reducible assumption) | (with_reducible refine Grew.alloc ?_ _ _) | (with_reducible refine Grew.drew ?_) | (with_reducible refine Grew.drewN ?_ _) | (with_reducible refine Grew.setCell ?_ ?_ _) | go_size))) g7
  have G7 : Grew (w.alloc (.cells #[.int .i64 x.1, .int .i64 x.2] 24)) w7 := Grew.trans G6 D7
  have P7 := Lib.hid (P6.out.grown D7)
  have A7 := Lib.hid (A6.out.grown D7)
  clear P6 A6
  clear g7 D7 G6
  clear x00 x01
  have x00 : w7.cell? ⟨w.heap.size, 0, none⟩ = some (.int .i64 x.1) := by rw [G7.cell (by simp only [World.size_alloc]; omega)]; simp [go_sem, *]
  have x01 : w7.cell? ⟨w.heap.size, 1, none⟩ = some (.int .i64 x.2) := by rw [G7.cell (by simp only [World.size_alloc]; omega)]; simp [go_sem, *]
  have S7 := Lib.hid s3
  clear s3
  have I3 := Lib.hid i3
  have hk : k3 = 0 ∨ k3 = 3 := by
    rcases sum_keys i3 ⟨VP.out, VM.out⟩ with e | ⟨e, _⟩ <;> omega
  clear i3
  rcases hk with rfl | rfl
  · obtain ⟨vs, h0⟩ := mir_sum VP.out HM.out VM.out I3.out
    have VS := Lib.hid vs
    have H0 := Lib.hid h0
    clear vs h0 I3
    go_wp2_with fail
    refine (has_yes K r3 (0, 0) _ _ S7.out VS.out (by decide) H0.out).mono ?_
    rintro e w8 ⟨rfl, g8⟩
    have D8 : Grew w7 w8 := Grew.trans (by (repeat' (first | (with_reducible exact Grew.refl _) | (with_reducible assumption) | (with_reducible refine Grew.alloc ?_ _ _) | (with_reducible refine Grew.drew ?_) | (with_reducible refine Grew.drewN ?_ _) | (with_reducible refine Grew.setCell ?_ ?_ _) | go_size))) g8
    have G8 : Grew (w.alloc (.cells #[.int .i64 x.1, .int .i64 x.2] 24)) w8 := Grew.trans G7 D8
    have P8 := Lib.hid (P7.out.grown D8)
    have A8 := Lib.hid (A7.out.grown D8)
    have S8 := Lib.hid (S7.out.grown D8)
    clear P7 A7 S7
    clear g8 D8 G7
    clear x00 x01
    have x00 : w8.cell? ⟨w.heap.size, 0, none⟩ = some (.int .i64 x.1) := by rw [G8.cell (by simp only [World.size_alloc]; omega)]; simp [go_sem, *]
    have x01 : w8.cell? ⟨w.heap.size, 1, none⟩ = some (.int .i64 x.2) := by rw [G8.cell (by simp only [World.size_alloc]; omega)]; simp [go_sem, *]
    go_wp2_with fail
    refine (rplace_no x _ X.out).mono ?_
    rintro e w9 ⟨rfl, g9⟩
    have D9 : Grew w8 w9 := Grew.trans (by (repeat' (first | (with_reducible exact Grew.refl _) | (with_reducible assumption) | (with_reducible refine Grew.alloc ?_ _ _) | (with_reducible refine Grew.drew ?_) | (with_reducible refine Grew.drewN ?_ _) | (with_reducible refine Grew.setCell ?_ ?_ _) | go_size))) g9
    have G9 : Grew (w.alloc (.cells #[.int .i64 x.1, .int .i64 x.2] 24)) w9 := Grew.trans G8 D9
    have P9 := Lib.hid (P8.out.grown D9)
    have A9 := Lib.hid (A8.out.grown D9)
    have S9 := Lib.hid (S8.out.grown D9)
    clear P8 A8 S8
    clear g9 D9 G8
    clear x00 x01
    have x00 : w9.cell? ⟨w.heap.size, 0, none⟩ = some (.int .i64 x.1) := by rw [G9.cell (by simp only [World.size_alloc]; omega)]; simp [go_sem, *]
    have x01 : w9.cell? ⟨w.heap.size, 1, none⟩ = some (.int .i64 x.2) := by rw [G9.cell (by simp only [World.size_alloc]; omega)]; simp [go_sem, *]
    go_wp2_with fail
    go_ret
    exact ⟨rfl, Grew.trans (by (repeat' (first | (with_reducible exact Grew.refl _) | (with_reducible assumption) | (with_reducible refine Grew.alloc ?_ _ _) | (with_reducible refine Grew.drew ?_) | (with_reducible refine Grew.drewN ?_ _) | (with_reducible refine Grew.setCell ?_ ?_ _) | go_size))) G9⟩
  · go_wp2_with fail
    refine (rplace_no x _ X.out).mono ?_
    rintro e w8 ⟨rfl, g8⟩
    have D8 : Grew w7 w8 := Grew.trans (by (repeat' (first | (with_reducible exact Grew.refl _) | (with_reducible assumption) | (with_reducible refine Grew.alloc ?_ _ _) | (with_reducible refine Grew.drew ?_) | (with_reducible refine Grew.drewN ?_ _) | (with_reducible refine Grew.setCell ?_ ?_ _) | go_size))) g8
    have G8 : Grew (w.alloc (.cells #[.int .i64 x.1, .int .i64 x.2] 24)) w8 := Grew.trans G7 D8
    have P8 := Lib.hid (P7.out.grown D8)
    have A8 := Lib.hid (A7.out.grown D8)
    have S8 := Lib.hid (S7.out.grown D8)
    clear P7 A7 S7
    clear g8 D8 G7
    clear x00 x01
    have x00 : w8.cell? ⟨w.heap.size, 0, none⟩ = some (.int .i64 x.1) := by rw [G8.cell (by simp only [World.size_alloc]; omega)]; simp [go_sem, *]
    have x01 : w8.cell? ⟨w.heap.size, 1, none⟩ = some (.int .i64 x.2) := by rw [G8.cell (by simp only [World.size_alloc]; omega)]; simp [go_sem, *]
    go_wp2_with fail
    go_ret
    exact ⟨rfl, Grew.trans (by (repeat' (first | (with_reducible exact Grew.refl _) | (with_reducible assumption) | (with_reducible refine Grew.alloc ?_ _ _) | (with_reducible refine Grew.drew ?_) | (with_reducible refine Grew.drewN ?_ _) | (with_reducible refine Grew.setCell ?_ ?_ _) | go_size))) G8⟩
theorem mirrors_true (K : Hl.Code) (F : Code) (p : List Pt) (x : Pt) (v : Value) (w : World) (hs : Sl w v p) (h1 : p.length ≤ 9223372036854775807) : Calls Try.prog 8 #[v, .agg #[.int .i64 x.1, .int .i64 x.2]] w fun e w' => e = .returned (.bool true) ∧ Grew w w' := by
  by_cases hv : Vl p
  · by_cases hx : Plc x
    · exact mirrors_2 K F p x v w (Lib.hid hs) (Lib.hid h1) (Lib.hid hv) (Lib.hid hx)
    · exact mirrors_3 K F p x v w (Lib.hid hs) (Lib.hid h1) (Lib.hid hv) (Lib.hid hx)
  · exact mirrors_1 K F p x v w (Lib.hid hs) (Lib.hid h1) (Lib.hid hv)
end Mk
end Go.Proofs.Yteglefjnbkocgaa
