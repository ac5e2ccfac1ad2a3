/-
  The law MinkMatchesReference, under what package mink owes.
-/
import Derived.Test.YteglefjnbkocgaaMinkHead
namespace Go.Proofs.Yteglefjnbkocgaa
open Go.RowKit Hl
namespace Mk
set_option maxRecDepth 100000 in
set_option maxHeartbeats 4000000 in
theorem match_few (F : Code) (p q : List Pt) (z : Pt) (n : Int) (v u : Value) (w : World) (P : Hid (Sl w v p)) (Q : Hid (Sl w u q)) (LP : Hid (p.length ≤ 9223372036854775807)) (LQ : Hid (q.length ≤ 9223372036854775807)) (F1 : Hid (p.length ≤ 80)) (F2 : Hid (q.length ≤ 80)) : Calls Try.prog 3 #[v, u, .agg #[.int .i64 z.1, .int .i64 z.2], .int .i64 n] w fun e w' => e = .returned (.bool true) ∧ Grew w w' := by
  have G0 : Grew (w.alloc (.cells #[.int .i64 z.1, .int .i64 z.2] 24)) (w.alloc (.cells #[.int .i64 z.1, .int .i64 z.2] 24)) := Grew.refl _
  have P0 := Lib.hid (P.out.grown (w' := (w.alloc (.cells #[.int .i64 z.1, .int .i64 z.2] 24))) (by (repeat' (first | (with_reducible exact Grew.refl _) | (with_reducible assumption) | (with_reducible refine Grew.alloc ?_ _ _) | (with_reducible refine Grew.drew ?_) | (with_reducible refine Grew.drewN ?_ _) | (with_reducible refine Grew.setCell ?_ ?_ _) | go_size))))
  have Q0 := Lib.hid (Q.out.grown (w' := (w.alloc (.cells #[.int .i64 z.1, .int .i64 z.2] 24))) (by (repeat' (first | (with_reducible exact Grew.refl _) | (with_reducible assumption) | (with_reducible refine Grew.alloc ?_ _ _) | (with_reducible refine Grew.drew ?_) | (with_reducible refine Grew.drewN ?_ _) | (with_reducible refine Grew.setCell ?_ ?_ _) | go_size))))
  go_enter Try.func3, Try.ntmps3
  go_wp2_with fail
  refine (head_true F _).mono ?_
  rintro e w1 ⟨rfl, g1⟩
  have D1 : Grew (w.alloc (.cells #[.int .i64 z.1, .int .i64 z.2] 24)) w1 := Grew.trans (by (repeat' (first | (with_reducible exact Grew.refl _) | (with_reducible assumption) | (with_reducible refine Grew.alloc ?_ _ _) | (with_reducible refine Grew.drew ?_) | (with_reducible refine Grew.drewN ?_ _) | (with_reducible refine Grew.setCell ?_ ?_ _) | go_size))) g1
  have G1 : Grew (w.alloc (.cells #[.int .i64 z.1, .int .i64 z.2] 24)) w1 := D1
  have P1 := Lib.hid (P0.out.grown D1)
  have Q1 := Lib.hid (Q0.out.grown D1)
  clear P0 Q0
  clear g1 D1 G0
  have x00 : w1.cell? ⟨w.heap.size, 0, none⟩ = some (.int .i64 z.1) := by rw [G1.cell (by simp only [World.size_alloc]; omega)]; simp [go_sem, *]
  have x01 : w1.cell? ⟨w.heap.size, 1, none⟩ = some (.int .i64 z.2) := by rw [G1.cell (by simp only [World.size_alloc]; omega)]; simp [go_sem, *]
  go_wp2_with fail
  refine (few_yes p v _ P1.out F1.out).mono ?_
  rintro e w2 ⟨rfl, g2⟩
  have D2 : Grew w1 w2 := Grew.trans (by (repeat' (first | (with_reducible exact Grew.refl _) | (with_reducible assumption) | (with_reducible refine Grew.alloc ?_ _ _) | (with_reducible refine Grew.drew ?_) | (with_reducible refine Grew.drewN ?_ _) | (with_reducible refine Grew.setCell ?_ ?_ _) | go_size))) g2
  have G2 : Grew (w.alloc (.cells #[.int .i64 z.1, .int .i64 z.2] 24)) w2 := Grew.trans G1 D2
  have P2 := Lib.hid (P1.out.grown D2)
  have Q2 := Lib.hid (Q1.out.grown D2)
  clear P1 Q1
  clear g2 D2 G1
  clear x00 x01
  have x00 : w2.cell? ⟨w.heap.size, 0, none⟩ = some (.int .i64 z.1) := by rw [G2.cell (by simp only [World.size_alloc]; omega)]; simp [go_sem, *]
  have x01 : w2.cell? ⟨w.heap.size, 1, none⟩ = some (.int .i64 z.2) := by rw [G2.cell (by simp only [World.size_alloc]; omega)]; simp [go_sem, *]
  go_wp2_with fail
  refine (few_yes q u _ Q2.out F2.out).mono ?_
  rintro e w3 ⟨rfl, g3⟩
  have D3 : Grew w2 w3 := Grew.trans (by (repeat' (first | (with_reducible exact Grew.refl _) | (with_reducible assumption) | (with_reducible refine Grew.alloc ?_ _ _) | (with_reducible refine Grew.drew ?_) | (with_reducible refine Grew.drewN ?_ _) | (with_reducible refine Grew.setCell ?_ ?_ _) | go_size))) g3
  have G3 : Grew (w.alloc (.cells #[.int .i64 z.1, .int .i64 z.2] 24)) w3 := Grew.trans G2 D3
  have P3 := Lib.hid (P2.out.grown D3)
  have Q3 := Lib.hid (Q2.out.grown D3)
  clear P2 Q2
  clear g3 D3 G2
  clear x00 x01
  have x00 : w3.cell? ⟨w.heap.size, 0, none⟩ = some (.int .i64 z.1) := by rw [G3.cell (by simp only [World.size_alloc]; omega)]; simp [go_sem, *]
  have x01 : w3.cell? ⟨w.heap.size, 1, none⟩ = some (.int .i64 z.2) := by rw [G3.cell (by simp only [World.size_alloc]; omega)]; simp [go_sem, *]
  go_wp2_with fail
  refine (F.sum p q v u _ P3.out Q3.out LP.out LQ.out).mono ?_
  rintro e w4 ⟨v1, k1, r1, i1, rfl, s1, g4⟩
  have D4 : Grew w3 w4 := Grew.trans (by (repeat' (first | (with_reducible exact Grew.refl _) | (with_reducible assumption) | (with_reducible refine Grew.alloc ?_ _ _) | (with_reducible refine Grew.drew ?_) | (with_reducible refine Grew.drewN ?_ _) | (with_reducible refine Grew.setCell ?_ ?_ _) | go_size))) g4
  have G4 : Grew (w.alloc (.cells #[.int .i64 z.1, .int .i64 z.2] 24)) w4 := Grew.trans G3 D4
  have P4 := Lib.hid (P3.out.grown D4)
  have Q4 := Lib.hid (Q3.out.grown D4)
  clear P3 Q3
  clear g4 D4 G3
  clear x00 x01
  have x00 : w4.cell? ⟨w.heap.size, 0, none⟩ = some (.int .i64 z.1) := by rw [G4.cell (by simp only [World.size_alloc]; omega)]; simp [go_sem, *]
  have x01 : w4.cell? ⟨w.heap.size, 1, none⟩ = some (.int .i64 z.2) := by rw [G4.cell (by simp only [World.size_alloc]; omega)]; simp [go_sem, *]
  have A4 := Lib.hid s1
  clear s1
  go_wp2_with fail
  refine (ref.sum p q v u _ P4.out Q4.out LP.out LQ.out).mono ?_
  rintro e w5 ⟨u1, l1, t1, j1, rfl, s1, g5⟩
  have D5 : Grew w4 w5 := Grew.trans (by (repeat' (first | (with_reducible exact Grew.refl _) | (with_reducible assumption) | (with_reducible refine Grew.alloc ?_ _ _) | (with_reducible refine Grew.drew ?_) | (with_reducible refine Grew.drewN ?_ _) | (with_reducible refine Grew.setCell ?_ ?_ _) | go_size))) g5
  have G5 : Grew (w.alloc (.cells #[.int .i64 z.1, .int .i64 z.2] 24)) w5 := Grew.trans G4 D5
  have P5 := Lib.hid (P4.out.grown D5)
  have Q5 := Lib.hid (Q4.out.grown D5)
  have A5 := Lib.hid (A4.out.grown D5)
  clear P4 Q4 A4
  clear g5 D5 G4
  clear x00 x01
  have x00 : w5.cell? ⟨w.heap.size, 0, none⟩ = some (.int .i64 z.1) := by rw [G5.cell (by simp only [World.size_alloc]; omega)]; simp [go_sem, *]
  have x01 : w5.cell? ⟨w.heap.size, 1, none⟩ = some (.int .i64 z.2) := by rw [G5.cell (by simp only [World.size_alloc]; omega)]; simp [go_sem, *]
  have B5 := Lib.hid s1
  clear s1
  obtain ⟨rfl, rfl⟩ := i1.one j1
  clear j1
  go_wp2_with fail
  refine (h_same r1 _ _ _ A5.out B5.out (by have := i1.few; omega)).mono ?_
  rintro e w6 ⟨rfl, g6⟩
  have D6 : Grew w5 w6 := Grew.trans (by (repeat' (first | (with_reducible exact Grew.refl _) | (with_reducible assumption) | (with_reducible refine Grew.alloc ?_ _ _) | (with_reducible refine Grew.drew ?_) | (with_reducible refine Grew.drewN ?_ _) | (with_reducible refine Grew.setCell ?_ ?_ _) | go_size))) g6
  have G6 : Grew (w.alloc (.cells #[.int .i64 z.1, .int .i64 z.2] 24)) w6 := Grew.trans G5 D6
  have P6 := Lib.hid (P5.out.grown D6)
  have Q6 := Lib.hid (Q5.out.grown D6)
  have A6 := Lib.hid (A5.out.grown D6)
  have B6 := Lib.hid (B5.out.grown D6)
  clear P5 Q5 A5 B5
  clear g6 D6 G5
  clear x00 x01
  have x00 : w6.cell? ⟨w.heap.size, 0, none⟩ = some (.int .i64 z.1) := by rw [G6.cell (by simp only [World.size_alloc]; omega)]; simp [go_sem, *]
  have x01 : w6.cell? ⟨w.heap.size, 1, none⟩ = some (.int .i64 z.2) := by rw [G6.cell (by simp only [World.size_alloc]; omega)]; simp [go_sem, *]
  clear A6
  clear B6
  clear i1
  clear Q6
  go_wp2_with fail
  refine (F.shf p z v _ P6.out LP.out).mono ?_
  rintro e w7 ⟨v2, k2, r2, i2, rfl, s2, g7⟩
  have D7 : Grew w6 w7 := Grew.trans (by (repeat' (first | (with_reducible exact Grew.refl _) | (with_reducible assumption) | (with_reducible refine Grew.alloc ?_ _ _) | (with_reducible refine Grew.drew ?_) | (with_reducible refine Grew.drewN ?_ _) | (with_reducible refine Grew.setCell ?_ ?_ _) | go_size))) g7
  have G7 : Grew (w.alloc (.cells #[.int .i64 z.1, .int .i64 z.2] 24)) w7 := Grew.trans G6 D7
  have P7 := Lib.hid (P6.out.grown D7)
  clear P6
  clear g7 D7 G6
  clear x00 x01
  have x00 : w7.cell? ⟨w.heap.size, 0, none⟩ = some (.int .i64 z.1) := by rw [G7.cell (by simp only [World.size_alloc]; omega)]; simp [go_sem, *]
  have x01 : w7.cell? ⟨w.heap.size, 1, none⟩ = some (.int .i64 z.2) := by rw [G7.cell (by simp only [World.size_alloc]; omega)]; simp [go_sem, *]
  have A7 := Lib.hid s2
  clear s2
  go_wp2_with fail
  refine (ref.shf p z v _ P7.out LP.out).mono ?_
  rintro e w8 ⟨u2, l2, t2, j2, rfl, s2, g8⟩
  have D8 : Grew w7 w8 := Grew.trans (by (repeat' (first | (with_reducible exact Grew.refl _) | (with_reducible assumption) | (with_reducible refine Grew.alloc ?_ _ _) | (with_reducible refine Grew.drew ?_) | (with_reducible refine Grew.drewN ?_ _) | (with_reducible refine Grew.setCell ?_ ?_ _) | go_size))) g8
  have G8 : Grew (w.alloc (.cells #[.int .i64 z.1, .int .i64 z.2] 24)) w8 := Grew.trans G7 D8
  have P8 := Lib.hid (P7.out.grown D8)
  have A8 := Lib.hid (A7.out.grown D8)
  clear P7 A7
  clear g8 D8 G7
  clear x00 x01
  have x00 : w8.cell? ⟨w.heap.size, 0, none⟩ = some (.int .i64 z.1) := by rw [G8.cell (by simp only [World.size_alloc]; omega)]; simp [go_sem, *]
  have x01 : w8.cell? ⟨w.heap.size, 1, none⟩ = some (.int .i64 z.2) := by rw [G8.cell (by simp only [World.size_alloc]; omega)]; simp [go_sem, *]
  have B8 := Lib.hid s2
  clear s2
  obtain ⟨rfl, rfl⟩ := i2.one j2
  clear j2
  go_wp2_with fail
  refine (h_same r2 _ _ _ A8.out B8.out (by have := i2.few; omega)).mono ?_
  rintro e w9 ⟨rfl, g9⟩
  have D9 : Grew w8 w9 := Grew.trans (by (repeat' (first | (with_reducible exact Grew.refl _) | (with_reducible assumption) | (with_reducible refine Grew.alloc ?_ _ _) | (with_reducible refine Grew.drew ?_) | (with_reducible refine Grew.drewN ?_ _) | (with_reducible refine Grew.setCell ?_ ?_ _) | go_size))) g9
  have G9 : Grew (w.alloc (.cells #[.int .i64 z.1, .int .i64 z.2] 24)) w9 := Grew.trans G8 D9
  have P9 := Lib.hid (P8.out.grown D9)
  have A9 := Lib.hid (A8.out.grown D9)
  have B9 := Lib.hid (B8.out.grown D9)
  clear P8 A8 B8
  clear g9 D9 G8
  clear x00 x01
  have x00 : w9.cell? ⟨w.heap.size, 0, none⟩ = some (.int .i64 z.1) := by rw [G9.cell (by simp only [World.size_alloc]; omega)]; simp [go_sem, *]
  have x01 : w9.cell? ⟨w.heap.size, 1, none⟩ = some (.int .i64 z.2) := by rw [G9.cell (by simp only [World.size_alloc]; omega)]; simp [go_sem, *]
  clear A9
  clear B9
  clear i2
  go_wp2_with fail
  refine (F.mir p v _ P9.out LP.out).mono ?_
  rintro e w10 ⟨v3, k3, r3, i3, rfl, s3, g10⟩
  have D10 : Grew w9 w10 := Grew.trans (by (repeat' (first | (with_reducible exact Grew.refl _) | (with_reducible assumption) | (with_reducible refine Grew.alloc ?_ _ _) | (with_reducible refine Grew.drew ?_) | (with_reducible refine Grew.drewN ?_ _) | (with_reducible refine Grew.setCell ?_ ?_ _) | go_size))) g10
  have G10 : Grew (w.alloc (.cells #[.int .i64 z.1, .int .i64 z.2] 24)) w10 := Grew.trans G9 D10
  have P10 := Lib.hid (P9.out.grown D10)
  clear P9
  clear g10 D10 G9
  clear x00 x01
  have x00 : w10.cell? ⟨w.heap.size, 0, none⟩ = some (.int .i64 z.1) := by rw [G10.cell (by simp only [World.size_alloc]; omega)]; simp [go_sem, *]
  have x01 : w10.cell? ⟨w.heap.size, 1, none⟩ = some (.int .i64 z.2) := by rw [G10.cell (by simp only [World.size_alloc]; omega)]; simp [go_sem, *]
  have A10 := Lib.hid s3
  clear s3
  go_wp2_with fail
  refine (ref.mir p v _ P10.out LP.out).mono ?_
  rintro e w11 ⟨u3, l3, t3, j3, rfl, s3, g11⟩
  have D11 : Grew w10 w11 := Grew.trans (by (repeat' (first | (with_reducible exact Grew.refl _) | (with_reducible assumption) | (with_reducible refine Grew.alloc ?_ _ _) | (with_reducible refine Grew.drew ?_) | (with_reducible refine Grew.drewN ?_ _) | (with_reducible refine Grew.setCell ?_ ?_ _) | go_size))) g11
  have G11 : Grew (w.alloc (.cells #[.int .i64 z.1, .int .i64 z.2] 24)) w11 := Grew.trans G10 D11
  have P11 := Lib.hid (P10.out.grown D11)
  have A11 := Lib.hid (A10.out.grown D11)
  clear P10 A10
  clear g11 D11 G10
  clear x00 x01
  have x00 : w11.cell? ⟨w.heap.size, 0, none⟩ = some (.int .i64 z.1) := by rw [G11.cell (by simp only [World.size_alloc]; omega)]; simp [go_sem, *]
  have x01 : w11.cell? ⟨w.heap.size, 1, none⟩ = some (.int .i64 z.2) := by rw [G11.cell (by simp only [World.size_alloc]; omega)]; simp [go_sem, *]
  have B11 := Lib.hid s3
  clear s3
  obtain ⟨rfl, rfl⟩ := i3.one j3
  clear j3
  go_wp2_with fail
  refine (h_same r3 _ _ _ A11.out B11.out (by have := i3.few; omega)).mono ?_
  rintro e w12 ⟨rfl, g12⟩
  have D12 : Grew w11 w12 := Grew.trans (by (repeat' (first | (with_reducible exact Grew.refl _) | (with_reducible assumption) | (with_reducible refine Grew.alloc ?_ _ _) | (with_reducible refine Grew.drew ?_) | (with_reducible refine Grew.drewN ?_ _) | (with_reducible refine Grew.setCell ?_ ?_ _) | go_size))) g12
  have G12 : Grew (w.alloc (.cells #[.int .i64 z.1, .int .i64 z.2] 24)) w12 := Grew.trans G11 D12
  have P12 := Lib.hid (P11.out.grown D12)
  have A12 := Lib.hid (A11.out.grown D12)
  have B12 := Lib.hid (B11.out.grown D12)
  clear P11 A11 B11
  clear g12 D12 G11
  clear x00 x01
  have x00 : w12.cell? ⟨w.heap.size, 0, none⟩ = some (.int .i64 z.1) := by rw [G12.cell (by simp only [World.size_alloc]; omega)]; simp [go_sem, *]
  have x01 : w12.cell? ⟨w.heap.size, 1, none⟩ = some (.int .i64 z.2) := by rw [G12.cell (by simp only [World.size_alloc]; omega)]; simp [go_sem, *]
  clear A12
  clear B12
  clear i3
  clear P12
  go_wp2_with fail
  refine (F.dsk n _).mono ?_
  rintro e w13 ⟨v4, k4, r4, i4, rfl, s4, g13⟩
  have D13 : Grew w12 w13 := Grew.trans (by (repeat' (first | (with_reducible exact Grew.refl _) | (with_reducible assumption) | (with_reducible refine Grew.alloc ?_ _ _) | (with_reducible refine Grew.drew ?_) | (with_reducible refine Grew.drewN ?_ _) | (with_reducible refine Grew.setCell ?_ ?_ _) | go_size))) g13
  have G13 : Grew (w.alloc (.cells #[.int .i64 z.1, .int .i64 z.2] 24)) w13 := Grew.trans G12 D13
  clear g13 D13 G12
  clear x00 x01
  have x00 : w13.cell? ⟨w.heap.size, 0, none⟩ = some (.int .i64 z.1) := by rw [G13.cell (by simp only [World.size_alloc]; omega)]; simp [go_sem, *]
  have x01 : w13.cell? ⟨w.heap.size, 1, none⟩ = some (.int .i64 z.2) := by rw [G13.cell (by simp only [World.size_alloc]; omega)]; simp [go_sem, *]
  have A13 := Lib.hid s4
  clear s4
  go_wp2_with fail
  refine (ref.dsk n _).mono ?_
  rintro e w14 ⟨u4, l4, t4, j4, rfl, s4, g14⟩
  have D14 : Grew w13 w14 := Grew.trans (by (repeat' (first | (with_reducible exact Grew.refl _) | (with_reducible assumption) | (with_reducible refine Grew.alloc ?_ _ _) | (with_reducible refine Grew.drew ?_) | (with_reducible refine Grew.drewN ?_ _) | (with_reducible refine Grew.setCell ?_ ?_ _) | go_size))) g14
  have G14 : Grew (w.alloc (.cells #[.int .i64 z.1, .int .i64 z.2] 24)) w14 := Grew.trans G13 D14
  have A14 := Lib.hid (A13.out.grown D14)
  clear A13
  clear g14 D14 G13
  clear x00 x01
  have x00 : w14.cell? ⟨w.heap.size, 0, none⟩ = some (.int .i64 z.1) := by rw [G14.cell (by simp only [World.size_alloc]; omega)]; simp [go_sem, *]
  have x01 : w14.cell? ⟨w.heap.size, 1, none⟩ = some (.int .i64 z.2) := by rw [G14.cell (by simp only [World.size_alloc]; omega)]; simp [go_sem, *]
  have B14 := Lib.hid s4
  clear s4
  obtain ⟨rfl, rfl⟩ := i4.one j4
  clear j4
  go_wp2_with fail
  refine (h_same r4 _ _ _ A14.out B14.out (by have := i4.few; omega)).mono ?_
  rintro e w15 ⟨rfl, g15⟩
  have D15 : Grew w14 w15 := Grew.trans (by (repeat' (first | (with_reducible exact Grew.refl _) | (with_reducible assumption) | (with_reducible refine Grew.alloc ?_ _ _) | (with_reducible refine Grew.drew ?_) | (with_reducible refine Grew.drewN ?_ _) | (with_reducible refine Grew.setCell ?_ ?_ _) | go_size))) g15
  have G15 : Grew (w.alloc (.cells #[.int .i64 z.1, .int .i64 z.2] 24)) w15 := Grew.trans G14 D15
  have A15 := Lib.hid (A14.out.grown D15)
  have B15 := Lib.hid (B14.out.grown D15)
  clear A14 B14
  clear g15 D15 G14
  clear x00 x01
  have x00 : w15.cell? ⟨w.heap.size, 0, none⟩ = some (.int .i64 z.1) := by rw [G15.cell (by simp only [World.size_alloc]; omega)]; simp [go_sem, *]
  have x01 : w15.cell? ⟨w.heap.size, 1, none⟩ = some (.int .i64 z.2) := by rw [G15.cell (by simp only [World.size_alloc]; omega)]; simp [go_sem, *]
  clear A15
  clear B15
  clear i4
  go_wp2_with fail
  go_ret
  exact ⟨rfl, Grew.trans (by (repeat' (first | (with_reducible exact Grew.refl _) | (with_reducible assumption) | (with_reducible refine Grew.alloc ?_ _ _) | (with_reducible refine Grew.drew ?_) | (with_reducible refine Grew.drewN ?_ _) | (with_reducible refine Grew.setCell ?_ ?_ _) | go_size))) G15⟩
set_option maxRecDepth 100000 in
set_option maxHeartbeats 4000000 in
theorem match_fewno (F : Code) (p q : List Pt) (z : Pt) (n : Int) (v u : Value) (w : World) (P : Hid (Sl w v p)) (Q : Hid (Sl w u q)) (_LP : Hid (p.length ≤ 9223372036854775807)) (_LQ : Hid (q.length ≤ 9223372036854775807)) (F1 : Hid (p.length ≤ 80)) (F2 : Hid (¬ q.length ≤ 80)) : Calls Try.prog 3 #[v, u, .agg #[.int .i64 z.1, .int .i64 z.2], .int .i64 n] w fun e w' => e = .returned (.bool true) ∧ Grew w w' := by
  have G0 : Grew (w.alloc (.cells #[.int .i64 z.1, .int .i64 z.2] 24)) (w.alloc (.cells #[.int .i64 z.1, .int .i64 z.2] 24)) := Grew.refl _
  have P0 := Lib.hid (P.out.grown (w' := (w.alloc (.cells #[.int .i64 z.1, .int .i64 z.2] 24))) (by (repeat' (first | (with_reducible exact Grew.refl _) | (with_reducible assumption) | (with_reducible refine Grew.alloc ?_ _ _) | (with_reducible refine Grew.drew ?_) | (with_reducible refine Grew.drewN ?_ _) | (with_reducible refine Grew.setCell ?_ ?_ _) | go_size))))
  have Q0 := Lib.hid (Q.out.grown (w' := (w.alloc (.cells #[.int .i64 z.1, .int .i64 z.2] 24))) (by (repeat' (first | (with_reducible exact Grew.refl _) | (with_reducible assumption) | (with_reducible refine Grew.alloc ?_ _ _) | (with_reducible refine Grew.drew ?_) | (with_reducible refine Grew.drewN ?_ _) | (with_reducible refine Grew.setCell ?_ ?_ _) | go_size))))
  go_enter Try.func3, Try.ntmps3
  go_wp2_with fail
  refine (head_true F _).mono ?_
  rintro e w1 ⟨rfl, g1⟩
  have D1 : Grew (w.alloc (.cells #[.int .i64 z.1, .int .i64 z.2] 24)) w1 := Grew.trans (by (repeat' (first | (with_reducible exact Grew.refl _) | (with_reducible assumption) | (with_reducible refine Grew.alloc ?_ _ _) | (with_reducible refine Grew.drew ?_) | (with_reducible refine Grew.drewN ?_ _) | (with_reducible refine Grew.setCell ?_ ?_ _) | go_size))) g1
  have G1 : Grew (w.alloc (.cells #[.int .i64 z.1, .int .i64 z.2] 24)) w1 := D1
  have P1 := Lib.hid (P0.out.grown D1)
  have Q1 := Lib.hid (Q0.out.grown D1)
  clear P0 Q0
  clear g1 D1 G0
  have x00 : w1.cell? ⟨w.heap.size, 0, none⟩ = some (.int .i64 z.1) := by rw [G1.cell (by simp only [World.size_alloc]; omega)]; simp [go_sem, *]
  have x01 : w1.cell? ⟨w.heap.size, 1, none⟩ = some (.int .i64 z.2) := by rw [G1.cell (by simp only [World.size_alloc]; omega)]; simp [go_sem, *]
  go_wp2_with fail
  refine (few_yes p v _ P1.out F1.out).mono ?_
  rintro e w2 ⟨rfl, g2⟩
  have D2 : Grew w1 w2 := Grew.trans (by (repeat' (first | (with_reducible exact Grew.refl _) | (with_reducible assumption) | (with_reducible refine Grew.alloc ?_ _ _) | (with_reducible refine Grew.drew ?_) | (with_reducible refine Grew.drewN ?_ _) | (with_reducible refine Grew.setCell ?_ ?_ _) | go_size))) g2
  have G2 : Grew (w.alloc (.cells #[.int .i64 z.1, .int .i64 z.2] 24)) w2 := Grew.trans G1 D2
  have P2 := Lib.hid (P1.out.grown D2)
  have Q2 := Lib.hid (Q1.out.grown D2)
  clear P1 Q1
  clear g2 D2 G1
  clear x00 x01
  have x00 : w2.cell? ⟨w.heap.size, 0, none⟩ = some (.int .i64 z.1) := by rw [G2.cell (by simp only [World.size_alloc]; omega)]; simp [go_sem, *]
  have x01 : w2.cell? ⟨w.heap.size, 1, none⟩ = some (.int .i64 z.2) := by rw [G2.cell (by simp only [World.size_alloc]; omega)]; simp [go_sem, *]
  go_wp2_with fail
  refine (few_no q u _ Q2.out F2.out).mono ?_
  rintro e w3 ⟨rfl, g3⟩
  have D3 : Grew w2 w3 := Grew.trans (by (repeat' (first | (with_reducible exact Grew.refl _) | (with_reducible assumption) | (with_reducible refine Grew.alloc ?_ _ _) | (with_reducible refine Grew.drew ?_) | (with_reducible refine Grew.drewN ?_ _) | (with_reducible refine Grew.setCell ?_ ?_ _) | go_size))) g3
  have G3 : Grew (w.alloc (.cells #[.int .i64 z.1, .int .i64 z.2] 24)) w3 := Grew.trans G2 D3
  have P3 := Lib.hid (P2.out.grown D3)
  have Q3 := Lib.hid (Q2.out.grown D3)
  clear P2 Q2
  clear g3 D3 G2
  clear x00 x01
  have x00 : w3.cell? ⟨w.heap.size, 0, none⟩ = some (.int .i64 z.1) := by rw [G3.cell (by simp only [World.size_alloc]; omega)]; simp [go_sem, *]
  have x01 : w3.cell? ⟨w.heap.size, 1, none⟩ = some (.int .i64 z.2) := by rw [G3.cell (by simp only [World.size_alloc]; omega)]; simp [go_sem, *]
  go_wp2_with fail
  go_ret
  exact ⟨rfl, Grew.trans (by (repeat' (first | (with_reducible exact Grew.refl _) | (with_reducible assumption) | (with_reducible refine Grew.alloc ?_ _ _) | (with_reducible refine Grew.drew ?_) | (with_reducible refine Grew.drewN ?_ _) | (with_reducible refine Grew.setCell ?_ ?_ _) | go_size))) G3⟩
set_option maxRecDepth 100000 in
set_option maxHeartbeats 4000000 in
theorem match_no (F : Code) (p q : List Pt) (z : Pt) (n : Int) (v u : Value) (w : World) (P : Hid (Sl w v p)) (Q : Hid (Sl w u q)) (_LP : Hid (p.length ≤ 9223372036854775807)) (_LQ : Hid (q.length ≤ 9223372036854775807)) (F1 : Hid (¬ p.length ≤ 80)) : Calls Try.prog 3 #[v, u, .agg #[.int .i64 z.1, .int .i64 z.2], .int .i64 n] w fun e w' => e = .returned (.bool true) ∧ Grew w w' := by
  have G0 : Grew (w.alloc (.cells #[.int .i64 z.1, .int .i64 z.2] 24)) (w.alloc (.cells #[.int .i64 z.1, .int .i64 z.2] 24)) := Grew.refl _
  have P0 := Lib.hid (P.out.grown (w' := (w.alloc (.cells #[.int .i64 z.1, .int .i64 z.2] 24))) (by (repeat' (first | (with_reducible exact Grew.refl _) | (with_reducible assumption) | (with_reducible refine Grew.alloc ?_ _ _) | (with_reducible refine Grew.drew ?_) | (with_reducible refine Grew.drewN ?_ _) | (with_reducible refine Grew.setCell ?_ ?_ _) | go_size))))
  have Q0 := Lib.hid (Q.out.grown (w' := (w.alloc (.cells #[.int .i64 z.1, .int .i64 z.2] 24))) (by (repeat' (first | (with_reducible exact Grew.refl _) | (with_reducible assumption) | (with_reducible refine Grew.alloc ?_ _ _) | (with_reducible refine Grew.drew ?_) | (with_reducible refine Grew.drewN ?_ _) | (with_reducible refine Grew.setCell ?_ ?_ _) | go_size))))
  go_enter Try.func3, Try.ntmps3
  go_wp2_with fail
  refine (head_true F _).mono ?_
  rintro e w1 ⟨rfl, g1⟩
  have D1 : Grew (w.alloc (.cells #[.int .i64 z.1, .int .i64 z.2] 24)) w1 := Grew.trans (by (repeat' (first | (with_reducible exact Grew.refl _) | (with_reducible assumption) | (with_reducible refine Grew.alloc ?_ _ _) | (with_reducible refine Grew.drew ?_) | (with_reducible refine Grew.drewN ?_ _) | (with_reducible refine Grew.setCell ?_ ?_ _) | go_size))) g1
  have G1 : Grew (w.alloc (.cells #[.int .i64 z.1, .int .i64 z.2] 24)) w1 := D1
  have P1 := Lib.hid (P0.out.grown D1)
  have Q1 := Lib.hid (Q0.out.grown D1)
  clear P0 Q0
  clear g1 D1 G0
  have x00 : w1.cell? ⟨w.heap.size, 0, none⟩ = some (.int .i64 z.1) := by rw [G1.cell (by simp only [World.size_alloc]; omega)]; simp [go_sem, *]
  have x01 : w1.cell? ⟨w.heap.size, 1, none⟩ = some (.int .i64 z.2) := by rw [G1.cell (by simp only [World.size_alloc]; omega)]; simp [go_sem, *]
  go_wp2_with fail
  refine (few_no p v _ P1.out F1.out).mono ?_
  rintro e w2 ⟨rfl, g2⟩
  have D2 : Grew w1 w2 := Grew.trans (by (repeat' (first | (with_reducible exact Grew.refl _) | (with_reducible assumption) | (with_reducible refine Grew.alloc ?_ _ _) | (with_reducible refine Grew.drew ?_) | (with_reducible refine Grew.drewN ?_ _) | (with_reducible refine Grew.setCell ?_ ?_ _) | go_size))) g2
  have G2 : Grew (w.alloc (.cells #[.int .i64 z.1, .int .i64 z.2] 24)) w2 := Grew.trans G1 D2
  have P2 := Lib.hid (P1.out.grown D2)
  have Q2 := Lib.hid (Q1.out.grown D2)
  clear P1 Q1
  clear g2 D2 G1
  clear x00 x01
  have x00 : w2.cell? ⟨w.heap.size, 0, none⟩ = some (.int .i64 z.1) := by rw [G2.cell (by simp only [World.size_alloc]; omega)]; simp [go_sem, *]
  have x01 : w2.cell? ⟨w.heap.size, 1, none⟩ = some (.int .i64 z.2) := by rw [G2.cell (by simp only [World.size_alloc]; omega)]; simp [go_sem, *]
  go_wp2_with fail
  go_ret
  exact ⟨rfl, Grew.trans (by (repeat' (first | (with_reducible exact Grew.refl _) | (with_reducible assumption) | (with_reducible refine Grew.alloc ?_ _ _) | (with_reducible refine Grew.drew ?_) | (with_reducible refine Grew.drewN ?_ _) | (with_reducible refine Grew.setCell ?_ ?_ _) | go_size))) G2⟩
theorem match_true (F : Code) (p q : List Pt) (z : Pt) (n : Int) (v u : Value) (w : World) (hs : Sl w v p) (hu : Sl w u q) (h1 : p.length ≤ 9223372036854775807) (h2 : q.length ≤ 9223372036854775807) : Calls Try.prog 3 #[v, u, .agg #[.int .i64 z.1, .int .i64 z.2], .int .i64 n] w fun e w' => e = .returned (.bool true) ∧ Grew w w' := by
  by_cases f1 : p.length ≤ 80
  · by_cases f2 : q.length ≤ 80
    · exact match_few F p q z n v u w (Lib.hid hs) (Lib.hid hu) (Lib.hid h1) (Lib.hid h2) (Lib.hid f1) (Lib.hid f2)
    · exact match_fewno F p q z n v u w (Lib.hid hs) (Lib.hid hu) (Lib.hid h1) (Lib.hid h2) (Lib.hid f1) (Lib.hid f2)
  · exact match_no F p q z n v u w (Lib.hid hs) (Lib.hid hu) (Lib.hid h1) (Lib.hid h2) (Lib.hid f1)
end Mk
end Go.Proofs.Yteglefjnbkocgaa
