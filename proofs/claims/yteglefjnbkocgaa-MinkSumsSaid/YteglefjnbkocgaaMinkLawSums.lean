/-
  The law MinkSums, under what packages hull and mink owe.
-/
import Derived.Test.YteglefjnbkocgaaMinkUse
namespace Go.Proofs.Yteglefjnbkocgaa
open Go.RowKit Hl
namespace Mk
set_option maxRecDepth 100000 in
set_option maxHeartbeats 4000000 in
theorem sums_1 (_K : Hl.Code) (F : Code) (p q : List Pt) (x y : Pt) (v u : Value) (w : World) (P : Hid (Sl w v p)) (Q : Hid (Sl w u q)) (LP : Hid (p.length ≤ 9223372036854775807)) (LQ : Hid (q.length ≤ 9223372036854775807)) (VN : Hid (¬ (Vl p ∧ Vl q))) : Calls Try.prog 4 #[v, u, .agg #[.int .i64 x.1, .int .i64 x.2], .agg #[.int .i64 y.1, .int .i64 y.2]] w fun e w' => e = .returned (.bool true) ∧ Grew w w' := by
  have G0 : Grew ((w.alloc (.cells #[.int .i64 x.1, .int .i64 x.2] 24)).alloc (.cells #[.int .i64 y.1, .int .i64 y.2] 24)) ((w.alloc (.cells #[.int .i64 x.1, .int .i64 x.2] 24)).alloc (.cells #[.int .i64 y.1, .int .i64 y.2] 24)) := Grew.refl _
  have P0 := Lib.hid (P.out.grown (w' := ((w.alloc (.cells #[.int .i64 x.1, .int .i64 x.2] 24)).alloc (.cells #[.int .i64 y.1, .int .i64 y.2] 24))) (by (repeat' (first | (with_reducible exact Grew.refl _) | (with_reducible assumption) | (with_reducible refine Grew.alloc ?_ _ _) | (with_reducible refine Grew.drew ?_) | (with_reducible refine Grew.drewN ?_ _) | (with_reducible refine Grew.setCell ?_ ?_ _) | go_size))))
  have Q0 := Lib.hid (Q.out.grown (w' := ((w.alloc (.cells #[.int .i64 x.1, .int .i64 x.2] 24)).alloc (.cells #[.int .i64 y.1, .int .i64 y.2] 24))) (by (repeat' (first | (with_reducible exact Grew.refl _) | (with_reducible assumption) | (with_reducible refine Grew.alloc ?_ _ _) | (with_reducible refine Grew.drew ?_) | (with_reducible refine Grew.drewN ?_ _) | (with_reducible refine Grew.setCell ?_ ?_ _) | go_size))))
  go_enter Try.func4, Try.ntmps4
  go_wp2_with fail
  refine (head_true F _).mono ?_
  rintro e w1 ⟨rfl, g1⟩
  have D1 : Grew ((w.alloc (.cells #[.int .i64 x.1, .int .i64 x.2] 24)).alloc (.cells #[.int .i64 y.1, .int .i64 y.2] 24)) w1 := Grew.trans (by (repeat' (first | (with_reducible exact Grew.refl _) | (with_reducible assumption) | (with_reducible refine Grew.alloc ?_ _ _) | (with_reducible refine Grew.drew ?_) | (with_reducible refine Grew.drewN ?_ _) | (with_reducible refine Grew.setCell ?_ ?_ _) | go_size))) g1
  have G1 : Grew ((w.alloc (.cells #[.int .i64 x.1, .int .i64 x.2] 24)).alloc (.cells #[.int .i64 y.1, .int .i64 y.2] 24)) w1 := D1
  have P1 := Lib.hid (P0.out.grown D1)
  have Q1 := Lib.hid (Q0.out.grown D1)
  clear P0 Q0
  clear g1 D1 G0
  have x00 : w1.cell? ⟨w.heap.size, 0, none⟩ = some (.int .i64 x.1) := by rw [G1.cell (by simp only [World.size_alloc]; omega)]; simp [go_sem, *]
  have x01 : w1.cell? ⟨w.heap.size, 1, none⟩ = some (.int .i64 x.2) := by rw [G1.cell (by simp only [World.size_alloc]; omega)]; simp [go_sem, *]
  have x10 : w1.cell? ⟨w.heap.size + 1, 0, none⟩ = some (.int .i64 y.1) := by rw [G1.cell (by simp only [World.size_alloc]; omega)]; simp [go_sem, *]
  have x11 : w1.cell? ⟨w.heap.size + 1, 1, none⟩ = some (.int .i64 y.2) := by rw [G1.cell (by simp only [World.size_alloc]; omega)]; simp [go_sem, *]
  go_wp2_with fail
  refine (use_no p q v u _ P1.out Q1.out LP.out LQ.out VN.out).mono ?_
  rintro e w2 ⟨rfl, g2⟩
  have D2 : Grew w1 w2 := Grew.trans (by (repeat' (first | (with_reducible exact Grew.refl _) | (with_reducible assumption) | (with_reducible refine Grew.alloc ?_ _ _) | (with_reducible refine Grew.drew ?_) | (with_reducible refine Grew.drewN ?_ _) | (with_reducible refine Grew.setCell ?_ ?_ _) | go_size))) g2
  have G2 : Grew ((w.alloc (.cells #[.int .i64 x.1, .int .i64 x.2] 24)).alloc (.cells #[.int .i64 y.1, .int .i64 y.2] 24)) w2 := Grew.trans G1 D2
  have P2 := Lib.hid (P1.out.grown D2)
  have Q2 := Lib.hid (Q1.out.grown D2)
  clear P1 Q1
  clear g2 D2 G1
  clear x00 x01 x10 x11
  have x00 : w2.cell? ⟨w.heap.size, 0, none⟩ = some (.int .i64 x.1) := by rw [G2.cell (by simp only [World.size_alloc]; omega)]; simp [go_sem, *]
  have x01 : w2.cell? ⟨w.heap.size, 1, none⟩ = some (.int .i64 x.2) := by rw [G2.cell (by simp only [World.size_alloc]; omega)]; simp [go_sem, *]
  have x10 : w2.cell? ⟨w.heap.size + 1, 0, none⟩ = some (.int .i64 y.1) := by rw [G2.cell (by simp only [World.size_alloc]; omega)]; simp [go_sem, *]
  have x11 : w2.cell? ⟨w.heap.size + 1, 1, none⟩ = some (.int .i64 y.2) := by rw [G2.cell (by simp only [World.size_alloc]; omega)]; simp [go_sem, *]
  go_wp2_with fail
  go_ret
  exact ⟨rfl, Grew.trans (by (repeat' (first | (with_reducible exact Grew.refl _) | (with_reducible assumption) | (with_reducible refine Grew.alloc ?_ _ _) | (with_reducible refine Grew.drew ?_) | (with_reducible refine Grew.drewN ?_ _) | (with_reducible refine Grew.setCell ?_ ?_ _) | go_size))) G2⟩
set_option maxRecDepth 100000 in
set_option maxHeartbeats 4000000 in
theorem sums_2 (_K : Hl.Code) (F : Code) (p q : List Pt) (x y : Pt) (v u : Value) (w : World) (P : Hid (Sl w v p)) (Q : Hid (Sl w u q)) (LP : Hid (p.length ≤ 9223372036854775807)) (LQ : Hid (q.length ≤ 9223372036854775807)) (VP : Hid (Vl p)) (VQ : Hid (Vl q)) (XN : Hid (¬ Plc x)) : Calls Try.prog 4 #[v, u, .agg #[.int .i64 x.1, .int .i64 x.2], .agg #[.int .i64 y.1, .int .i64 y.2]] w fun e w' => e = .returned (.bool true) ∧ Grew w w' := by
  have G0 : Grew ((w.alloc (.cells #[.int .i64 x.1, .int .i64 x.2] 24)).alloc (.cells #[.int .i64 y.1, .int .i64 y.2] 24)) ((w.alloc (.cells #[.int .i64 x.1, .int .i64 x.2] 24)).alloc (.cells #[.int .i64 y.1, .int .i64 y.2] 24)) := Grew.refl _
  have P0 := Lib.hid (P.out.grown (w' := ((w.alloc (.cells #[.int .i64 x.1, .int .i64 x.2] 24)).alloc (.cells #[.int .i64 y.1, .int .i64 y.2] 24))) (by (repeat' (first | (with_reducible exact Grew.refl _) | (with_reducible assumption) | (with_reducible refine Grew.alloc ?_ _ _) | (with_reducible refine Grew.drew ?_) | (with_reducible refine Grew.drewN ?_ _) | (with_reducible refine Grew.setCell ?_ ?_ _) | go_size))))
  have Q0 := Lib.hid (Q.out.grown (w' := ((w.alloc (.cells #[.int .i64 x.1, .int .i64 x.2] 24)).alloc (.cells #[.int .i64 y.1, .int .i64 y.2] 24))) (by (repeat' (first | (with_reducible exact Grew.refl _) | (with_reducible assumption) | (with_reducible refine Grew.alloc ?_ _ _) | (with_reducible refine Grew.drew ?_) | (with_reducible refine Grew.drewN ?_ _) | (with_reducible refine Grew.setCell ?_ ?_ _) | go_size))))
  go_enter Try.func4, Try.ntmps4
  go_wp2_with fail
  refine (head_true F _).mono ?_
  rintro e w1 ⟨rfl, g1⟩
  have D1 : Grew ((w.alloc (.cells #[.int .i64 x.1, .int .i64 x.2] 24)).alloc (.cells #[.int .i64 y.1, .int .i64 y.2] 24)) w1 := Grew.trans (by (repeat' (first | (with_reducible exact Grew.refl _) | (with_reducible assumption) | (with_reducible refine Grew.alloc ?_ _ _) | (with_reducible refine Grew.drew ?_) | (with_reducible refine Grew.drewN ?_ _) | (with_reducible refine Grew.setCell ?_ ?_ _) | go_size))) g1
  have G1 : Grew ((w.alloc (.cells #[.int .i64 x.1, .int .i64 x.2] 24)).alloc (.cells #[.int .i64 y.1, .int .i64 y.2] 24)) w1 := D1
  have P1 := Lib.hid (P0.out.grown D1)
  have Q1 := Lib.hid (Q0.out.grown D1)
  clear P0 Q0
  clear g1 D1 G0
  have x00 : w1.cell? ⟨w.heap.size, 0, none⟩ = some (.int .i64 x.1) := by rw [G1.cell (by simp only [World.size_alloc]; omega)]; simp [go_sem, *]
  have x01 : w1.cell? ⟨w.heap.size, 1, none⟩ = some (.int .i64 x.2) := by rw [G1.cell (by simp only [World.size_alloc]; omega)]; simp [go_sem, *]
  have x10 : w1.cell? ⟨w.heap.size + 1, 0, none⟩ = some (.int .i64 y.1) := by rw [G1.cell (by simp only [World.size_alloc]; omega)]; simp [go_sem, *]
  have x11 : w1.cell? ⟨w.heap.size + 1, 1, none⟩ = some (.int .i64 y.2) := by rw [G1.cell (by simp only [World.size_alloc]; omega)]; simp [go_sem, *]
  go_wp2_with fail
  refine (use_yes p q v u _ P1.out Q1.out LP.out LQ.out VP.out VQ.out).mono ?_
  rintro e w2 ⟨rfl, g2⟩
  have D2 : Grew w1 w2 := Grew.trans (by (repeat' (first | (with_reducible exact Grew.refl _) | (with_reducible assumption) | (with_reducible refine Grew.alloc ?_ _ _) | (with_reducible refine Grew.drew ?_) | (with_reducible refine Grew.drewN ?_ _) | (with_reducible refine Grew.setCell ?_ ?_ _) | go_size))) g2
  have G2 : Grew ((w.alloc (.cells #[.int .i64 x.1, .int .i64 x.2] 24)).alloc (.cells #[.int .i64 y.1, .int .i64 y.2] 24)) w2 := Grew.trans G1 D2
  have P2 := Lib.hid (P1.out.grown D2)
  have Q2 := Lib.hid (Q1.out.grown D2)
  clear P1 Q1
  clear g2 D2 G1
  clear x00 x01 x10 x11
  have x00 : w2.cell? ⟨w.heap.size, 0, none⟩ = some (.int .i64 x.1) := by rw [G2.cell (by simp only [World.size_alloc]; omega)]; simp [go_sem, *]
  have x01 : w2.cell? ⟨w.heap.size, 1, none⟩ = some (.int .i64 x.2) := by rw [G2.cell (by simp only [World.size_alloc]; omega)]; simp [go_sem, *]
  have x10 : w2.cell? ⟨w.heap.size + 1, 0, none⟩ = some (.int .i64 y.1) := by rw [G2.cell (by simp only [World.size_alloc]; omega)]; simp [go_sem, *]
  have x11 : w2.cell? ⟨w.heap.size + 1, 1, none⟩ = some (.int .i64 y.2) := by rw [G2.cell (by simp only [World.size_alloc]; omega)]; simp [go_sem, *]
  go_wp2_with fail
  refine (rplace_no x _ XN.out).mono ?_
  rintro e w3 ⟨rfl, g3⟩
  have D3 : Grew w2 w3 := Grew.trans (by (repeat' (first | (with_reducible exact Grew.refl _) | (with_reducible assumption) | (with_reducible refine Grew.alloc ?_ _ _) | (with_reducible refine Grew.drew ?_) | (with_reducible refine Grew.drewN ?_ _) | (with_reducible refine Grew.setCell ?_ ?_ _) | go_size))) g3
  have G3 : Grew ((w.alloc (.cells #[.int .i64 x.1, .int .i64 x.2] 24)).alloc (.cells #[.int .i64 y.1, .int .i64 y.2] 24)) w3 := Grew.trans G2 D3
  have P3 := Lib.hid (P2.out.grown D3)
  have Q3 := Lib.hid (Q2.out.grown D3)
  clear P2 Q2
  clear g3 D3 G2
  clear x00 x01 x10 x11
  have x00 : w3.cell? ⟨w.heap.size, 0, none⟩ = some (.int .i64 x.1) := by rw [G3.cell (by simp only [World.size_alloc]; omega)]; simp [go_sem, *]
  have x01 : w3.cell? ⟨w.heap.size, 1, none⟩ = some (.int .i64 x.2) := by rw [G3.cell (by simp only [World.size_alloc]; omega)]; simp [go_sem, *]
  have x10 : w3.cell? ⟨w.heap.size + 1, 0, none⟩ = some (.int .i64 y.1) := by rw [G3.cell (by simp only [World.size_alloc]; omega)]; simp [go_sem, *]
  have x11 : w3.cell? ⟨w.heap.size + 1, 1, none⟩ = some (.int .i64 y.2) := by rw [G3.cell (by simp only [World.size_alloc]; omega)]; simp [go_sem, *]
  go_wp2_with fail
  go_ret
  exact ⟨rfl, Grew.trans (by (repeat' (first | (with_reducible exact Grew.refl _) | (with_reducible assumption) | (with_reducible refine Grew.alloc ?_ _ _) | (with_reducible refine Grew.drew ?_) | (with_reducible refine Grew.drewN ?_ _) | (with_reducible refine Grew.setCell ?_ ?_ _) | go_size))) G3⟩
set_option maxRecDepth 100000 in
set_option maxHeartbeats 4000000 in
theorem sums_3 (_K : Hl.Code) (F : Code) (p q : List Pt) (x y : Pt) (v u : Value) (w : World) (P : Hid (Sl w v p)) (Q : Hid (Sl w u q)) (LP : Hid (p.length ≤ 9223372036854775807)) (LQ : Hid (q.length ≤ 9223372036854775807)) (VP : Hid (Vl p)) (VQ : Hid (Vl q))(X : Hid (Plc x)) (YN : Hid (¬ Plc y)) : Calls Try.prog 4 #[v, u, .agg #[.int .i64 x.1, .int .i64 x.2], .agg #[.int .i64 y.1, .int .i64 y.2]] w fun e w' => e = .returned (.bool true) ∧ Grew w w' := by
  have G0 : Grew ((w.alloc (.cells #[.int .i64 x.1, .int .i64 x.2] 24)).alloc (.cells #[.int .i64 y.1, .int .i64 y.2] 24)) ((w.alloc (.cells #[.int .i64 x.1, .int .i64 x.2] 24)).alloc (.cells #[.int .i64 y.1, .int .i64 y.2] 24)) := Grew.refl _
  have P0 := Lib.hid (P.out.grown (w' := ((w.alloc (.cells #[.int .i64 x.1, .int .i64 x.2] 24)).alloc (.cells #[.int .i64 y.1, .int .i64 y.2] 24))) (by (repeat' (first | (with_reducible exact Grew.refl _) | (with_reducible assumption) | (with_reducible refine Grew.alloc ?_ _ _) | (with_reducible refine Grew.drew ?_) | (with_reducible refine Grew.drewN ?_ _) | (with_reducible refine Grew.setCell ?_ ?_ _) | go_size))))
  have Q0 := Lib.hid (Q.out.grown (w' := ((w.alloc (.cells #[.int .i64 x.1, .int .i64 x.2] 24)).alloc (.cells #[.int .i64 y.1, .int .i64 y.2] 24))) (by (repeat' (first | (with_reducible exact Grew.refl _) | (with_reducible assumption) | (with_reducible refine Grew.alloc ?_ _ _) | (with_reducible refine Grew.drew ?_) | (with_reducible refine Grew.drewN ?_ _) | (with_reducible refine Grew.setCell ?_ ?_ _) | go_size))))
  go_enter Try.func4, Try.ntmps4
  go_wp2_with fail
  refine (head_true F _).mono ?_
  rintro e w1 ⟨rfl, g1⟩
  have D1 : Grew ((w.alloc (.cells #[.int .i64 x.1, .int .i64 x.2] 24)).alloc (.cells #[.int .i64 y.1, .int .i64 y.2] 24)) w1 := Grew.trans (by (repeat' (first | (with_reducible exact Grew.refl _) | (with_reducible assumption) | (with_reducible refine Grew.alloc ?_ _ _) | (with_reducible refine Grew.drew ?_) | (with_reducible refine Grew.drewN ?_ _) | (with_reducible refine Grew.setCell ?_ ?_ _) | go_size))) g1
  have G1 : Grew ((w.alloc (.cells #[.int .i64 x.1, .int .i64 x.2] 24)).alloc (.cells #[.int .i64 y.1, .int .i64 y.2] 24)) w1 := D1
  have P1 := Lib.hid (P0.out.grown D1)
  have Q1 := Lib.hid (Q0.out.grown D1)
  clear P0 Q0
  clear g1 D1 G0
  have x00 : w1.cell? ⟨w.heap.size, 0, none⟩ = some (.int .i64 x.1) := by rw [G1.cell (by simp only [World.size_alloc]; omega)]; simp [go_sem, *]
  have x01 : w1.cell? ⟨w.heap.size, 1, none⟩ = some (.int .i64 x.2) := by rw [G1.cell (by simp only [World.size_alloc]; omega)]; simp [go_sem, *]
  have x10 : w1.cell? ⟨w.heap.size + 1, 0, none⟩ = some (.int .i64 y.1) := by rw [G1.cell (by simp only [World.size_alloc]; omega)]; simp [go_sem, *]
  have x11 : w1.cell? ⟨w.heap.size + 1, 1, none⟩ = some (.int .i64 y.2) := by rw [G1.cell (by simp only [World.size_alloc]; omega)]; simp [go_sem, *]
  go_wp2_with fail
  refine (use_yes p q v u _ P1.out Q1.out LP.out LQ.out VP.out VQ.out).mono ?_
  rintro e w2 ⟨rfl, g2⟩
  have D2 : Grew w1 w2 := Grew.trans (by (repeat' (first | (with_reducible exact Grew.refl _) | (with_reducible assumption) | (with_reducible refine Grew.alloc ?_ _ _) | (with_reducible refine Grew.drew ?_) | (with_reducible refine Grew.drewN ?_ _) | (with_reducible refine Grew.setCell ?_ ?_ _) | go_size))) g2
  have G2 : Grew ((w.alloc (.cells #[.int .i64 x.1, .int .i64 x.2] 24)).alloc (.cells #[.int .i64 y.1, .int .i64 y.2] 24)) w2 := Grew.trans G1 D2
  have P2 := Lib.hid (P1.out.grown D2)
  have Q2 := Lib.hid (Q1.out.grown D2)
  clear P1 Q1
  clear g2 D2 G1
  clear x00 x01 x10 x11
  have x00 : w2.cell? ⟨w.heap.size, 0, none⟩ = some (.int .i64 x.1) := by rw [G2.cell (by simp only [World.size_alloc]; omega)]; simp [go_sem, *]
  have x01 : w2.cell? ⟨w.heap.size, 1, none⟩ = some (.int .i64 x.2) := by rw [G2.cell (by simp only [World.size_alloc]; omega)]; simp [go_sem, *]
  have x10 : w2.cell? ⟨w.heap.size + 1, 0, none⟩ = some (.int .i64 y.1) := by rw [G2.cell (by simp only [World.size_alloc]; omega)]; simp [go_sem, *]
  have x11 : w2.cell? ⟨w.heap.size + 1, 1, none⟩ = some (.int .i64 y.2) := by rw [G2.cell (by simp only [World.size_alloc]; omega)]; simp [go_sem, *]
  go_wp2_with fail
  refine (rplace_yes x _ X.out).mono ?_
  rintro e w3 ⟨rfl, g3⟩
  have D3 : Grew w2 w3 := Grew.trans (by (repeat' (first | (with_reducible exact Grew.refl _) | (with_reducible assumption) | (with_reducible refine Grew.alloc ?_ _ _) | (with_reducible refine Grew.drew ?_) | (with_reducible refine Grew.drewN ?_ _) | (with_reducible refine Grew.setCell ?_ ?_ _) | go_size))) g3
  have G3 : Grew ((w.alloc (.cells #[.int .i64 x.1, .int .i64 x.2] 24)).alloc (.cells #[.int .i64 y.1, .int .i64 y.2] 24)) w3 := Grew.trans G2 D3
  have P3 := Lib.hid (P2.out.grown D3)
  have Q3 := Lib.hid (Q2.out.grown D3)
  clear P2 Q2
  clear g3 D3 G2
  clear x00 x01 x10 x11
  have x00 : w3.cell? ⟨w.heap.size, 0, none⟩ = some (.int .i64 x.1) := by rw [G3.cell (by simp only [World.size_alloc]; omega)]; simp [go_sem, *]
  have x01 : w3.cell? ⟨w.heap.size, 1, none⟩ = some (.int .i64 x.2) := by rw [G3.cell (by simp only [World.size_alloc]; omega)]; simp [go_sem, *]
  have x10 : w3.cell? ⟨w.heap.size + 1, 0, none⟩ = some (.int .i64 y.1) := by rw [G3.cell (by simp only [World.size_alloc]; omega)]; simp [go_sem, *]
  have x11 : w3.cell? ⟨w.heap.size + 1, 1, none⟩ = some (.int .i64 y.2) := by rw [G3.cell (by simp only [World.size_alloc]; omega)]; simp [go_sem, *]
  go_wp2_with fail
  refine (rplace_no y _ YN.out).mono ?_
  rintro e w4 ⟨rfl, g4⟩
  have D4 : Grew w3 w4 := Grew.trans (by (repeat' (first | (with_reducible exact Grew.refl _) | (with_reducible assumption) | (with_reducible refine Grew.alloc ?_ _ _) | (with_reducible refine Grew.drew ?_) | (with_reducible refine Grew.drewN ?_ _) | (with_reducible refine Grew.setCell ?_ ?_ _) | go_size))) g4
  have G4 : Grew ((w.alloc (.cells #[.int .i64 x.1, .int .i64 x.2] 24)).alloc (.cells #[.int .i64 y.1, .int .i64 y.2] 24)) w4 := Grew.trans G3 D4
  have P4 := Lib.hid (P3.out.grown D4)
  have Q4 := Lib.hid (Q3.out.grown D4)
  clear P3 Q3
  clear g4 D4 G3
  clear x00 x01 x10 x11
  have x00 : w4.cell? ⟨w.heap.size, 0, none⟩ = some (.int .i64 x.1) := by rw [G4.cell (by simp only [World.size_alloc]; omega)]; simp [go_sem, *]
  have x01 : w4.cell? ⟨w.heap.size, 1, none⟩ = some (.int .i64 x.2) := by rw [G4.cell (by simp only [World.size_alloc]; omega)]; simp [go_sem, *]
  have x10 : w4.cell? ⟨w.heap.size + 1, 0, none⟩ = some (.int .i64 y.1) := by rw [G4.cell (by simp only [World.size_alloc]; omega)]; simp [go_sem, *]
  have x11 : w4.cell? ⟨w.heap.size + 1, 1, none⟩ = some (.int .i64 y.2) := by rw [G4.cell (by simp only [World.size_alloc]; omega)]; simp [go_sem, *]
  go_wp2_with fail
  go_ret
  exact ⟨rfl, Grew.trans (by (repeat' (first | (with_reducible exact Grew.refl _) | (with_reducible assumption) | (with_reducible refine Grew.alloc ?_ _ _) | (with_reducible refine Grew.drew ?_) | (with_reducible refine Grew.drewN ?_ _) | (with_reducible refine Grew.setCell ?_ ?_ _) | go_size))) G4⟩
set_option maxRecDepth 100000 in
set_option maxHeartbeats 4000000 in
theorem sums_4 (_K : Hl.Code) (F : Code) (p q : List Pt) (x y : Pt) (v u : Value) (w : World) (P : Hid (Sl w v p)) (Q : Hid (Sl w u q)) (LP : Hid (p.length ≤ 9223372036854775807)) (LQ : Hid (q.length ≤ 9223372036854775807)) (VP : Hid (Vl p)) (VQ : Hid (Vl q))(X : Hid (Plc x))(Y : Hid (Plc y)) (HX : Hid (¬ Hs p x)) : Calls Try.prog 4 #[v, u, .agg #[.int .i64 x.1, .int .i64 x.2], .agg #[.int .i64 y.1, .int .i64 y.2]] w fun e w' => e = .returned (.bool true) ∧ Grew w w' := by
  have G0 : Grew ((w.alloc (.cells #[.int .i64 x.1, .int .i64 x.2] 24)).alloc (.cells #[.int .i64 y.1, .int .i64 y.2] 24)) ((w.alloc (.cells #[.int .i64 x.1, .int .i64 x.2] 24)).alloc (.cells #[.int .i64 y.1, .int .i64 y.2] 24)) := Grew.refl _
  have P0 := Lib.hid (P.out.grown (w' := ((w.alloc (.cells #[.int .i64 x.1, .int .i64 x.2] 24)).alloc (.cells #[.int .i64 y.1, .int .i64 y.2] 24))) (by (repeat' (first | (with_reducible exact Grew.refl _) | (with_reducible assumption) | (with_reducible refine Grew.alloc ?_ _ _) | (with_reducible refine Grew.drew ?_) | (with_reducible refine Grew.drewN ?_ _) | (with_reducible refine Grew.setCell ?_ ?_ _) | go_size))))
  have Q0 := Lib.hid (Q.out.grown (w' := ((w.alloc (.cells #[.int .i64 x.1, .int .i64 x.2] 24)).alloc (.cells #[.int .i64 y.1, .int .i64 y.2] 24))) (by (repeat' (first | (with_reducible exact Grew.refl _) | (with_reducible assumption) | (with_reducible refine Grew.alloc ?_ _ _) | (with_reducible refine Grew.drew ?_) | (with_reducible refine Grew.drewN ?_ _) | (with_reducible refine Grew.setCell ?_ ?_ _) | go_size))))
  go_enter Try.func4, Try.ntmps4
  go_wp2_with fail
  refine (head_true F _).mono ?_
  rintro e w1 ⟨rfl, g1⟩
  have D1 : Grew ((w.alloc (.cells #[.int .i64 x.1, .int .i64 x.2] 24)).alloc (.cells #[.int .i64 y.1, .int .i64 y.2] 24)) w1 := Grew.trans (by (repeat' (first | (with_reducible exact Grew.refl _) | (with_reducible assumption) | (with_reducible refine Grew.alloc ?_ _ _) | (with_reducible refine Grew.drew ?_) | (with_reducible refine Grew.drewN ?_ _) | (with_reducible refine Grew.setCell ?_ ?_ _) | go_size))) g1
  have G1 : Grew ((w.alloc (.cells #[.int .i64 x.1, .int .i64 x.2] 24)).alloc (.cells #[.int .i64 y.1, .int .i64 y.2] 24)) w1 := D1
  have P1 := Lib.hid (P0.out.grown D1)
  have Q1 := Lib.hid (Q0.out.grown D1)
  clear P0 Q0
  clear g1 D1 G0
  have x00 : w1.cell? ⟨w.heap.size, 0, none⟩ = some (.int .i64 x.1) := by rw [G1.cell (by simp only [World.size_alloc]; omega)]; simp [go_sem, *]
  have x01 : w1.cell? ⟨w.heap.size, 1, none⟩ = some (.int .i64 x.2) := by rw [G1.cell (by simp only [World.size_alloc]; omega)]; simp [go_sem, *]
  have x10 : w1.cell? ⟨w.heap.size + 1, 0, none⟩ = some (.int .i64 y.1) := by rw [G1.cell (by simp only [World.size_alloc]; omega)]; simp [go_sem, *]
  have x11 : w1.cell? ⟨w.heap.size + 1, 1, none⟩ = some (.int .i64 y.2) := by rw [G1.cell (by simp only [World.size_alloc]; omega)]; simp [go_sem, *]
  go_wp2_with fail
  refine (use_yes p q v u _ P1.out Q1.out LP.out LQ.out VP.out VQ.out).mono ?_
  rintro e w2 ⟨rfl, g2⟩
  have D2 : Grew w1 w2 := Grew.trans (by (repeat' (first | (with_reducible exact Grew.refl _) | (with_reducible assumption) | (with_reducible refine Grew.alloc ?_ _ _) | (with_reducible refine Grew.drew ?_) | (with_reducible refine Grew.drewN ?_ _) | (with_reducible refine Grew.setCell ?_ ?_ _) | go_size))) g2
  have G2 : Grew ((w.alloc (.cells #[.int .i64 x.1, .int .i64 x.2] 24)).alloc (.cells #[.int .i64 y.1, .int .i64 y.2] 24)) w2 := Grew.trans G1 D2
  have P2 := Lib.hid (P1.out.grown D2)
  have Q2 := Lib.hid (Q1.out.grown D2)
  clear P1 Q1
  clear g2 D2 G1
  clear x00 x01 x10 x11
  have x00 : w2.cell? ⟨w.heap.size, 0, none⟩ = some (.int .i64 x.1) := by rw [G2.cell (by simp only [World.size_alloc]; omega)]; simp [go_sem, *]
  have x01 : w2.cell? ⟨w.heap.size, 1, none⟩ = some (.int .i64 x.2) := by rw [G2.cell (by simp only [World.size_alloc]; omega)]; simp [go_sem, *]
  have x10 : w2.cell? ⟨w.heap.size + 1, 0, none⟩ = some (.int .i64 y.1) := by rw [G2.cell (by simp only [World.size_alloc]; omega)]; simp [go_sem, *]
  have x11 : w2.cell? ⟨w.heap.size + 1, 1, none⟩ = some (.int .i64 y.2) := by rw [G2.cell (by simp only [World.size_alloc]; omega)]; simp [go_sem, *]
  go_wp2_with fail
  refine (rplace_yes x _ X.out).mono ?_
  rintro e w3 ⟨rfl, g3⟩
  have D3 : Grew w2 w3 := Grew.trans (by (repeat' (first | (with_reducible exact Grew.refl _) | (with_reducible assumption) | (with_reducible refine Grew.alloc ?_ _ _) | (with_reducible refine Grew.drew ?_) | (with_reducible refine Grew.drewN ?_ _) | (with_reducible refine Grew.setCell ?_ ?_ _) | go_size))) g3
  have G3 : Grew ((w.alloc (.cells #[.int .i64 x.1, .int .i64 x.2] 24)).alloc (.cells #[.int .i64 y.1, .int .i64 y.2] 24)) w3 := Grew.trans G2 D3
  have P3 := Lib.hid (P2.out.grown D3)
  have Q3 := Lib.hid (Q2.out.grown D3)
  clear P2 Q2
  clear g3 D3 G2
  clear x00 x01 x10 x11
  have x00 : w3.cell? ⟨w.heap.size, 0, none⟩ = some (.int .i64 x.1) := by rw [G3.cell (by simp only [World.size_alloc]; omega)]; simp [go_sem, *]
  have x01 : w3.cell? ⟨w.heap.size, 1, none⟩ = some (.int .i64 x.2) := by rw [G3.cell (by simp only [World.size_alloc]; omega)]; simp [go_sem, *]
  have x10 : w3.cell? ⟨w.heap.size + 1, 0, none⟩ = some (.int .i64 y.1) := by rw [G3.cell (by simp only [World.size_alloc]; omega)]; simp [go_sem, *]
  have x11 : w3.cell? ⟨w.heap.size + 1, 1, none⟩ = some (.int .i64 y.2) := by rw [G3.cell (by simp only [World.size_alloc]; omega)]; simp [go_sem, *]
  go_wp2_with fail
  refine (rplace_yes y _ Y.out).mono ?_
  rintro e w4 ⟨rfl, g4⟩
  have D4 : Grew w3 w4 := Grew.trans (by (repeat' (first | (with_reducible exact Grew.refl _) | (with_reducible assumption) | (with_reducible refine Grew.alloc ?_ _ _) | (with_reducible refine Grew.drew ?_) | (with_reducible refine Grew.drewN ?_ _) | (with_reducible refine Grew.setCell ?_ ?_ _) | go_size))) g4
  have G4 : Grew ((w.alloc (.cells #[.int .i64 x.1, .int .i64 x.2] 24)).alloc (.cells #[.int .i64 y.1, .int .i64 y.2] 24)) w4 := Grew.trans G3 D4
  have P4 := Lib.hid (P3.out.grown D4)
  have Q4 := Lib.hid (Q3.out.grown D4)
  clear P3 Q3
  clear g4 D4 G3
  clear x00 x01 x10 x11
  have x00 : w4.cell? ⟨w.heap.size, 0, none⟩ = some (.int .i64 x.1) := by rw [G4.cell (by simp only [World.size_alloc]; omega)]; simp [go_sem, *]
  have x01 : w4.cell? ⟨w.heap.size, 1, none⟩ = some (.int .i64 x.2) := by rw [G4.cell (by simp only [World.size_alloc]; omega)]; simp [go_sem, *]
  have x10 : w4.cell? ⟨w.heap.size + 1, 0, none⟩ = some (.int .i64 y.1) := by rw [G4.cell (by simp only [World.size_alloc]; omega)]; simp [go_sem, *]
  have x11 : w4.cell? ⟨w.heap.size + 1, 1, none⟩ = some (.int .i64 y.2) := by rw [G4.cell (by simp only [World.size_alloc]; omega)]; simp [go_sem, *]
  go_wp2_with fail
  refine ((inside_sl p x v _ P4.out VP.out X.out).mono fun _ _ t => t.un HX.out).mono ?_
  rintro e w5 ⟨rfl, g5⟩
  have D5 : Grew w4 w5 := Grew.trans (by (repeat' (first | (with_reducible exact Grew.refl _) | (with_reducible assumption) | (with_reducible refine Grew.alloc ?_ _ _) | (with_reducible refine Grew.drew ?_) | (with_reducible refine Grew.drewN ?_ _) | (with_reducible refine Grew.setCell ?_ ?_ _) | go_size))) g5
  have G5 : Grew ((w.alloc (.cells #[.int .i64 x.1, .int .i64 x.2] 24)).alloc (.cells #[.int .i64 y.1, .int .i64 y.2] 24)) w5 := Grew.trans G4 D5
  have P5 := Lib.hid (P4.out.grown D5)
  have Q5 := Lib.hid (Q4.out.grown D5)
  clear P4 Q4
  clear g5 D5 G4
  clear x00 x01 x10 x11
  have x00 : w5.cell? ⟨w.heap.size, 0, none⟩ = some (.int .i64 x.1) := by rw [G5.cell (by simp only [World.size_alloc]; omega)]; simp [go_sem, *]
  have x01 : w5.cell? ⟨w.heap.size, 1, none⟩ = some (.int .i64 x.2) := by rw [G5.cell (by simp only [World.size_alloc]; omega)]; simp [go_sem, *]
  have x10 : w5.cell? ⟨w.heap.size + 1, 0, none⟩ = some (.int .i64 y.1) := by rw [G5.cell (by simp only [World.size_alloc]; omega)]; simp [go_sem, *]
  have x11 : w5.cell? ⟨w.heap.size + 1, 1, none⟩ = some (.int .i64 y.2) := by rw [G5.cell (by simp only [World.size_alloc]; omega)]; simp [go_sem, *]
  go_wp2_with fail
  go_ret
  exact ⟨rfl, Grew.trans (by (repeat' (first | (with_reducible exact Grew.refl _) | (with_reducible assumption) | (with_reducible refine Grew.alloc ?_ _ _) | (with_reducible refine Grew.drew ?_) | (with_reducible refine Grew.drewN ?_ _) | (with_reducible refine Grew.setCell ?_ ?_ _) | go_size))) G5⟩
set_option maxRecDepth 100000 in
set_option maxHeartbeats 4000000 in
theorem sums_5 (_K : Hl.Code) (F : Code) (p q : List Pt) (x y : Pt) (v u : Value) (w : World) (P : Hid (Sl w v p)) (Q : Hid (Sl w u q)) (LP : Hid (p.length ≤ 9223372036854775807)) (LQ : Hid (q.length ≤ 9223372036854775807)) (VP : Hid (Vl p)) (VQ : Hid (Vl q))(X : Hid (Plc x))(Y : Hid (Plc y)) (HX : Hid (Hs p x)) (HY : Hid (¬ Hs q y)) : Calls Try.prog 4 #[v, u, .agg #[.int .i64 x.1, .int .i64 x.2], .agg #[.int .i64 y.1, .int .i64 y.2]] w fun e w' => e = .returned (.bool true) ∧ Grew w w' := by
  have G0 : Grew ((w.alloc (.cells #[.int .i64 x.1, .int .i64 x.2] 24)).alloc (.cells #[.int .i64 y.1, .int .i64 y.2] 24)) ((w.alloc (.cells #[.int .i64 x.1, .int .i64 x.2] 24)).alloc (.cells #[.int .i64 y.1, .int .i64 y.2] 24)) := Grew.refl _
  have P0 := Lib.hid (P.out.grown (w' := ((w.alloc (.cells #[.int .i64 x.1, .int .i64 x.2] 24)).alloc (.cells #[.int .i64 y.1, .int .i64 y.2] 24))) (by (repeat' (first | (with_reducible exact Grew.refl _) | (with_reducible assumption) | (with_reducible refine Grew.alloc ?_ _ _) | (with_reducible refine Grew.drew ?_) | (with_reducible refine Grew.drewN ?_ _) | (with_reducible refine Grew.setCell ?_ ?_ _) | go_size))))
  have Q0 := Lib.hid (Q.out.grown (w' := ((w.alloc (.cells #[.int .i64 x.1, .int .i64 x.2] 24)).alloc (.cells #[.int .i64 y.1, .int .i64 y.2] 24))) (by (repeat' (first | (with_reducible exact Grew.refl _) | (with_reducible assumption) | (with_reducible refine Grew.alloc ?_ _ _) | (with_reducible refine Grew.drew ?_) | (with_reducible refine Grew.drewN ?_ _) | (with_reducible refine Grew.setCell ?_ ?_ _) | go_size))))
  go_enter Try.func4, Try.ntmps4
  go_wp2_with fail
  refine (head_true F _).mono ?_
  rintro e w1 ⟨rfl, g1⟩
  have D1 : Grew ((w.alloc (.cells #[.int .i64 x.1, .int .i64 x.2] 24)).alloc (.cells #[.int .i64 y.1, .int .i64 y.2] 24)) w1 := Grew.trans (by (repeat' (first | (with_reducible exact Grew.refl _) | (with_reducible assumption) | (with_reducible refine Grew.alloc ?_ _ _) | (with_reducible refine Grew.drew ?_) | (with_reducible refine Grew.drewN ?_ _) | (with_reducible refine Grew.setCell ?_ ?_ _) | go_size))) g1
  have G1 : Grew ((w.alloc (.cells #[.int .i64 x.1, .int .i64 x.2] 24)).alloc (.cells #[.int .i64 y.1, .int .i64 y.2] 24)) w1 := D1
  have P1 := Lib.hid (P0.out.grown D1)
  have Q1 := Lib.hid (Q0.out.grown D1)
  clear P0 Q0
  clear g1 D1 G0
  have x00 : w1.cell? ⟨w.heap.size, 0, none⟩ = some (.int .i64 x.1) := by rw [G1.cell (by simp only [World.size_alloc]; omega)]; simp [go_sem, *]
  have x01 : w1.cell? ⟨w.heap.size, 1, none⟩ = some (.int .i64 x.2) := by rw [G1.cell (by simp only [World.size_alloc]; omega)]; simp [go_sem, *]
  have x10 : w1.cell? ⟨w.heap.size + 1, 0, none⟩ = some (.int .i64 y.1) := by rw [G1.cell (by simp only [World.size_alloc]; omega)]; simp [go_sem, *]
  have x11 : w1.cell? ⟨w.heap.size + 1, 1, none⟩ = some (.int .i64 y.2) := by rw [G1.cell (by simp only [World.size_alloc]; omega)]; simp [go_sem, *]
  go_wp2_with fail
  refine (use_yes p q v u _ P1.out Q1.out LP.out LQ.out VP.out VQ.out).mono ?_
  rintro e w2 ⟨rfl, g2⟩
  have D2 : Grew w1 w2 := Grew.trans (by (repeat' (first | (with_reducible exact Grew.refl _) | (with_reducible assumption) | (with_reducible refine Grew.alloc ?_ _ _) | (with_reducible refine Grew.drew ?_) | (with_reducible refine Grew.drewN ?_ _) | (with_reducible refine Grew.setCell ?_ ?_ _) | go_size))) g2
  have G2 : Grew ((w.alloc (.cells #[.int .i64 x.1, .int .i64 x.2] 24)).alloc (.cells #[.int .i64 y.1, .int .i64 y.2] 24)) w2 := Grew.trans G1 D2
  have P2 := Lib.hid (P1.out.grown D2)
  have Q2 := Lib.hid (Q1.out.grown D2)
  clear P1 Q1
  clear g2 D2 G1
  clear x00 x01 x10 x11
  have x00 : w2.cell? ⟨w.heap.size, 0, none⟩ = some (.int .i64 x.1) := by rw [G2.cell (by simp only [World.size_alloc]; omega)]; simp [go_sem, *]
  have x01 : w2.cell? ⟨w.heap.size, 1, none⟩ = some (.int .i64 x.2) := by rw [G2.cell (by simp only [World.size_alloc]; omega)]; simp [go_sem, *]
  have x10 : w2.cell? ⟨w.heap.size + 1, 0, none⟩ = some (.int .i64 y.1) := by rw [G2.cell (by simp only [World.size_alloc]; omega)]; simp [go_sem, *]
  have x11 : w2.cell? ⟨w.heap.size + 1, 1, none⟩ = some (.int .i64 y.2) := by rw [G2.cell (by simp only [World.size_alloc]; omega)]; simp [go_sem, *]
  go_wp2_with fail
  refine (rplace_yes x _ X.out).mono ?_
  rintro e w3 ⟨rfl, g3⟩
  have D3 : Grew w2 w3 := Grew.trans (by (repeat' (first | (with_reducible exact Grew.refl _) | (with_reducible assumption) | (with_reducible refine Grew.alloc ?_ _ _) | (with_reducible refine Grew.drew ?_) | (with_reducible refine Grew.drewN ?_ _) | (with_reducible refine Grew.setCell ?_ ?_ _) | go_size))) g3
  have G3 : Grew ((w.alloc (.cells #[.int .i64 x.1, .int .i64 x.2] 24)).alloc (.cells #[.int .i64 y.1, .int .i64 y.2] 24)) w3 := Grew.trans G2 D3
  have P3 := Lib.hid (P2.out.grown D3)
  have Q3 := Lib.hid (Q2.out.grown D3)
  clear P2 Q2
  clear g3 D3 G2
  clear x00 x01 x10 x11
  have x00 : w3.cell? ⟨w.heap.size, 0, none⟩ = some (.int .i64 x.1) := by rw [G3.cell (by simp only [World.size_alloc]; omega)]; simp [go_sem, *]
  have x01 : w3.cell? ⟨w.heap.size, 1, none⟩ = some (.int .i64 x.2) := by rw [G3.cell (by simp only [World.size_alloc]; omega)]; simp [go_sem, *]
  have x10 : w3.cell? ⟨w.heap.size + 1, 0, none⟩ = some (.int .i64 y.1) := by rw [G3.cell (by simp only [World.size_alloc]; omega)]; simp [go_sem, *]
  have x11 : w3.cell? ⟨w.heap.size + 1, 1, none⟩ = some (.int .i64 y.2) := by rw [G3.cell (by simp only [World.size_alloc]; omega)]; simp [go_sem, *]
  go_wp2_with fail
  refine (rplace_yes y _ Y.out).mono ?_
  rintro e w4 ⟨rfl, g4⟩
  have D4 : Grew w3 w4 := Grew.trans (by (repeat' (first | (with_reducible exact Grew.refl _) | (with_reducible assumption) | (with_reducible refine Grew.alloc ?_ _ _) | (with_reducible refine Grew.drew ?_) | (with_reducible refine Grew.drewN ?_ _) | (with_reducible refine Grew.setCell ?_ ?_ _) | go_size))) g4
  have G4 : Grew ((w.alloc (.cells #[.int .i64 x.1, .int .i64 x.2] 24)).alloc (.cells #[.int .i64 y.1, .int .i64 y.2] 24)) w4 := Grew.trans G3 D4
  have P4 := Lib.hid (P3.out.grown D4)
  have Q4 := Lib.hid (Q3.out.grown D4)
  clear P3 Q3
  clear g4 D4 G3
  clear x00 x01 x10 x11
  have x00 : w4.cell? ⟨w.heap.size, 0, none⟩ = some (.int .i64 x.1) := by rw [G4.cell (by simp only [World.size_alloc]; omega)]; simp [go_sem, *]
  have x01 : w4.cell? ⟨w.heap.size, 1, none⟩ = some (.int .i64 x.2) := by rw [G4.cell (by simp only [World.size_alloc]; omega)]; simp [go_sem, *]
  have x10 : w4.cell? ⟨w.heap.size + 1, 0, none⟩ = some (.int .i64 y.1) := by rw [G4.cell (by simp only [World.size_alloc]; omega)]; simp [go_sem, *]
  have x11 : w4.cell? ⟨w.heap.size + 1, 1, none⟩ = some (.int .i64 y.2) := by rw [G4.cell (by simp only [World.size_alloc]; omega)]; simp [go_sem, *]
  go_wp2_with fail
  refine ((inside_sl p x v _ P4.out VP.out X.out).mono fun _ _ t => t.to HX.out).mono ?_
  rintro e w5 ⟨rfl, g5⟩
  have D5 : Grew w4 w5 := Grew.trans (by (repeat' (first | (with_reducible exact Grew.refl _) | (with_reducible assumption) | (with_reducible refine Grew.alloc ?_ _ _) | (with_reducible refine Grew.drew ?_) | (with_reducible refine Grew.drewN ?_ _) | (with_reducible refine Grew.setCell ?_ ?_ _) | go_size))) g5
  have G5 : Grew ((w.alloc (.cells #[.int .i64 x.1, .int .i64 x.2] 24)).alloc (.cells #[.int .i64 y.1, .int .i64 y.2] 24)) w5 := Grew.trans G4 D5
  have P5 := Lib.hid (P4.out.grown D5)
  have Q5 := Lib.hid (Q4.out.grown D5)
  clear P4 Q4
  clear g5 D5 G4
  clear x00 x01 x10 x11
  have x00 : w5.cell? ⟨w.heap.size, 0, none⟩ = some (.int .i64 x.1) := by rw [G5.cell (by simp only [World.size_alloc]; omega)]; simp [go_sem, *]
  have x01 : w5.cell? ⟨w.heap.size, 1, none⟩ = some (.int .i64 x.2) := by rw [G5.cell (by simp only [World.size_alloc]; omega)]; simp [go_sem, *]
  have x10 : w5.cell? ⟨w.heap.size + 1, 0, none⟩ = some (.int .i64 y.1) := by rw [G5.cell (by simp only [World.size_alloc]; omega)]; simp [go_sem, *]
  have x11 : w5.cell? ⟨w.heap.size + 1, 1, none⟩ = some (.int .i64 y.2) := by rw [G5.cell (by simp only [World.size_alloc]; omega)]; simp [go_sem, *]
  go_wp2_with fail
  refine ((inside_sl q y u _ Q5.out VQ.out Y.out).mono fun _ _ t => t.un HY.out).mono ?_
  rintro e w6 ⟨rfl, g6⟩
  have D6 : Grew w5 w6 := Grew.trans (by (repeat' (first | (with_reducible exact Grew.refl _) | (with_reducible assumption) | (with_reducible refine Grew.alloc ?_ _ _) | (with_reducible refine Grew.drew ?_) | (with_reducible refine Grew.drewN ?_ _) | (with_reducible refine Grew.setCell ?_ ?_ _) | go_size))) g6
  have G6 : Grew ((w.alloc (.cells #[.int .i64 x.1, .int .i64 x.2] 24)).alloc (.cells #[.int .i64 y.1, .int .i64 y.2] 24)) w6 := Grew.trans G5 D6
  have P6 := Lib.hid (P5.out.grown D6)
  have Q6 := Lib.hid (Q5.out.grown D6)
  clear P5 Q5
  clear g6 D6 G5
  clear x00 x01 x10 x11
  have x00 : w6.cell? ⟨w.heap.size, 0, none⟩ = some (.int .i64 x.1) := by rw [G6.cell (by simp only [World.size_alloc]; omega)]; simp [go_sem, *]
  have x01 : w6.cell? ⟨w.heap.size, 1, none⟩ = some (.int .i64 x.2) := by rw [G6.cell (by simp only [World.size_alloc]; omega)]; simp [go_sem, *]
  have x10 : w6.cell? ⟨w.heap.size + 1, 0, none⟩ = some (.int .i64 y.1) := by rw [G6.cell (by simp only [World.size_alloc]; omega)]; simp [go_sem, *]
  have x11 : w6.cell? ⟨w.heap.size + 1, 1, none⟩ = some (.int .i64 y.2) := by rw [G6.cell (by simp only [World.size_alloc]; omega)]; simp [go_sem, *]
  go_wp2_with fail
  go_ret
  exact ⟨rfl, Grew.trans (by (repeat' (first | (with_reducible exact Grew.refl _) | (with_reducible assumption) | (with_reducible refine Grew.alloc ?_ _ _) | (with_reducible refine Grew.drew ?_) | (with_reducible refine Grew.drewN ?_ _) | (with_reducible refine Grew.setCell ?_ ?_ _) | go_size))) G6⟩
set_option maxRecDepth 100000 in
set_option maxHeartbeats 4000000 in
theorem sums_6 (K : Hl.Code) (F : Code) (p q : List Pt) (x y : Pt) (v u : Value) (w : World) (P : Hid (Sl w v p)) (Q : Hid (Sl w u q)) (LP : Hid (p.length ≤ 9223372036854775807)) (LQ : Hid (q.length ≤ 9223372036854775807)) (VP : Hid (Vl p)) (VQ : Hid (Vl q))(X : Hid (Plc x))(Y : Hid (Plc y)) (HX : Hid (Hs p x)) (HY : Hid (Hs q y)) : Calls Try.prog 4 #[v, u, .agg #[.int .i64 x.1, .int .i64 x.2], .agg #[.int .i64 y.1, .int .i64 y.2]] w fun e w' => e = .returned (.bool true) ∧ Grew w w' := by
  have G0 : Grew ((w.alloc (.cells #[.int .i64 x.1, .int .i64 x.2] 24)).alloc (.cells #[.int .i64 y.1, .int .i64 y.2] 24)) ((w.alloc (.cells #[.int .i64 x.1, .int .i64 x.2] 24)).alloc (.cells #[.int .i64 y.1, .int .i64 y.2] 24)) := Grew.refl _
  have P0 := Lib.hid (P.out.grown (w' := ((w.alloc (.cells #[.int .i64 x.1, .int .i64 x.2] 24)).alloc (.cells #[.int .i64 y.1, .int .i64 y.2] 24))) (by (repeat' (first | (with_reducible exact Grew.refl _) | (with_reducible assumption) | (with_reducible refine Grew.alloc ?_ _ _) | (with_reducible refine Grew.drew ?_) | (with_reducible refine Grew.drewN ?_ _) | (with_reducible refine Grew.setCell ?_ ?_ _) | go_size))))
  have Q0 := Lib.hid (Q.out.grown (w' := ((w.alloc (.cells #[.int .i64 x.1, .int .i64 x.2] 24)).alloc (.cells #[.int .i64 y.1, .int .i64 y.2] 24))) (by (repeat' (first | (with_reducible exact Grew.refl _) | (with_reducible assumption) | (with_reducible refine Grew.alloc ?_ _ _) | (with_reducible refine Grew.drew ?_) | (with_reducible refine Grew.drewN ?_ _) | (with_reducible refine Grew.setCell ?_ ?_ _) | go_size))))
  go_enter Try.func4, Try.ntmps4
  go_wp2_with fail
  refine (head_true F _).mono ?_
  rintro e w1 ⟨rfl, g1⟩
  have D1 : Grew ((w.alloc (.cells #[.int .i64 x.1, .int .i64 x.2] 24)).alloc (.cells #[.int .i64 y.1, .int .i64 y.2] 24)) w1 := Grew.trans (by (repeat' (first | (with_reducible exact Grew.refl _) | (with_reducible assumption) | (with_reducible refine Grew.alloc ?_ _ _) | (with_reducible refine Grew.drew ?_) | (with_reducible refine Grew.drewN ?_ _) | (with_reducible refine Grew.setCell ?_ ?_ _) | go_size))) g1
  have G1 : Grew ((w.alloc (.cells #[.int .i64 x.1, .int .i64 x.2] 24)).alloc (.cells #[.int .i64 y.1, .int .i64 y.2] 24)) w1 := D1
  have P1 := Lib.hid (P0.out.grown D1)
  have Q1 := Lib.hid (Q0.out.grown D1)
  clear P0 Q0
  clear g1 D1 G0
  have x00 : w1.cell? ⟨w.heap.size, 0, none⟩ = some (.int .i64 x.1) := by rw [G1.cell (by simp only [World.size_alloc]; omega)]; simp [go_sem, *]
  have x01 : w1.cell? ⟨w.heap.size, 1, none⟩ = some (.int .i64 x.2) := by rw [G1.cell (by simp only [World.size_alloc]; omega)]; simp [go_sem, *]
  have x10 : w1.cell? ⟨w.heap.size + 1, 0, none⟩ = some (.int .i64 y.1) := by rw [G1.cell (by simp only [World.size_alloc]; omega)]; simp [go_sem, *]
  have x11 : w1.cell? ⟨w.heap.size + 1, 1, none⟩ = some (.int .i64 y.2) := by rw [G1.cell (by simp only [World.size_alloc]; omega)]; simp [go_sem, *]
  go_wp2_with fail
  refine (use_yes p q v u _ P1.out Q1.out LP.out LQ.out VP.out VQ.out).mono ?_
  rintro e w2 ⟨rfl, g2⟩
  have D2 : Grew w1 w2 := Grew.trans (by (repeat' (first | (with_reducible exact Grew.refl _) | (with_reducible assumption) | (with_reducible refine Grew.alloc ?_ _ _) | (with_reducible refine Grew.drew ?_) | (with_reducible refine Grew.drewN ?_ _) | (with_reducible refine Grew.setCell ?_ ?_ _) | go_size))) g2
  have G2 : Grew ((w.alloc (.cells #[.int .i64 x.1, .int .i64 x.2] 24)).alloc (.cells #[.int .i64 y.1, .int .i64 y.2] 24)) w2 := Grew.trans G1 D2
  have P2 := Lib.hid (P1.out.grown D2)
  have Q2 := Lib.hid (Q1.out.grown D2)
  clear P1 Q1
  clear g2 D2 G1
  clear x00 x01 x10 x11
  have x00 : w2.cell? ⟨w.heap.size, 0, none⟩ = some (.int .i64 x.1) := by rw [G2.cell (by simp only [World.size_alloc]; omega)]; simp [go_sem, *]
  have x01 : w2.cell? ⟨w.heap.size, 1, none⟩ = some (.int .i64 x.2) := by rw [G2.cell (by simp only [World.size_alloc]; omega)]; simp [go_sem, *]
  have x10 : w2.cell? ⟨w.heap.size + 1, 0, none⟩ = some (.int .i64 y.1) := by rw [G2.cell (by simp only [World.size_alloc]; omega)]; simp [go_sem, *]
  have x11 : w2.cell? ⟨w.heap.size + 1, 1, none⟩ = some (.int .i64 y.2) := by rw [G2.cell (by simp only [World.size_alloc]; omega)]; simp [go_sem, *]
  go_wp2_with fail
  refine (rplace_yes x _ X.out).mono ?_
  rintro e w3 ⟨rfl, g3⟩
  have D3 : Grew w2 w3 := Grew.trans (by (repeat' (first | (with_reducible exact Grew.refl _) | (with_reducible assumption) | (with_reducible refine Grew.alloc ?_ _ _) | (with_reducible refine Grew.drew ?_) | (with_reducible refine Grew.drewN ?_ _) | (with_reducible refine Grew.setCell ?_ ?_ _) | go_size))) g3
  have G3 : Grew ((w.alloc (.cells #[.int .i64 x.1, .int .i64 x.2] 24)).alloc (.cells #[.int .i64 y.1, .int .i64 y.2] 24)) w3 := Grew.trans G2 D3
  have P3 := Lib.hid (P2.out.grown D3)
  have Q3 := Lib.hid (Q2.out.grown D3)
  clear P2 Q2
  clear g3 D3 G2
  clear x00 x01 x10 x11
  have x00 : w3.cell? ⟨w.heap.size, 0, none⟩ = some (.int .i64 x.1) := by rw [G3.cell (by simp only [World.size_alloc]; omega)]; simp [go_sem, *]
  have x01 : w3.cell? ⟨w.heap.size, 1, none⟩ = some (.int .i64 x.2) := by rw [G3.cell (by simp only [World.size_alloc]; omega)]; simp [go_sem, *]
  have x10 : w3.cell? ⟨w.heap.size + 1, 0, none⟩ = some (.int .i64 y.1) := by rw [G3.cell (by simp only [World.size_alloc]; omega)]; simp [go_sem, *]
  have x11 : w3.cell? ⟨w.heap.size + 1, 1, none⟩ = some (.int .i64 y.2) := by rw [G3.cell (by simp only [World.size_alloc]; omega)]; simp [go_sem, *]
  go_wp2_with fail
  refine (rplace_yes y _ Y.out).mono ?_
  rintro e w4 ⟨rfl, g4⟩
  have D4 : Grew w3 w4 := Grew.trans (by (repeat' (first | (with_reducible exact Grew.refl _) | (with_reducible assumption) | (with_reducible refine Grew.alloc ?_ _ _) | (with_reducible refine Grew.drew ?_) | (with_reducible refine Grew.drewN ?_ _) | (with_reducible refine Grew.setCell ?_ ?_ _) | go_size))) g4
  have G4 : Grew ((w.alloc (.cells #[.int .i64 x.1, .int .i64 x.2] 24)).alloc (.cells #[.int .i64 y.1, .int .i64 y.2] 24)) w4 := Grew.trans G3 D4
  have P4 := Lib.hid (P3.out.grown D4)
  have Q4 := Lib.hid (Q3.out.grown D4)
  clear P3 Q3
  clear g4 D4 G3
  clear x00 x01 x10 x11
  have x00 : w4.cell? ⟨w.heap.size, 0, none⟩ = some (.int .i64 x.1) := by rw [G4.cell (by simp only [World.size_alloc]; omega)]; simp [go_sem, *]
  have x01 : w4.cell? ⟨w.heap.size, 1, none⟩ = some (.int .i64 x.2) := by rw [G4.cell (by simp only [World.size_alloc]; omega)]; simp [go_sem, *]
  have x10 : w4.cell? ⟨w.heap.size + 1, 0, none⟩ = some (.int .i64 y.1) := by rw [G4.cell (by simp only [World.size_alloc]; omega)]; simp [go_sem, *]
  have x11 : w4.cell? ⟨w.heap.size + 1, 1, none⟩ = some (.int .i64 y.2) := by rw [G4.cell (by simp only [World.size_alloc]; omega)]; simp [go_sem, *]
  go_wp2_with fail
  refine ((inside_sl p x v _ P4.out VP.out X.out).mono fun _ _ t => t.to HX.out).mono ?_
  rintro e w5 ⟨rfl, g5⟩
  have D5 : Grew w4 w5 := Grew.trans (by (repeat' (first | (with_reducible exact Grew.refl _) | (with_reducible assumption) | (with_reducible refine Grew.alloc ?_ _ _) | (with_reducible refine Grew.drew ?_) | (with_reducible refine Grew.drewN ?_ _) | (with_reducible refine Grew.setCell ?_ ?_ _) | go_size))) g5
  have G5 : Grew ((w.alloc (.cells #[.int .i64 x.1, .int .i64 x.2] 24)).alloc (.cells #[.int .i64 y.1, .int .i64 y.2] 24)) w5 := Grew.trans G4 D5
  have P5 := Lib.hid (P4.out.grown D5)
  have Q5 := Lib.hid (Q4.out.grown D5)
  clear P4 Q4
  clear g5 D5 G4
  clear x00 x01 x10 x11
  have x00 : w5.cell? ⟨w.heap.size, 0, none⟩ = some (.int .i64 x.1) := by rw [G5.cell (by simp only [World.size_alloc]; omega)]; simp [go_sem, *]
  have x01 : w5.cell? ⟨w.heap.size, 1, none⟩ = some (.int .i64 x.2) := by rw [G5.cell (by simp only [World.size_alloc]; omega)]; simp [go_sem, *]
  have x10 : w5.cell? ⟨w.heap.size + 1, 0, none⟩ = some (.int .i64 y.1) := by rw [G5.cell (by simp only [World.size_alloc]; omega)]; simp [go_sem, *]
  have x11 : w5.cell? ⟨w.heap.size + 1, 1, none⟩ = some (.int .i64 y.2) := by rw [G5.cell (by simp only [World.size_alloc]; omega)]; simp [go_sem, *]
  go_wp2_with fail
  refine ((inside_sl q y u _ Q5.out VQ.out Y.out).mono fun _ _ t => t.to HY.out).mono ?_
  rintro e w6 ⟨rfl, g6⟩
  have D6 : Grew w5 w6 := Grew.trans (by (repeat' (first | (with_reducible exact Grew.refl _) | (with_reducible assumption) | (with_reducible refine Grew.alloc ?_ _ _) | (with_reducible refine Grew.drew ?_) | (with_reducible refine Grew.drewN ?_ _) | (with_reducible refine Grew.setCell ?_ ?_ _) | go_size))) g6
  have G6 : Grew ((w.alloc (.cells #[.int .i64 x.1, .int .i64 x.2] 24)).alloc (.cells #[.int .i64 y.1, .int .i64 y.2] 24)) w6 := Grew.trans G5 D6
  have P6 := Lib.hid (P5.out.grown D6)
  have Q6 := Lib.hid (Q5.out.grown D6)
  clear P5 Q5
  clear g6 D6 G5
  clear x00 x01 x10 x11
  have x00 : w6.cell? ⟨w.heap.size, 0, none⟩ = some (.int .i64 x.1) := by rw [G6.cell (by simp only [World.size_alloc]; omega)]; simp [go_sem, *]
  have x01 : w6.cell? ⟨w.heap.size, 1, none⟩ = some (.int .i64 x.2) := by rw [G6.cell (by simp only [World.size_alloc]; omega)]; simp [go_sem, *]
  have x10 : w6.cell? ⟨w.heap.size + 1, 0, none⟩ = some (.int .i64 y.1) := by rw [G6.cell (by simp only [World.size_alloc]; omega)]; simp [go_sem, *]
  have x11 : w6.cell? ⟨w.heap.size + 1, 1, none⟩ = some (.int .i64 y.2) := by rw [G6.cell (by simp only [World.size_alloc]; omega)]; simp [go_sem, *]
  go_wp2_with fail
  refine (F.sum p q v u _ P6.out Q6.out LP.out LQ.out).mono ?_
  rintro e w7 ⟨v1, k1, r1, i1, rfl, s1, g7⟩
  have D7 : Grew w6 w7 := Grew.trans (by (repeat' (first | (with_reducible exact Grew.refl _) | (with_reducible assumption) | (with_reducible refine Grew.alloc ?_ _ _) | (with_reducible refine Grew.drew ?_) | (with_reducible refine Grew.drewN ?_ _) | (with_reducible refine Grew.setCell ?_ ?_ _) | go_size))) g7
  have G7 : Grew ((w.alloc (.cells #[.int .i64 x.1, .int .i64 x.2] 24)).alloc (.cells #[.int .i64 y.1, .int .i64 y.2] 24)) w7 := Grew.trans G6 D7
  have P7 := Lib.hid (P6.out.grown D7)
  have Q7 := Lib.hid (Q6.out.grown D7)
  clear P6 Q6
  clear g7 D7 G6
  clear x00 x01 x10 x11
  have x00 : w7.cell? ⟨w.heap.size, 0, none⟩ = some (.int .i64 x.1) := by rw [G7.cell (by simp only [World.size_alloc]; omega)]; simp [go_sem, *]
  have x01 : w7.cell? ⟨w.heap.size, 1, none⟩ = some (.int .i64 x.2) := by rw [G7.cell (by simp only [World.size_alloc]; omega)]; simp [go_sem, *]
  have x10 : w7.cell? ⟨w.heap.size + 1, 0, none⟩ = some (.int .i64 y.1) := by rw [G7.cell (by simp only [World.size_alloc]; omega)]; simp [go_sem, *]
  have x11 : w7.cell? ⟨w.heap.size + 1, 1, none⟩ = some (.int .i64 y.2) := by rw [G7.cell (by simp only [World.size_alloc]; omega)]; simp [go_sem, *]
  have A7 := Lib.hid s1
  clear s1
  clear P7
  clear Q7
  rcases sum_keys i1 ⟨VP.out, VQ.out⟩ with rfl | ⟨rfl, rfl⟩
  · obtain ⟨vr, hr⟩ := sums_law VP.out VQ.out i1
    have VR := Lib.hid vr
    have HZ := Lib.hid (hr x y HX.out HY.out)
    have ZP : Hid (Plc (plus x y)) := Lib.hid (has_plc VR.out.pg VR.out.2.1 HZ.out)
    obtain ⟨⟨b1, b2⟩, b3, b4⟩ := X.out
    obtain ⟨⟨b5, b6⟩, b7, b8⟩ := Y.out
    clear vr hr i1
    go_wp2_with fail
    refine (has_yes K r1 (plus x y) _ _ A7.out VR.out ZP.out HZ.out).mono ?_
    rintro e w8 ⟨rfl, g8⟩
    have D8 : Grew w7 w8 := Grew.trans (by (repeat' (first | (with_reducible exact Grew.refl _) | (with_reducible assumption) | (with_reducible refine Grew.alloc ?_ _ _) | (with_reducible refine Grew.drew ?_) | (with_reducible refine Grew.drewN ?_ _) | (with_reducible refine Grew.setCell ?_ ?_ _) | go_size))) g8
    have G8 : Grew ((w.alloc (.cells #[.int .i64 x.1, .int .i64 x.2] 24)).alloc (.cells #[.int .i64 y.1, .int .i64 y.2] 24)) w8 := Grew.trans G7 D8
    have A8 := Lib.hid (A7.out.grown D8)
    clear A7
    clear g8 D8 G7
    clear x00 x01 x10 x11
    have x00 : w8.cell? ⟨w.heap.size, 0, none⟩ = some (.int .i64 x.1) := by rw [G8.cell (by simp only [World.size_alloc]; omega)]; simp [go_sem, *]
    have x01 : w8.cell? ⟨w.heap.size, 1, none⟩ = some (.int .i64 x.2) := by rw [G8.cell (by simp only [World.size_alloc]; omega)]; simp [go_sem, *]
    have x10 : w8.cell? ⟨w.heap.size + 1, 0, none⟩ = some (.int .i64 y.1) := by rw [G8.cell (by simp only [World.size_alloc]; omega)]; simp [go_sem, *]
    have x11 : w8.cell? ⟨w.heap.size + 1, 1, none⟩ = some (.int .i64 y.2) := by rw [G8.cell (by simp only [World.size_alloc]; omega)]; simp [go_sem, *]
    go_wp2_with fail
    refine (valid_yes K r1 _ _ A8.out VR.out).mono ?_
    rintro e w9 ⟨rfl, g9⟩
    have D9 : Grew w8 w9 := Grew.trans (by (repeat' (first | (with_reducible exact Grew.refl _) | (with_reducible assumption) | (with_reducible refine Grew.alloc ?_ _ _) | (with_reducible refine Grew.drew ?_) | (with_reducible refine Grew.drewN ?_ _) | (with_reducible refine Grew.setCell ?_ ?_ _) | go_size))) g9
    have G9 : Grew ((w.alloc (.cells #[.int .i64 x.1, .int .i64 x.2] 24)).alloc (.cells #[.int .i64 y.1, .int .i64 y.2] 24)) w9 := Grew.trans G8 D9
    have A9 := Lib.hid (A8.out.grown D9)
    clear A8
    clear g9 D9 G8
    clear x00 x01 x10 x11
    have x00 : w9.cell? ⟨w.heap.size, 0, none⟩ = some (.int .i64 x.1) := by rw [G9.cell (by simp only [World.size_alloc]; omega)]; simp [go_sem, *]
    have x01 : w9.cell? ⟨w.heap.size, 1, none⟩ = some (.int .i64 x.2) := by rw [G9.cell (by simp only [World.size_alloc]; omega)]; simp [go_sem, *]
    have x10 : w9.cell? ⟨w.heap.size + 1, 0, none⟩ = some (.int .i64 y.1) := by rw [G9.cell (by simp only [World.size_alloc]; omega)]; simp [go_sem, *]
    have x11 : w9.cell? ⟨w.heap.size + 1, 1, none⟩ = some (.int .i64 y.2) := by rw [G9.cell (by simp only [World.size_alloc]; omega)]; simp [go_sem, *]
    go_wp2_with fail
    go_ret
    exact ⟨rfl, Grew.trans (by (repeat' (first | (with_reducible exact Grew.refl _) | (with_reducible assumption) | (with_reducible refine Grew.alloc ?_ _ _) | (with_reducible refine Grew.drew ?_) | (with_reducible refine Grew.drewN ?_ _) | (with_reducible refine Grew.setCell ?_ ?_ _) | go_size))) G9⟩
  · obtain ⟨ea, ec, rfl⟩ : ∃ a c, v1 = .slice a 0 c := A7.out.shape
    clear i1
    go_wp2_with fail
    go_ret
    exact ⟨rfl, Grew.trans (by (repeat' (first | (with_reducible exact Grew.refl _) | (with_reducible assumption) | (with_reducible refine Grew.alloc ?_ _ _) | (with_reducible refine Grew.drew ?_) | (with_reducible refine Grew.drewN ?_ _) | (with_reducible refine Grew.setCell ?_ ?_ _) | go_size))) G7⟩
theorem sums_true (K : Hl.Code) (F : Code) (p q : List Pt) (x y : Pt) (v u : Value) (w : World) (hs : Sl w v p) (hu : Sl w u q) (h1 : p.length ≤ 9223372036854775807) (h2 : q.length ≤ 9223372036854775807) : Calls Try.prog 4 #[v, u, .agg #[.int .i64 x.1, .int .i64 x.2], .agg #[.int .i64 y.1, .int .i64 y.2]] w fun e w' => e = .returned (.bool true) ∧ Grew w w' := by
  have P := Lib.hid hs
  have Q := Lib.hid hu
  have LP := Lib.hid h1
  have LQ := Lib.hid h2
  by_cases hv : Vl p ∧ Vl q
  · by_cases hx : Plc x
    · by_cases hy : Plc y
      · by_cases ix : Hs p x
        · by_cases iy : Hs q y
          · exact sums_6 K F p q x y v u w P Q LP LQ (Lib.hid hv.1) (Lib.hid hv.2) (Lib.hid hx) (Lib.hid hy) (Lib.hid ix) (Lib.hid iy)
          · exact sums_5 K F p q x y v u w P Q LP LQ (Lib.hid hv.1) (Lib.hid hv.2) (Lib.hid hx) (Lib.hid hy) (Lib.hid ix) (Lib.hid iy)
        · exact sums_4 K F p q x y v u w P Q LP LQ (Lib.hid hv.1) (Lib.hid hv.2) (Lib.hid hx) (Lib.hid hy) (Lib.hid ix)
      · exact sums_3 K F p q x y v u w P Q LP LQ (Lib.hid hv.1) (Lib.hid hv.2) (Lib.hid hx) (Lib.hid hy)
    · exact sums_2 K F p q x y v u w P Q LP LQ (Lib.hid hv.1) (Lib.hid hv.2) (Lib.hid hx)
  · exact sums_1 K F p q x y v u w P Q LP LQ (Lib.hid hv)
end Mk
end Go.Proofs.Yteglefjnbkocgaa
