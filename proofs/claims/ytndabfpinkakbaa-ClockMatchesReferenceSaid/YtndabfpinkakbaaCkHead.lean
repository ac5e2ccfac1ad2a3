/-
  The example of the chapter, at the head of each law of layer 14.
-/
import Derived.Test.YtndabfpinkakbaaCkC
import Derived.Test.YtndabfpinkakbaaCkD
namespace Go.Proofs.Ytndabfpinkakbaa
open Go.RowKit Sn
namespace Ck
set_option maxRecDepth 100000
theorem ct_at {f : Nat → Int} {t : Int} {n : Nat} (hf : ∀ i j, i ≤ j → f i ≤ f j) (hn : n ≤ 1000000001) (h0 : ∀ m, n = m + 1 → f m < t) (h1 : t ≤ f n) : Ct f t n := by
  refine ⟨hn, fun i hi => ?_, fun i h2 _ => Int.le_trans h1 (hf n i h2)⟩
  obtain ⟨m, rfl⟩ : ∃ m, n = m + 1 := ⟨n - 1, by omega⟩
  exact Int.lt_of_le_of_lt (hf i m (by omega)) (h0 m rfl)
theorem df : Df 100 := by decide
theorem cv : Cv 1000 (-5) 5 100 := by decide
theorem tm0 (i j : Nat) (h : i ≤ j) : tl 1000 (-5) 100 i ≤ tl 1000 (-5) 100 j := tl_mono df (by omega)
theorem tm1 (i j : Nat) (h : i ≤ j) : th 1000 5 100 i ≤ th 1000 5 100 j := th_mono df (by omega)
theorem fi1 : Fi 1000 5 100 1000 994 := ct_at tm1 (by decide) (fun m h => by
  obtain rfl : m = 993 := by omega
  decide) (by decide)
theorem la1 : La 1000 (-5) 100 1000 1007 := ct_at tm0 (by decide) (fun m h => by
  obtain rfl : m = 1006 := by omega
  decide) (by decide)
theorem fi2 : Fi 1000 5 100 (-100) 0 := ct_at tm1 (by decide) (fun m h => by omega) (by decide)
theorem la2 : La 1000 (-5) 100 (-100) 0 := ct_at tm0 (by decide) (fun m h => by omega) (by decide)
theorem x1 (w : World) : Calls Try.prog 11 #[.agg #[.int .i64 1000, .int .i64 (-5), .int .i64 5, .int .i64 100], .int .i64 21000] w fun e w' => e = .returned (.tuple #[.agg #[.int .i64 20993, .int .i64 21007], .int .i64 0]) ∧ Grown w w' := true_ok 1000 (-5) 5 100 21000 w cv (by decide)
theorem x2 (w : World) : Calls Try.prog 17 #[.agg #[.int .i64 1000, .int .i64 (-5), .int .i64 5, .int .i64 100], .int .i64 21000, .agg #[.int .i64 21006, .int .i64 21020]] w fun e w' => e = .returned (.tuple #[.agg #[.int .i64 21000, .int .i64 6, .int .i64 7, .int .i64 100], .bool true, .int .i64 0]) ∧ Grown w w' := set_ok 1000 (-5) 5 100 21000 21006 21020 w cv (by decide) (by decide) (by decide) (by decide)
theorem x3 (w : World) : Calls Try.prog 17 #[.agg #[.int .i64 1000, .int .i64 (-5), .int .i64 5, .int .i64 100], .int .i64 21000, .agg #[.int .i64 21008, .int .i64 21020]] w fun e w' => e = .returned (.tuple #[.agg #[.int .i64 0, .int .i64 0, .int .i64 0, .int .i64 0], .bool false, .int .i64 0]) ∧ Grown w w' := set_apart 1000 (-5) 5 100 21000 21008 21020 w cv (by decide) (by decide) (by decide)
theorem x4 (w : World) : Calls Try.prog 15 #[.agg #[.int .i64 1000, .int .i64 (-5), .int .i64 5, .int .i64 100], .int .i64 1000] w fun e w' => e = .returned (.tuple #[.agg #[.int .i64 994, .int .i64 1006], .int .i64 0]) ∧ Grown w w' := reading_ok 1000 (-5) 5 100 1000 994 1007 w cv (by decide) fi1 la1 (by decide)
theorem x5 (w : World) : Calls Try.prog 15 #[.agg #[.int .i64 1000, .int .i64 (-5), .int .i64 5, .int .i64 100], .int .i64 (-100)] w fun e w' => e = .returned (.tuple #[.agg #[.int .i64 0, .int .i64 0], .int .i64 4]) ∧ Grown w w' := reading_none 1000 (-5) 5 100 (-100) 0 0 w cv (by decide) fi2 la2 (by decide)
theorem x6 (w : World) : Calls Try.prog 11 #[.agg #[.int .i64 1000, .int .i64 (-5), .int .i64 5, .int .i64 100], .int .i64 (-1)] w fun e w' => e = .returned (.tuple #[.agg #[.int .i64 0, .int .i64 0], .int .i64 1]) ∧ Grown w w' := true_bad 1000 (-5) 5 100 (-1) w (by decide)
set_option maxHeartbeats 4000000 in
theorem head_true (w : World) : Calls Try.prog 10 #[] w fun e w' => e = .returned (.bool true) ∧ Grown w w' := by
  go_enter Try.func10, Try.ntmps10
  go_wp2_with fail
  refine (x1 _).mono ?_
  rintro e w1 ⟨rfl, g1⟩
  have z1 := (laid g1).2.2
  try simp at z1
  have q1_0 : w1.cell? ⟨w.heap.size, 0, none⟩ = some (.int .i64 1000) := (Grown.cell g1 (by first | (simp; omega) | simp | omega)).trans (by simp [go_sem, *])
  have q1_1 : w1.cell? ⟨w.heap.size, 1, none⟩ = some (.int .i64 (-5)) := (Grown.cell g1 (by first | (simp; omega) | simp | omega)).trans (by simp [go_sem, *])
  have q1_2 : w1.cell? ⟨w.heap.size, 2, none⟩ = some (.int .i64 5) := (Grown.cell g1 (by first | (simp; omega) | simp | omega)).trans (by simp [go_sem, *])
  have q1_3 : w1.cell? ⟨w.heap.size, 3, none⟩ = some (.int .i64 100) := (Grown.cell g1 (by first | (simp; omega) | simp | omega)).trans (by simp [go_sem, *])
  have G1 : Grown w w1 := Grown.trans (by go_grown) g1
  have z1_w0 : w.heap.size < w1.heap.size := by omega
  clear g1
  go_wp2_with fail
  refine (x2 _).mono ?_
  rintro e w2 ⟨rfl, g2⟩
  have z2 := (laid g2).2.2
  try simp at z2
  have q2_0 : w2.cell? ⟨w.heap.size, 0, none⟩ = some (.int .i64 1000) := (Grown.cell g2 (by first | (simp; omega) | simp | omega)).trans (by simp [go_sem, *])
  have q2_1 : w2.cell? ⟨w.heap.size, 1, none⟩ = some (.int .i64 (-5)) := (Grown.cell g2 (by first | (simp; omega) | simp | omega)).trans (by simp [go_sem, *])
  have q2_2 : w2.cell? ⟨w.heap.size, 2, none⟩ = some (.int .i64 5) := (Grown.cell g2 (by first | (simp; omega) | simp | omega)).trans (by simp [go_sem, *])
  have q2_3 : w2.cell? ⟨w.heap.size, 3, none⟩ = some (.int .i64 100) := (Grown.cell g2 (by first | (simp; omega) | simp | omega)).trans (by simp [go_sem, *])
  have q2_4 : w2.cell? ⟨w1.heap.size, 0, none⟩ = some (.int .i64 20993) := (Grown.cell g2 (by first | (simp; omega) | simp | omega)).trans (by simp [go_sem, *])
  have q2_5 : w2.cell? ⟨w1.heap.size, 1, none⟩ = some (.int .i64 21007) := (Grown.cell g2 (by first | (simp; omega) | simp | omega)).trans (by simp [go_sem, *])
  have G2 : Grown w w2 := Grown.trans (by go_grown) g2
  have z2_w0 : w.heap.size < w2.heap.size := by omega
  have z2_w10 : w1.heap.size < w2.heap.size := by omega
  clear g2 q1_0 q1_1 q1_2 q1_3
  go_wp2_with fail
  refine (x3 _).mono ?_
  rintro e w3 ⟨rfl, g3⟩
  have z3 := (laid g3).2.2
  try simp at z3
  have q3_0 : w3.cell? ⟨w.heap.size, 0, none⟩ = some (.int .i64 1000) := (Grown.cell g3 (by first | (simp; omega) | simp | omega)).trans (by simp [go_sem, *])
  have q3_1 : w3.cell? ⟨w.heap.size, 1, none⟩ = some (.int .i64 (-5)) := (Grown.cell g3 (by first | (simp; omega) | simp | omega)).trans (by simp [go_sem, *])
  have q3_2 : w3.cell? ⟨w.heap.size, 2, none⟩ = some (.int .i64 5) := (Grown.cell g3 (by first | (simp; omega) | simp | omega)).trans (by simp [go_sem, *])
  have q3_3 : w3.cell? ⟨w.heap.size, 3, none⟩ = some (.int .i64 100) := (Grown.cell g3 (by first | (simp; omega) | simp | omega)).trans (by simp [go_sem, *])
  have q3_4 : w3.cell? ⟨w1.heap.size, 0, none⟩ = some (.int .i64 20993) := (Grown.cell g3 (by first | (simp; omega) | simp | omega)).trans (by simp [go_sem, *])
  have q3_5 : w3.cell? ⟨w1.heap.size, 1, none⟩ = some (.int .i64 21007) := (Grown.cell g3 (by first | (simp; omega) | simp | omega)).trans (by simp [go_sem, *])
  have q3_6 : w3.cell? ⟨w2.heap.size, 0, none⟩ = some (.int .i64 21000) := (Grown.cell g3 (by first | (simp; omega) | simp | omega)).trans (by simp [go_sem, *])
  have q3_7 : w3.cell? ⟨w2.heap.size, 1, none⟩ = some (.int .i64 6) := (Grown.cell g3 (by first | (simp; omega) | simp | omega)).trans (by simp [go_sem, *])
  have q3_8 : w3.cell? ⟨w2.heap.size, 2, none⟩ = some (.int .i64 7) := (Grown.cell g3 (by first | (simp; omega) | simp | omega)).trans (by simp [go_sem, *])
  have q3_9 : w3.cell? ⟨w2.heap.size, 3, none⟩ = some (.int .i64 100) := (Grown.cell g3 (by first | (simp; omega) | simp | omega)).trans (by simp [go_sem, *])
  have G3 : Grown w w3 := Grown.trans (by go_grown) g3
  have z3_w0 : w.heap.size < w3.heap.size := by omega
  have z3_w10 : w1.heap.size < w3.heap.size := by omega
  have z3_w20 : w2.heap.size < w3.heap.size := by omega
  clear g3 q2_0 q2_1 q2_2 q2_3 q2_4 q2_5
  go_wp2_with fail
  refine (x4 _).mono ?_
  rintro e w4 ⟨rfl, g4⟩
  have z4 := (laid g4).2.2
  try simp at z4
  have q4_0 : w4.cell? ⟨w.heap.size, 0, none⟩ = some (.int .i64 1000) := (Grown.cell g4 (by first | (simp; omega) | simp | omega)).trans (by simp [go_sem, *])
  have q4_1 : w4.cell? ⟨w.heap.size, 1, none⟩ = some (.int .i64 (-5)) := (Grown.cell g4 (by first | (simp; omega) | simp | omega)).trans (by simp [go_sem, *])
  have q4_2 : w4.cell? ⟨w.heap.size, 2, none⟩ = some (.int .i64 5) := (Grown.cell g4 (by first | (simp; omega) | simp | omega)).trans (by simp [go_sem, *])
  have q4_3 : w4.cell? ⟨w.heap.size, 3, none⟩ = some (.int .i64 100) := (Grown.cell g4 (by first | (simp; omega) | simp | omega)).trans (by simp [go_sem, *])
  have q4_4 : w4.cell? ⟨w1.heap.size, 0, none⟩ = some (.int .i64 20993) := (Grown.cell g4 (by first | (simp; omega) | simp | omega)).trans (by simp [go_sem, *])
  have q4_5 : w4.cell? ⟨w1.heap.size, 1, none⟩ = some (.int .i64 21007) := (Grown.cell g4 (by first | (simp; omega) | simp | omega)).trans (by simp [go_sem, *])
  have q4_6 : w4.cell? ⟨w2.heap.size, 0, none⟩ = some (.int .i64 21000) := (Grown.cell g4 (by first | (simp; omega) | simp | omega)).trans (by simp [go_sem, *])
  have q4_7 : w4.cell? ⟨w2.heap.size, 1, none⟩ = some (.int .i64 6) := (Grown.cell g4 (by first | (simp; omega) | simp | omega)).trans (by simp [go_sem, *])
  have q4_8 : w4.cell? ⟨w2.heap.size, 2, none⟩ = some (.int .i64 7) := (Grown.cell g4 (by first | (simp; omega) | simp | omega)).trans (by simp [go_sem, *])
  have q4_9 : w4.cell? ⟨w2.heap.size, 3, none⟩ = some (.int .i64 100) := (Grown.cell g4 (by first | (simp; omega) | simp | omega)).trans (by simp [go_sem, *])
  have G4 : Grown w w4 := Grown.trans (by go_grown) g4
  have z4_w0 : w.heap.size < w4.heap.size := by omega
  have z4_w10 : w1.heap.size < w4.heap.size := by omega
  have z4_w20 : w2.heap.size < w4.heap.size := by omega
  have z4_w30 : w3.heap.size < w4.heap.size := by omega
  clear g4 q3_0 q3_1 q3_2 q3_3 q3_4 q3_5 q3_6 q3_7 q3_8 q3_9
  go_wp2_with fail
  refine (x5 _).mono ?_
  rintro e w5 ⟨rfl, g5⟩
  have z5 := (laid g5).2.2
  try simp at z5
  have q5_0 : w5.cell? ⟨w.heap.size, 0, none⟩ = some (.int .i64 1000) := (Grown.cell g5 (by first | (simp; omega) | simp | omega)).trans (by simp [go_sem, *])
  have q5_1 : w5.cell? ⟨w.heap.size, 1, none⟩ = some (.int .i64 (-5)) := (Grown.cell g5 (by first | (simp; omega) | simp | omega)).trans (by simp [go_sem, *])
  have q5_2 : w5.cell? ⟨w.heap.size, 2, none⟩ = some (.int .i64 5) := (Grown.cell g5 (by first | (simp; omega) | simp | omega)).trans (by simp [go_sem, *])
  have q5_3 : w5.cell? ⟨w.heap.size, 3, none⟩ = some (.int .i64 100) := (Grown.cell g5 (by first | (simp; omega) | simp | omega)).trans (by simp [go_sem, *])
  have q5_4 : w5.cell? ⟨w1.heap.size, 0, none⟩ = some (.int .i64 20993) := (Grown.cell g5 (by first | (simp; omega) | simp | omega)).trans (by simp [go_sem, *])
  have q5_5 : w5.cell? ⟨w1.heap.size, 1, none⟩ = some (.int .i64 21007) := (Grown.cell g5 (by first | (simp; omega) | simp | omega)).trans (by simp [go_sem, *])
  have q5_6 : w5.cell? ⟨w2.heap.size, 0, none⟩ = some (.int .i64 21000) := (Grown.cell g5 (by first | (simp; omega) | simp | omega)).trans (by simp [go_sem, *])
  have q5_7 : w5.cell? ⟨w2.heap.size, 1, none⟩ = some (.int .i64 6) := (Grown.cell g5 (by first | (simp; omega) | simp | omega)).trans (by simp [go_sem, *])
  have q5_8 : w5.cell? ⟨w2.heap.size, 2, none⟩ = some (.int .i64 7) := (Grown.cell g5 (by first | (simp; omega) | simp | omega)).trans (by simp [go_sem, *])
  have q5_9 : w5.cell? ⟨w2.heap.size, 3, none⟩ = some (.int .i64 100) := (Grown.cell g5 (by first | (simp; omega) | simp | omega)).trans (by simp [go_sem, *])
  have q5_10 : w5.cell? ⟨w4.heap.size, 0, none⟩ = some (.int .i64 994) := (Grown.cell g5 (by first | (simp; omega) | simp | omega)).trans (by simp [go_sem, *])
  have q5_11 : w5.cell? ⟨w4.heap.size, 1, none⟩ = some (.int .i64 1006) := (Grown.cell g5 (by first | (simp; omega) | simp | omega)).trans (by simp [go_sem, *])
  have G5 : Grown w w5 := Grown.trans (by go_grown) g5
  have z5_w0 : w.heap.size < w5.heap.size := by omega
  have z5_w10 : w1.heap.size < w5.heap.size := by omega
  have z5_w20 : w2.heap.size < w5.heap.size := by omega
  have z5_w30 : w3.heap.size < w5.heap.size := by omega
  have z5_w40 : w4.heap.size < w5.heap.size := by omega
  clear g5 q4_0 q4_1 q4_2 q4_3 q4_4 q4_5 q4_6 q4_7 q4_8 q4_9
  go_wp2_with fail
  refine (x6 _).mono ?_
  rintro e w6 ⟨rfl, g6⟩
  have z6 := (laid g6).2.2
  try simp at z6
  have q6_0 : w6.cell? ⟨w1.heap.size, 0, none⟩ = some (.int .i64 20993) := (Grown.cell g6 (by first | (simp; omega) | simp | omega)).trans (by simp [go_sem, *])
  have q6_1 : w6.cell? ⟨w1.heap.size, 1, none⟩ = some (.int .i64 21007) := (Grown.cell g6 (by first | (simp; omega) | simp | omega)).trans (by simp [go_sem, *])
  have q6_2 : w6.cell? ⟨w2.heap.size, 0, none⟩ = some (.int .i64 21000) := (Grown.cell g6 (by first | (simp; omega) | simp | omega)).trans (by simp [go_sem, *])
  have q6_3 : w6.cell? ⟨w2.heap.size, 1, none⟩ = some (.int .i64 6) := (Grown.cell g6 (by first | (simp; omega) | simp | omega)).trans (by simp [go_sem, *])
  have q6_4 : w6.cell? ⟨w2.heap.size, 2, none⟩ = some (.int .i64 7) := (Grown.cell g6 (by first | (simp; omega) | simp | omega)).trans (by simp [go_sem, *])
  have q6_5 : w6.cell? ⟨w2.heap.size, 3, none⟩ = some (.int .i64 100) := (Grown.cell g6 (by first | (simp; omega) | simp | omega)).trans (by simp [go_sem, *])
  have q6_6 : w6.cell? ⟨w4.heap.size, 0, none⟩ = some (.int .i64 994) := (Grown.cell g6 (by first | (simp; omega) | simp | omega)).trans (by simp [go_sem, *])
  have q6_7 : w6.cell? ⟨w4.heap.size, 1, none⟩ = some (.int .i64 1006) := (Grown.cell g6 (by first | (simp; omega) | simp | omega)).trans (by simp [go_sem, *])
  have G6 : Grown w w6 := Grown.trans (by go_grown) g6
  have z6_w0 : w.heap.size < w6.heap.size := by omega
  have z6_w10 : w1.heap.size < w6.heap.size := by omega
  have z6_w20 : w2.heap.size < w6.heap.size := by omega
  have z6_w30 : w3.heap.size < w6.heap.size := by omega
  have z6_w40 : w4.heap.size < w6.heap.size := by omega
  have z6_w50 : w5.heap.size < w6.heap.size := by omega
  clear g6 q5_0 q5_1 q5_2 q5_3 q5_4 q5_5 q5_6 q5_7 q5_8 q5_9 q5_10 q5_11
  go_wp2_with fail
  go_ret
  exact ⟨by first | rfl | (simp; omega), by go_grown⟩
end Ck
end Go.Proofs.Ytndabfpinkakbaa
