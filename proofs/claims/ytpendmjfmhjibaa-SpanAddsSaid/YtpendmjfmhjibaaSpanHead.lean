/-
  The examples at the head of each law of layer 2: they all hold.
-/
import Derived.Test.YtpendmjfmhjibaaSpanCodeB
namespace Go.Proofs.Ytpendmjfmhjibaa
open Go.RowKit
namespace Sn

theorem laid2 {w0 W w : World} (h0 : Grown w0 W) (h : Grown W w) : ∀ b o, b < w0.heap.size → w.cell? ⟨b, o, none⟩ = w0.cell? ⟨b, o, none⟩ :=
  fun _ _ hb => Grown.cell (Grown.trans h0 h) hb
theorem of_any (lo hi : Int) (w : World) : Calls Try.prog 31 #[.int .i64 lo, .int .i64 hi] w fun e w' => e = .returned (.agg #[.int .i64 lo, .int .i64 hi]) ∧ w.alloc (.cells #[.int .i64 lo, .int .i64 hi] 23) = w' := by
  go_enter Try.func31, Try.ntmps31
  go_wp2_with fail
  exact bodyPost_ret (v := .agg #[.int .i64 lo, .int .i64 hi]) (by simp [results, Try.results31, go_sem]) rfl ⟨rfl, rfl⟩

theorem A1 (w : World) : Calls Try.prog 15 #[.agg #[.int .i64 (-2), .int .i64 3], .agg #[.int .i64 10, .int .i64 20]] w fun e w' => e = .returned (.tuple #[.agg #[.int .i64 8, .int .i64 23], .int .i64 0]) ∧ Grown w w' := spAdd_ok (-2) 3 10 20 w ⟨⟨by omega, by omega, by omega⟩, ⟨by omega, by omega, by omega⟩⟩ ⟨by omega, by omega, by omega⟩
theorem A2 (w : World) : Calls Try.prog 17 #[.agg #[.int .i64 (-2), .int .i64 3], .agg #[.int .i64 10, .int .i64 20]] w fun e w' => e = .returned (.tuple #[.agg #[.int .i64 (-22), .int .i64 (-7)], .int .i64 0]) ∧ Grown w w' := spSub_ok (-2) 3 10 20 w ⟨⟨by omega, by omega, by omega⟩, ⟨by omega, by omega, by omega⟩⟩ ⟨by omega, by omega, by omega⟩
theorem A3 (w : World) : Calls Try.prog 23 #[.agg #[.int .i64 (-5), .int .i64 7], .agg #[.int .i64 300, .int .i64 1500]] w fun e w' => e = .returned (.tuple #[.agg #[.int .i64 (-8), .int .i64 11], .int .i64 0]) ∧ Grown w w' := spTimes_ok (-5) 7 300 1500 w ⟨⟨by omega, by omega, by omega⟩, ⟨⟨by omega, by omega, by omega⟩, by omega, by omega⟩⟩ (by decide)
theorem A4 (w : World) : Calls Try.prog 19 #[.agg #[.int .i64 0, .int .i64 4], .agg #[.int .i64 5, .int .i64 9]] w fun e w' => e = .returned (.tuple #[.agg #[.int .i64 0, .int .i64 0], .bool false, .int .i64 0]) ∧ Grown w w' := spMeet_none 0 4 5 9 w ⟨⟨by omega, by omega, by omega⟩, ⟨by omega, by omega, by omega⟩⟩ (by decide)
theorem A5 (w : World) : Calls Try.prog 15 #[.agg #[.int .i64 1, .int .i64 0], .agg #[.int .i64 10, .int .i64 20]] w fun e w' => e = .returned (.tuple #[.agg #[.int .i64 0, .int .i64 0], .int .i64 1]) ∧ Grown w w' := spAdd_bad 1 0 10 20 w (by decide)
theorem A6 (w : World) : Calls Try.prog 15 #[.agg #[.int .i64 0, .int .i64 1000000000000], .agg #[.int .i64 0, .int .i64 1]] w fun e w' => e = .returned (.tuple #[.agg #[.int .i64 0, .int .i64 0], .int .i64 3]) ∧ Grown w w' := spAdd_range 0 1000000000000 0 1 w ⟨⟨by omega, by omega, by omega⟩, ⟨by omega, by omega, by omega⟩⟩ (by decide)

set_option maxRecDepth 100000 in
set_option maxHeartbeats 4000000 in
theorem head_any (w : World) : Calls Try.prog 10 #[] w fun e w' => e = .returned (.bool true) ∧ Grown w w' := by
  go_enter Try.func10, Try.ntmps10
  go_wp2_with fail
  refine (of_any _ _ _).mono ?_
  rintro e w' ⟨rfl, rfl⟩
  go_wp2_with fail
  refine (of_any _ _ _).mono ?_
  rintro e w' ⟨rfl, rfl⟩
  go_wp2_with fail
  refine (A1 _).mono ?_
  rintro e w1 ⟨rfl, g1⟩
  obtain ⟨c1, f1, z1⟩ := laid g1
  try simp at z1
  have G1 : Grown w w1 := Grown.trans (by go_grown) g1
  clear g1
  go_wp2_with fail
  refine (of_any _ _ _).mono ?_
  rintro e w' ⟨rfl, rfl⟩
  go_wp2_with fail
  refine (of_any _ _ _).mono ?_
  rintro e w' ⟨rfl, rfl⟩
  go_wp2_with fail
  refine (A2 _).mono ?_
  rintro e w2 ⟨rfl, g2⟩
  obtain ⟨c2, f2, z2⟩ := laid g2
  try simp at z2
  have d2 := laid2 (w0 := w1) (by go_grown) g2
  have G2 : Grown w w2 := Grown.trans (by go_grown) g2
  clear g2
  have z2_0 : w1.heap.size < w2.heap.size := by omega
  have z2_0a : w1.heap.size < w2.heap.size + 1 := by omega
  have z2_0b : w1.heap.size < w2.heap.size + 1 + 1 := by omega
  have z2_0c : w1.heap.size < w2.heap.size + 1 + 1 + 1 := by omega
  have z2_0d : w1.heap.size < w2.heap.size + 1 + 1 + 1 + 1 := by omega
  go_wp2_with fail
  refine (of_any _ _ _).mono ?_
  rintro e w' ⟨rfl, rfl⟩
  go_wp2_with fail
  refine (of_any _ _ _).mono ?_
  rintro e w' ⟨rfl, rfl⟩
  go_wp2_with fail
  refine (A3 _).mono ?_
  rintro e w3 ⟨rfl, g3⟩
  obtain ⟨c3, f3, z3⟩ := laid g3
  try simp at z3
  have d3 := laid2 (w0 := w2) (by go_grown) g3
  have G3 : Grown w w3 := Grown.trans (by go_grown) g3
  clear g3
  have z3_0 : w1.heap.size < w3.heap.size := by omega
  have z3_0a : w1.heap.size < w3.heap.size + 1 := by omega
  have z3_0b : w1.heap.size < w3.heap.size + 1 + 1 := by omega
  have z3_0c : w1.heap.size < w3.heap.size + 1 + 1 + 1 := by omega
  have z3_0d : w1.heap.size < w3.heap.size + 1 + 1 + 1 + 1 := by omega
  have z3_1 : w2.heap.size < w3.heap.size := by omega
  have z3_1a : w2.heap.size < w3.heap.size + 1 := by omega
  have z3_1b : w2.heap.size < w3.heap.size + 1 + 1 := by omega
  have z3_1c : w2.heap.size < w3.heap.size + 1 + 1 + 1 := by omega
  have z3_1d : w2.heap.size < w3.heap.size + 1 + 1 + 1 + 1 := by omega
  go_wp2_with fail
  refine (of_any _ _ _).mono ?_
  rintro e w' ⟨rfl, rfl⟩
  go_wp2_with fail
  refine (of_any _ _ _).mono ?_
  rintro e w' ⟨rfl, rfl⟩
  go_wp2_with fail
  refine (A4 _).mono ?_
  rintro e w4 ⟨rfl, g4⟩
  obtain ⟨c4, f4, z4⟩ := laid g4
  try simp at z4
  have d4 := laid2 (w0 := w3) (by go_grown) g4
  have G4 : Grown w w4 := Grown.trans (by go_grown) g4
  clear g4
  have z4_0 : w1.heap.size < w4.heap.size := by omega
  have z4_0a : w1.heap.size < w4.heap.size + 1 := by omega
  have z4_0b : w1.heap.size < w4.heap.size + 1 + 1 := by omega
  have z4_0c : w1.heap.size < w4.heap.size + 1 + 1 + 1 := by omega
  have z4_0d : w1.heap.size < w4.heap.size + 1 + 1 + 1 + 1 := by omega
  have z4_1 : w2.heap.size < w4.heap.size := by omega
  have z4_1a : w2.heap.size < w4.heap.size + 1 := by omega
  have z4_1b : w2.heap.size < w4.heap.size + 1 + 1 := by omega
  have z4_1c : w2.heap.size < w4.heap.size + 1 + 1 + 1 := by omega
  have z4_1d : w2.heap.size < w4.heap.size + 1 + 1 + 1 + 1 := by omega
  have z4_2 : w3.heap.size < w4.heap.size := by omega
  have z4_2a : w3.heap.size < w4.heap.size + 1 := by omega
  have z4_2b : w3.heap.size < w4.heap.size + 1 + 1 := by omega
  have z4_2c : w3.heap.size < w4.heap.size + 1 + 1 + 1 := by omega
  have z4_2d : w3.heap.size < w4.heap.size + 1 + 1 + 1 + 1 := by omega
  go_wp2_with fail
  refine (of_any _ _ _).mono ?_
  rintro e w' ⟨rfl, rfl⟩
  go_wp2_with fail
  refine (of_any _ _ _).mono ?_
  rintro e w' ⟨rfl, rfl⟩
  go_wp2_with fail
  refine (A5 _).mono ?_
  rintro e w5 ⟨rfl, g5⟩
  obtain ⟨c5, f5, z5⟩ := laid g5
  try simp at z5
  have d5 := laid2 (w0 := w4) (by go_grown) g5
  have G5 : Grown w w5 := Grown.trans (by go_grown) g5
  clear g5
  have z5_0 : w1.heap.size < w5.heap.size := by omega
  have z5_0a : w1.heap.size < w5.heap.size + 1 := by omega
  have z5_0b : w1.heap.size < w5.heap.size + 1 + 1 := by omega
  have z5_0c : w1.heap.size < w5.heap.size + 1 + 1 + 1 := by omega
  have z5_0d : w1.heap.size < w5.heap.size + 1 + 1 + 1 + 1 := by omega
  have z5_1 : w2.heap.size < w5.heap.size := by omega
  have z5_1a : w2.heap.size < w5.heap.size + 1 := by omega
  have z5_1b : w2.heap.size < w5.heap.size + 1 + 1 := by omega
  have z5_1c : w2.heap.size < w5.heap.size + 1 + 1 + 1 := by omega
  have z5_1d : w2.heap.size < w5.heap.size + 1 + 1 + 1 + 1 := by omega
  have z5_2 : w3.heap.size < w5.heap.size := by omega
  have z5_2a : w3.heap.size < w5.heap.size + 1 := by omega
  have z5_2b : w3.heap.size < w5.heap.size + 1 + 1 := by omega
  have z5_2c : w3.heap.size < w5.heap.size + 1 + 1 + 1 := by omega
  have z5_2d : w3.heap.size < w5.heap.size + 1 + 1 + 1 + 1 := by omega
  have z5_3 : w4.heap.size < w5.heap.size := by omega
  have z5_3a : w4.heap.size < w5.heap.size + 1 := by omega
  have z5_3b : w4.heap.size < w5.heap.size + 1 + 1 := by omega
  have z5_3c : w4.heap.size < w5.heap.size + 1 + 1 + 1 := by omega
  have z5_3d : w4.heap.size < w5.heap.size + 1 + 1 + 1 + 1 := by omega
  go_wp2_with fail
  refine (of_any _ _ _).mono ?_
  rintro e w' ⟨rfl, rfl⟩
  go_wp2_with fail
  refine (of_any _ _ _).mono ?_
  rintro e w' ⟨rfl, rfl⟩
  go_wp2_with fail
  refine (A6 _).mono ?_
  rintro e w6 ⟨rfl, g6⟩
  obtain ⟨c6, f6, z6⟩ := laid g6
  try simp at z6
  have d6 := laid2 (w0 := w5) (by go_grown) g6
  have G6 : Grown w w6 := Grown.trans (by go_grown) g6
  clear g6
  have z6_0 : w1.heap.size < w6.heap.size := by omega
  have z6_0a : w1.heap.size < w6.heap.size + 1 := by omega
  have z6_0b : w1.heap.size < w6.heap.size + 1 + 1 := by omega
  have z6_0c : w1.heap.size < w6.heap.size + 1 + 1 + 1 := by omega
  have z6_0d : w1.heap.size < w6.heap.size + 1 + 1 + 1 + 1 := by omega
  have z6_1 : w2.heap.size < w6.heap.size := by omega
  have z6_1a : w2.heap.size < w6.heap.size + 1 := by omega
  have z6_1b : w2.heap.size < w6.heap.size + 1 + 1 := by omega
  have z6_1c : w2.heap.size < w6.heap.size + 1 + 1 + 1 := by omega
  have z6_1d : w2.heap.size < w6.heap.size + 1 + 1 + 1 + 1 := by omega
  have z6_2 : w3.heap.size < w6.heap.size := by omega
  have z6_2a : w3.heap.size < w6.heap.size + 1 := by omega
  have z6_2b : w3.heap.size < w6.heap.size + 1 + 1 := by omega
  have z6_2c : w3.heap.size < w6.heap.size + 1 + 1 + 1 := by omega
  have z6_2d : w3.heap.size < w6.heap.size + 1 + 1 + 1 + 1 := by omega
  have z6_3 : w4.heap.size < w6.heap.size := by omega
  have z6_3a : w4.heap.size < w6.heap.size + 1 := by omega
  have z6_3b : w4.heap.size < w6.heap.size + 1 + 1 := by omega
  have z6_3c : w4.heap.size < w6.heap.size + 1 + 1 + 1 := by omega
  have z6_3d : w4.heap.size < w6.heap.size + 1 + 1 + 1 + 1 := by omega
  have z6_4 : w5.heap.size < w6.heap.size := by omega
  have z6_4a : w5.heap.size < w6.heap.size + 1 := by omega
  have z6_4b : w5.heap.size < w6.heap.size + 1 + 1 := by omega
  have z6_4c : w5.heap.size < w6.heap.size + 1 + 1 + 1 := by omega
  have z6_4d : w5.heap.size < w6.heap.size + 1 + 1 + 1 + 1 := by omega
  go_wp2_with fail
  have q00 : w6.cell? ⟨w1.heap.size, 0, none⟩ = some (.int .i64 8) := by simp [go_sem, *]
  have q01 : w6.cell? ⟨w1.heap.size, 1, none⟩ = some (.int .i64 23) := by simp [go_sem, *]
  have q10 : w6.cell? ⟨w2.heap.size, 0, none⟩ = some (.int .i64 (-22)) := by simp [go_sem, *]
  have q11 : w6.cell? ⟨w2.heap.size, 1, none⟩ = some (.int .i64 (-7)) := by simp [go_sem, *]
  have q20 : w6.cell? ⟨w3.heap.size, 0, none⟩ = some (.int .i64 (-8)) := by simp [go_sem, *]
  have q21 : w6.cell? ⟨w3.heap.size, 1, none⟩ = some (.int .i64 11) := by simp [go_sem, *]
  have q30 : w6.cell? ⟨w4.heap.size, 0, none⟩ = some (.int .i64 0) := by simp [go_sem, *]
  have q31 : w6.cell? ⟨w4.heap.size, 1, none⟩ = some (.int .i64 0) := by simp [go_sem, *]
  clear c1 c2 c3 c4 c5 c6 f1 f2 f3 f4 f5 f6 d2 d3 d4 d5 d6
  go_region_held3 (fun w' => w'.cell? ⟨w1.heap.size, 0, none⟩ = some (.int .i64 8) ∧ w'.cell? ⟨w1.heap.size, 1, none⟩ = some (.int .i64 23) ∧ w'.cell? ⟨w2.heap.size, 0, none⟩ = some (.int .i64 (-22)) ∧ w'.cell? ⟨w2.heap.size, 1, none⟩ = some (.int .i64 (-7)) ∧ w'.cell? ⟨w3.heap.size, 0, none⟩ = some (.int .i64 (-8)) ∧ w'.cell? ⟨w3.heap.size, 1, none⟩ = some (.int .i64 11) ∧ w'.cell? ⟨w4.heap.size, 0, none⟩ = some (.int .i64 0) ∧ w'.cell? ⟨w4.heap.size, 1, none⟩ = some (.int .i64 0)) (simp [go_sem, *])
    (first | (go_at_call 31; refine (of_any _ _ _).mono ?_; rintro e w' ⟨rfl, rfl⟩))
  go_wp2_with fail
  go_ret
  exact ⟨by first | rfl | (simp; omega), by go_grown⟩


end Sn
end Go.Proofs.Ytpendmjfmhjibaa
