/-
  The walk of the law SpanMatchesReference: it returns true.
-/
import Derived.Test.YtpendmjfmhjibaaSpanLawsC
namespace Go.Proofs.Ytpendmjfmhjibaa
open Go.RowKit
namespace Sn

theorem sameAdd (a b c d : Int) : ∃ x y er : Int, (∀ w, Calls Try.prog 15 #[.agg #[.int .i64 a, .int .i64 b], .agg #[.int .i64 c, .int .i64 d]] w fun e w' => e = .returned (.tuple #[.agg #[.int .i64 x, .int .i64 y], .int .i64 er]) ∧ Grown w w') ∧ (∀ w, Calls Try.prog 16 #[.agg #[.int .i64 a, .int .i64 b], .agg #[.int .i64 c, .int .i64 d]] w fun e w' => e = .returned (.tuple #[.agg #[.int .i64 x, .int .i64 y], .int .i64 er]) ∧ Grown w w') := by
  by_cases h : Vd a b ∧ Vd c d
  · by_cases k : Vd (a + c) (b + d)
    · exact ⟨_, _, _, (spAdd_ok a b c d · h k), (refAdd_ok a b c d · h k)⟩
    · exact ⟨_, _, _, (spAdd_range a b c d · h k), (refAdd_range a b c d · h k)⟩
  · exact ⟨_, _, _, (spAdd_bad a b c d · h), (refAdd_bad a b c d · h)⟩

theorem sameSub (a b c d : Int) : ∃ x y er : Int, (∀ w, Calls Try.prog 17 #[.agg #[.int .i64 a, .int .i64 b], .agg #[.int .i64 c, .int .i64 d]] w fun e w' => e = .returned (.tuple #[.agg #[.int .i64 x, .int .i64 y], .int .i64 er]) ∧ Grown w w') ∧ (∀ w, Calls Try.prog 18 #[.agg #[.int .i64 a, .int .i64 b], .agg #[.int .i64 c, .int .i64 d]] w fun e w' => e = .returned (.tuple #[.agg #[.int .i64 x, .int .i64 y], .int .i64 er]) ∧ Grown w w') := by
  by_cases h : Vd a b ∧ Vd c d
  · by_cases k : Vd (a - d) (b - c)
    · exact ⟨_, _, _, (spSub_ok a b c d · h k), (refSub_ok a b c d · h k)⟩
    · exact ⟨_, _, _, (spSub_range a b c d · h k), (refSub_range a b c d · h k)⟩
  · exact ⟨_, _, _, (spSub_bad a b c d · h), (refSub_bad a b c d · h)⟩

theorem sameJoin (a b c d : Int) : ∃ x y er : Int, (∀ w, Calls Try.prog 21 #[.agg #[.int .i64 a, .int .i64 b], .agg #[.int .i64 c, .int .i64 d]] w fun e w' => e = .returned (.tuple #[.agg #[.int .i64 x, .int .i64 y], .int .i64 er]) ∧ Grown w w') ∧ (∀ w, Calls Try.prog 22 #[.agg #[.int .i64 a, .int .i64 b], .agg #[.int .i64 c, .int .i64 d]] w fun e w' => e = .returned (.tuple #[.agg #[.int .i64 x, .int .i64 y], .int .i64 er]) ∧ Grown w w') := by
  by_cases h : Vd a b ∧ Vd c d
  · exact ⟨_, _, _, (spJoin_ok a b c d · h), (refJoin_ok a b c d · h)⟩
  · exact ⟨_, _, _, (spJoin_bad a b c d · h), (refJoin_bad a b c d · h)⟩
theorem sameTimes (a b c d : Int) : ∃ x y er : Int, (∀ w, Calls Try.prog 23 #[.agg #[.int .i64 a, .int .i64 b], .agg #[.int .i64 c, .int .i64 d]] w fun e w' => e = .returned (.tuple #[.agg #[.int .i64 x, .int .i64 y], .int .i64 er]) ∧ Grown w w') ∧ (∀ w, Calls Try.prog 24 #[.agg #[.int .i64 a, .int .i64 b], .agg #[.int .i64 c, .int .i64 d]] w fun e w' => e = .returned (.tuple #[.agg #[.int .i64 x, .int .i64 y], .int .i64 er]) ∧ Grown w w') := by
  by_cases h : Vd a b ∧ Pa c d
  · by_cases k : Vd (d1000 (mn (a * c) (a * d))) (u1000 (mx (b * c) (b * d)))
    · exact ⟨_, _, _, (spTimes_ok a b c d · h k), (refTimes_ok a b c d · h k)⟩
    · exact ⟨_, _, _, (spTimes_range a b c d · h k), (refTimes_range a b c d · h k)⟩
  · exact ⟨_, _, _, (spTimes_bad a b c d · h), (refTimes_bad a b c d · h)⟩
theorem sameMeet (a b c d : Int) : ∃ (x y : Int) (v : Bool) (er : Int), (∀ w, Calls Try.prog 19 #[.agg #[.int .i64 a, .int .i64 b], .agg #[.int .i64 c, .int .i64 d]] w fun e w' => e = .returned (.tuple #[.agg #[.int .i64 x, .int .i64 y], .bool v, .int .i64 er]) ∧ Grown w w') ∧ (∀ w, Calls Try.prog 20 #[.agg #[.int .i64 a, .int .i64 b], .agg #[.int .i64 c, .int .i64 d]] w fun e w' => e = .returned (.tuple #[.agg #[.int .i64 x, .int .i64 y], .bool v, .int .i64 er]) ∧ Grown w w') := by
  by_cases h : Vd a b ∧ Vd c d
  · by_cases k : mx a c ≤ mn b d
    · exact ⟨_, _, _, _, (spMeet_ok a b c d · h k), (refMeet_ok a b c d · h k)⟩
    · exact ⟨_, _, _, _, (spMeet_none a b c d · h (by omega)), (refMeet_none a b c d · h (by omega))⟩
  · exact ⟨_, _, _, _, (spMeet_bad a b c d · h), (refMeet_bad a b c d · h)⟩
theorem sameHas (a b n : Int) : ∃ (v : Bool) (er : Int), (∀ w, Calls Try.prog 11 #[.agg #[.int .i64 a, .int .i64 b], .int .i64 n] w fun e w' => e = .returned (.tuple #[.bool v, .int .i64 er]) ∧ Grown w w') ∧ (∀ w, Calls Try.prog 12 #[.agg #[.int .i64 a, .int .i64 b], .int .i64 n] w fun e w' => e = .returned (.tuple #[.bool v, .int .i64 er]) ∧ Grown w w') := by
  by_cases h : Vd a b
  · exact ⟨_, _, (spHas_ok a b n · h), (refHas_ok a b n · h)⟩
  · exact ⟨_, _, (spHas_bad a b n · h), (refHas_bad a b n · h)⟩
theorem sameValid (a b : Int) : ∃ v : Bool, (∀ w, Calls Try.prog 13 #[.agg #[.int .i64 a, .int .i64 b]] w fun e w' => e = .returned (.bool v) ∧ Grown w w') ∧ (∀ w, Calls Try.prog 14 #[.agg #[.int .i64 a, .int .i64 b]] w fun e w' => e = .returned (.bool v) ∧ Grown w w') := by
  by_cases h : Vd a b
  · exact ⟨true, (spValid_yes a b · h), (refValid_yes a b · h)⟩
  · exact ⟨false, (spValid_no a b · h), (refValid_no a b · h)⟩

set_option maxRecDepth 100000 in
set_option maxHeartbeats 8000000 in
theorem law_matches (a b c d n : Int) (w : World) : Calls Try.prog 3 #[.agg #[.int .i64 a, .int .i64 b], .agg #[.int .i64 c, .int .i64 d], .int .i64 n] w fun e w' => e = .returned (.bool true) ∧ Grown w w' := by
  obtain ⟨vv, SV0, RV0⟩ := sameValid a b
  obtain ⟨hv, he, SH0, RH0⟩ := sameHas a b n
  obtain ⟨x1, y1, e1, SA0, RA0⟩ := sameAdd a b c d
  obtain ⟨x2, y2, e2, SB0, RB0⟩ := sameSub a b c d
  obtain ⟨x3, y3, v3, e3, SM0, RM0⟩ := sameMeet a b c d
  obtain ⟨x4, y4, e4, SJ0, RJ0⟩ := sameJoin a b c d
  obtain ⟨x5, y5, e5, ST0, RT0⟩ := sameTimes a b c d
  have SV := Lib.hid SV0
  have RV := Lib.hid RV0
  have SH := Lib.hid SH0
  have RH := Lib.hid RH0
  have SA := Lib.hid SA0
  have RA := Lib.hid RA0
  have SB := Lib.hid SB0
  have RB := Lib.hid RB0
  have SM := Lib.hid SM0
  have RM := Lib.hid RM0
  have SJ := Lib.hid SJ0
  have RJ := Lib.hid RJ0
  have ST := Lib.hid ST0
  have RT := Lib.hid RT0
  clear SV0 RV0 SH0 RH0 SA0 RA0 SB0 RB0 SM0 RM0 SJ0 RJ0 ST0 RT0
  go_enter Try.func3, Try.ntmps3
  go_wp2_with fail
  refine (head_any _).mono ?_
  rintro e w1 ⟨rfl, g1⟩
  obtain ⟨c1, f1, z1⟩ := laid g1
  try simp at z1
  have G1 : Grown w w1 := Grown.trans (by go_grown) g1
  clear g1
  have z1_0 : w.heap.size < w1.heap.size := by omega
  have z1_0a : w.heap.size < w1.heap.size + 1 := by omega
  have z1_1 : w.heap.size + 1 < w1.heap.size := by omega
  have z1_1a : w.heap.size + 1 < w1.heap.size + 1 := by omega
  go_wp2_with fail
  refine (SH.out _).mono ?_
  rintro e w2 ⟨rfl, g2⟩
  obtain ⟨c2, f2, z2⟩ := laid g2
  try simp at z2
  have G2 : Grown w w2 := Grown.trans (by go_grown) g2
  clear g2
  have z2_0 : w.heap.size < w2.heap.size := by omega
  have z2_0a : w.heap.size < w2.heap.size + 1 := by omega
  have z2_1 : w.heap.size + 1 < w2.heap.size := by omega
  have z2_1a : w.heap.size + 1 < w2.heap.size + 1 := by omega
  go_wp2_with fail
  refine (RH.out _).mono ?_
  rintro e w3 ⟨rfl, g3⟩
  obtain ⟨c3, f3, z3⟩ := laid g3
  try simp at z3
  have G3 : Grown w w3 := Grown.trans (by go_grown) g3
  clear g3
  have z3_0 : w.heap.size < w3.heap.size := by omega
  have z3_0a : w.heap.size < w3.heap.size + 1 := by omega
  have z3_1 : w.heap.size + 1 < w3.heap.size := by omega
  have z3_1a : w.heap.size + 1 < w3.heap.size + 1 := by omega
  go_wp2_with fail
  have q3_0_0 : w3.cell? ⟨w.heap.size, 0, none⟩ = some (.int .i64 a) := by simp [go_sem, *]
  have q3_0_1 : w3.cell? ⟨w.heap.size, 1, none⟩ = some (.int .i64 b) := by simp [go_sem, *]
  have q3_1_0 : w3.cell? ⟨w.heap.size + 1, 0, none⟩ = some (.int .i64 c) := by simp [go_sem, *]
  have q3_1_1 : w3.cell? ⟨w.heap.size + 1, 1, none⟩ = some (.int .i64 d) := by simp [go_sem, *]
  clear c1 f1 c2 f2 c3 f3
  clear z1 G1 z2 G2
  go_region_held3 (fun w' => w'.cell? ⟨w.heap.size, 0, none⟩ = some (.int .i64 a) ∧ w'.cell? ⟨w.heap.size, 1, none⟩ = some (.int .i64 b) ∧ w'.cell? ⟨w.heap.size + 1, 0, none⟩ = some (.int .i64 c) ∧ w'.cell? ⟨w.heap.size + 1, 1, none⟩ = some (.int .i64 d)) (first | assumption | (simp [go_sem, *]; done))
    (first | (go_at_call 13; refine (SV.out _).mono ?_; rintro e w4 ⟨rfl, g4⟩; (have S4 : w4.cell? ⟨w.heap.size, 0, none⟩ = some (.int .i64 a) ∧ w4.cell? ⟨w.heap.size, 1, none⟩ = some (.int .i64 b) ∧ w4.cell? ⟨w.heap.size + 1, 0, none⟩ = some (.int .i64 c) ∧ w4.cell? ⟨w.heap.size + 1, 1, none⟩ = some (.int .i64 d) := ⟨(Grown.cell g4 (by first | omega | (simp; omega))).trans (by first | (with_reducible assumption) | simp [go_sem, *]), (Grown.cell g4 (by first | omega | (simp; omega))).trans (by first | (with_reducible assumption) | simp [go_sem, *]), (Grown.cell g4 (by first | omega | (simp; omega))).trans (by first | (with_reducible assumption) | simp [go_sem, *]), (Grown.cell g4 (by first | omega | (simp; omega))).trans (by first | (with_reducible assumption) | simp [go_sem, *])⟩); obtain ⟨c4, f4, z4⟩ := laid g4; clear c4; (try simp at z4); (have G4 : Grown w w4 := Grown.trans (by go_grown) g4); (have z4_0 : w.heap.size < w4.heap.size := by omega); (have z4_1 : w.heap.size + 1 < w4.heap.size := by omega)) | (go_at_call 14; refine (RV.out _).mono ?_; rintro e w5 ⟨rfl, g5⟩; (have S5 : w5.cell? ⟨w.heap.size, 0, none⟩ = some (.int .i64 a) ∧ w5.cell? ⟨w.heap.size, 1, none⟩ = some (.int .i64 b) ∧ w5.cell? ⟨w.heap.size + 1, 0, none⟩ = some (.int .i64 c) ∧ w5.cell? ⟨w.heap.size + 1, 1, none⟩ = some (.int .i64 d) := ⟨(Grown.cell g5 (by first | omega | (simp; omega))).trans (by first | (with_reducible assumption) | simp [go_sem, *]), (Grown.cell g5 (by first | omega | (simp; omega))).trans (by first | (with_reducible assumption) | simp [go_sem, *]), (Grown.cell g5 (by first | omega | (simp; omega))).trans (by first | (with_reducible assumption) | simp [go_sem, *]), (Grown.cell g5 (by first | omega | (simp; omega))).trans (by first | (with_reducible assumption) | simp [go_sem, *])⟩); obtain ⟨c5, f5, z5⟩ := laid g5; clear c5; (try simp at z5); (have G5 : Grown w w5 := Grown.trans (by go_grown) g5); (have z5_0 : w.heap.size < w5.heap.size := by omega); (have z5_1 : w.heap.size + 1 < w5.heap.size := by omega)))
  obtain ⟨q5_0_0, q5_0_1, q5_1_0, q5_1_1⟩ : w5.cell? ⟨w.heap.size, 0, none⟩ = some (.int .i64 a) ∧ w5.cell? ⟨w.heap.size, 1, none⟩ = some (.int .i64 b) ∧ w5.cell? ⟨w.heap.size + 1, 0, none⟩ = some (.int .i64 c) ∧ w5.cell? ⟨w.heap.size + 1, 1, none⟩ = some (.int .i64 d) := by assumption
  clear f4 f5 z4 G4 S4 S5
  go_wp2_with fail
  refine (SA.out _).mono ?_
  rintro e w6 ⟨rfl, g6⟩
  obtain ⟨c6, f6, z6⟩ := laid g6
  try simp at z6
  have G6 : Grown w w6 := Grown.trans (by go_grown) g6
  clear g6
  have z6_0 : w.heap.size < w6.heap.size := by omega
  have z6_0a : w.heap.size < w6.heap.size + 1 := by omega
  have z6_1 : w.heap.size + 1 < w6.heap.size := by omega
  have z6_1a : w.heap.size + 1 < w6.heap.size + 1 := by omega
  go_wp2_with fail
  refine (RA.out _).mono ?_
  rintro e w7 ⟨rfl, g7⟩
  obtain ⟨c7, f7, z7⟩ := laid g7
  try simp at z7
  have G7 : Grown w w7 := Grown.trans (by go_grown) g7
  clear g7
  have z7_0 : w.heap.size < w7.heap.size := by omega
  have z7_0a : w.heap.size < w7.heap.size + 1 := by omega
  have z7_1 : w.heap.size + 1 < w7.heap.size := by omega
  have z7_1a : w.heap.size + 1 < w7.heap.size + 1 := by omega
  have z7_2 : w6.heap.size < w7.heap.size := by omega
  have z7_2a : w6.heap.size < w7.heap.size + 1 := by omega
  go_wp2_with fail
  have n02 : ¬ w.heap.size = w6.heap.size := by omega
  have n03 : ¬ w.heap.size = w7.heap.size := by omega
  have n12 : ¬ w.heap.size + 1 = w6.heap.size := by omega
  have n13 : ¬ w.heap.size + 1 = w7.heap.size := by omega
  have n20 : ¬ w6.heap.size = w.heap.size := by omega
  have n21 : ¬ w6.heap.size = w.heap.size + 1 := by omega
  have n23 : ¬ w6.heap.size = w7.heap.size := by omega
  have n30 : ¬ w7.heap.size = w.heap.size := by omega
  have n31 : ¬ w7.heap.size = w.heap.size + 1 := by omega
  have n32 : ¬ w7.heap.size = w6.heap.size := by omega
  refine (SB.out _).mono ?_
  rintro e w8 ⟨rfl, g8⟩
  obtain ⟨c8, f8, z8⟩ := laid g8
  try simp at z8
  have G8 : Grown w w8 := Grown.trans (by go_grown) g8
  clear g8
  have z8_0 : w.heap.size < w8.heap.size := by omega
  have z8_0a : w.heap.size < w8.heap.size + 1 := by omega
  have z8_1 : w.heap.size + 1 < w8.heap.size := by omega
  have z8_1a : w.heap.size + 1 < w8.heap.size + 1 := by omega
  have z8_2 : w6.heap.size < w8.heap.size := by omega
  have z8_2a : w6.heap.size < w8.heap.size + 1 := by omega
  have z8_3 : w7.heap.size < w8.heap.size := by omega
  have z8_3a : w7.heap.size < w8.heap.size + 1 := by omega
  go_wp2_with fail
  have q8_0_0 : w8.cell? ⟨w.heap.size, 0, none⟩ = some (.int .i64 a) := by simp [go_sem, *]
  have q8_0_1 : w8.cell? ⟨w.heap.size, 1, none⟩ = some (.int .i64 b) := by simp [go_sem, *]
  have q8_1_0 : w8.cell? ⟨w.heap.size + 1, 0, none⟩ = some (.int .i64 c) := by simp [go_sem, *]
  have q8_1_1 : w8.cell? ⟨w.heap.size + 1, 1, none⟩ = some (.int .i64 d) := by simp [go_sem, *]
  have q8_2_0 : w8.cell? ⟨w6.heap.size, 0, none⟩ = some (.int .i64 x1) := by simp [go_sem, *]
  have r8_2_0 : w8.frozen? ⟨w6.heap.size, 0, none⟩ = false := by simp [go_sem, *]
  have q8_2_1 : w8.cell? ⟨w6.heap.size, 1, none⟩ = some (.int .i64 y1) := by simp [go_sem, *]
  have r8_2_1 : w8.frozen? ⟨w6.heap.size, 1, none⟩ = false := by simp [go_sem, *]
  have q8_3_0 : w8.cell? ⟨w7.heap.size, 0, none⟩ = some (.int .i64 x1) := by simp [go_sem, *]
  have r8_3_0 : w8.frozen? ⟨w7.heap.size, 0, none⟩ = false := by simp [go_sem, *]
  have q8_3_1 : w8.cell? ⟨w7.heap.size, 1, none⟩ = some (.int .i64 y1) := by simp [go_sem, *]
  have r8_3_1 : w8.frozen? ⟨w7.heap.size, 1, none⟩ = false := by simp [go_sem, *]
  clear c6 f6 c7 f7 c8 f8
  clear G6 G7
  refine (RB.out _).mono ?_
  rintro e w9 ⟨rfl, g9⟩
  obtain ⟨c9, f9, z9⟩ := laid g9
  try simp at z9
  have G9 : Grown w w9 := Grown.trans (by go_grown) g9
  clear g9
  have z9_0 : w.heap.size < w9.heap.size := by omega
  have z9_0a : w.heap.size < w9.heap.size + 1 := by omega
  have z9_1 : w.heap.size + 1 < w9.heap.size := by omega
  have z9_1a : w.heap.size + 1 < w9.heap.size + 1 := by omega
  have z9_2 : w6.heap.size < w9.heap.size := by omega
  have z9_2a : w6.heap.size < w9.heap.size + 1 := by omega
  have z9_3 : w7.heap.size < w9.heap.size := by omega
  have z9_3a : w7.heap.size < w9.heap.size + 1 := by omega
  go_wp2_with fail
  have q9_0_0 : w9.cell? ⟨w.heap.size, 0, none⟩ = some (.int .i64 a) := by simp [go_sem, *]
  have q9_0_1 : w9.cell? ⟨w.heap.size, 1, none⟩ = some (.int .i64 b) := by simp [go_sem, *]
  have q9_1_0 : w9.cell? ⟨w.heap.size + 1, 0, none⟩ = some (.int .i64 c) := by simp [go_sem, *]
  have q9_1_1 : w9.cell? ⟨w.heap.size + 1, 1, none⟩ = some (.int .i64 d) := by simp [go_sem, *]
  have q9_2_0 : w9.cell? ⟨w6.heap.size, 0, none⟩ = some (.int .i64 x2) := by simp [go_sem, *]
  have r9_2_0 : w9.frozen? ⟨w6.heap.size, 0, none⟩ = false := by simp [go_sem, *]
  have q9_2_1 : w9.cell? ⟨w6.heap.size, 1, none⟩ = some (.int .i64 y2) := by simp [go_sem, *]
  have r9_2_1 : w9.frozen? ⟨w6.heap.size, 1, none⟩ = false := by simp [go_sem, *]
  have q9_3_0 : w9.cell? ⟨w7.heap.size, 0, none⟩ = some (.int .i64 x1) := by simp [go_sem, *]
  have r9_3_0 : w9.frozen? ⟨w7.heap.size, 0, none⟩ = false := by simp [go_sem, *]
  have q9_3_1 : w9.cell? ⟨w7.heap.size, 1, none⟩ = some (.int .i64 y1) := by simp [go_sem, *]
  have r9_3_1 : w9.frozen? ⟨w7.heap.size, 1, none⟩ = false := by simp [go_sem, *]
  clear c9 f9
  refine (SM.out _).mono ?_
  rintro e w10 ⟨rfl, g10⟩
  obtain ⟨c10, f10, z10⟩ := laid g10
  try simp at z10
  have G10 : Grown w w10 := Grown.trans (by go_grown) g10
  clear g10
  have z10_0 : w.heap.size < w10.heap.size := by omega
  have z10_0a : w.heap.size < w10.heap.size + 1 := by omega
  have z10_1 : w.heap.size + 1 < w10.heap.size := by omega
  have z10_1a : w.heap.size + 1 < w10.heap.size + 1 := by omega
  have z10_2 : w6.heap.size < w10.heap.size := by omega
  have z10_2a : w6.heap.size < w10.heap.size + 1 := by omega
  have z10_3 : w7.heap.size < w10.heap.size := by omega
  have z10_3a : w7.heap.size < w10.heap.size + 1 := by omega
  go_wp2_with fail
  have q10_0_0 : w10.cell? ⟨w.heap.size, 0, none⟩ = some (.int .i64 a) := by simp [go_sem, *]
  have q10_0_1 : w10.cell? ⟨w.heap.size, 1, none⟩ = some (.int .i64 b) := by simp [go_sem, *]
  have q10_1_0 : w10.cell? ⟨w.heap.size + 1, 0, none⟩ = some (.int .i64 c) := by simp [go_sem, *]
  have q10_1_1 : w10.cell? ⟨w.heap.size + 1, 1, none⟩ = some (.int .i64 d) := by simp [go_sem, *]
  have q10_2_0 : w10.cell? ⟨w6.heap.size, 0, none⟩ = some (.int .i64 x2) := by simp [go_sem, *]
  have r10_2_0 : w10.frozen? ⟨w6.heap.size, 0, none⟩ = false := by simp [go_sem, *]
  have q10_2_1 : w10.cell? ⟨w6.heap.size, 1, none⟩ = some (.int .i64 y2) := by simp [go_sem, *]
  have r10_2_1 : w10.frozen? ⟨w6.heap.size, 1, none⟩ = false := by simp [go_sem, *]
  have q10_3_0 : w10.cell? ⟨w7.heap.size, 0, none⟩ = some (.int .i64 x2) := by simp [go_sem, *]
  have r10_3_0 : w10.frozen? ⟨w7.heap.size, 0, none⟩ = false := by simp [go_sem, *]
  have q10_3_1 : w10.cell? ⟨w7.heap.size, 1, none⟩ = some (.int .i64 y2) := by simp [go_sem, *]
  have r10_3_1 : w10.frozen? ⟨w7.heap.size, 1, none⟩ = false := by simp [go_sem, *]
  clear c10 f10
  refine (RM.out _).mono ?_
  rintro e w11 ⟨rfl, g11⟩
  obtain ⟨c11, f11, z11⟩ := laid g11
  try simp at z11
  have G11 : Grown w w11 := Grown.trans (by go_grown) g11
  clear g11
  have z11_0 : w.heap.size < w11.heap.size := by omega
  have z11_0a : w.heap.size < w11.heap.size + 1 := by omega
  have z11_1 : w.heap.size + 1 < w11.heap.size := by omega
  have z11_1a : w.heap.size + 1 < w11.heap.size + 1 := by omega
  have z11_2 : w6.heap.size < w11.heap.size := by omega
  have z11_2a : w6.heap.size < w11.heap.size + 1 := by omega
  have z11_3 : w7.heap.size < w11.heap.size := by omega
  have z11_3a : w7.heap.size < w11.heap.size + 1 := by omega
  go_wp2_with fail
  have q11_0_0 : w11.cell? ⟨w.heap.size, 0, none⟩ = some (.int .i64 a) := by simp [go_sem, *]
  have q11_0_1 : w11.cell? ⟨w.heap.size, 1, none⟩ = some (.int .i64 b) := by simp [go_sem, *]
  have q11_1_0 : w11.cell? ⟨w.heap.size + 1, 0, none⟩ = some (.int .i64 c) := by simp [go_sem, *]
  have q11_1_1 : w11.cell? ⟨w.heap.size + 1, 1, none⟩ = some (.int .i64 d) := by simp [go_sem, *]
  have q11_2_0 : w11.cell? ⟨w6.heap.size, 0, none⟩ = some (.int .i64 x3) := by simp [go_sem, *]
  have r11_2_0 : w11.frozen? ⟨w6.heap.size, 0, none⟩ = false := by simp [go_sem, *]
  have q11_2_1 : w11.cell? ⟨w6.heap.size, 1, none⟩ = some (.int .i64 y3) := by simp [go_sem, *]
  have r11_2_1 : w11.frozen? ⟨w6.heap.size, 1, none⟩ = false := by simp [go_sem, *]
  have q11_3_0 : w11.cell? ⟨w7.heap.size, 0, none⟩ = some (.int .i64 x2) := by simp [go_sem, *]
  have r11_3_0 : w11.frozen? ⟨w7.heap.size, 0, none⟩ = false := by simp [go_sem, *]
  have q11_3_1 : w11.cell? ⟨w7.heap.size, 1, none⟩ = some (.int .i64 y2) := by simp [go_sem, *]
  have r11_3_1 : w11.frozen? ⟨w7.heap.size, 1, none⟩ = false := by simp [go_sem, *]
  clear c11 f11
  refine (SJ.out _).mono ?_
  rintro e w12 ⟨rfl, g12⟩
  obtain ⟨c12, f12, z12⟩ := laid g12
  try simp at z12
  have G12 : Grown w w12 := Grown.trans (by go_grown) g12
  clear g12
  have z12_0 : w.heap.size < w12.heap.size := by omega
  have z12_0a : w.heap.size < w12.heap.size + 1 := by omega
  have z12_1 : w.heap.size + 1 < w12.heap.size := by omega
  have z12_1a : w.heap.size + 1 < w12.heap.size + 1 := by omega
  have z12_2 : w6.heap.size < w12.heap.size := by omega
  have z12_2a : w6.heap.size < w12.heap.size + 1 := by omega
  have z12_3 : w7.heap.size < w12.heap.size := by omega
  have z12_3a : w7.heap.size < w12.heap.size + 1 := by omega
  go_wp2_with fail
  have q12_0_0 : w12.cell? ⟨w.heap.size, 0, none⟩ = some (.int .i64 a) := by simp [go_sem, *]
  have q12_0_1 : w12.cell? ⟨w.heap.size, 1, none⟩ = some (.int .i64 b) := by simp [go_sem, *]
  have q12_1_0 : w12.cell? ⟨w.heap.size + 1, 0, none⟩ = some (.int .i64 c) := by simp [go_sem, *]
  have q12_1_1 : w12.cell? ⟨w.heap.size + 1, 1, none⟩ = some (.int .i64 d) := by simp [go_sem, *]
  have q12_2_0 : w12.cell? ⟨w6.heap.size, 0, none⟩ = some (.int .i64 x3) := by simp [go_sem, *]
  have r12_2_0 : w12.frozen? ⟨w6.heap.size, 0, none⟩ = false := by simp [go_sem, *]
  have q12_2_1 : w12.cell? ⟨w6.heap.size, 1, none⟩ = some (.int .i64 y3) := by simp [go_sem, *]
  have r12_2_1 : w12.frozen? ⟨w6.heap.size, 1, none⟩ = false := by simp [go_sem, *]
  have q12_3_0 : w12.cell? ⟨w7.heap.size, 0, none⟩ = some (.int .i64 x3) := by simp [go_sem, *]
  have r12_3_0 : w12.frozen? ⟨w7.heap.size, 0, none⟩ = false := by simp [go_sem, *]
  have q12_3_1 : w12.cell? ⟨w7.heap.size, 1, none⟩ = some (.int .i64 y3) := by simp [go_sem, *]
  have r12_3_1 : w12.frozen? ⟨w7.heap.size, 1, none⟩ = false := by simp [go_sem, *]
  clear c12 f12
  refine (RJ.out _).mono ?_
  rintro e w13 ⟨rfl, g13⟩
  obtain ⟨c13, f13, z13⟩ := laid g13
  try simp at z13
  have G13 : Grown w w13 := Grown.trans (by go_grown) g13
  clear g13
  have z13_0 : w.heap.size < w13.heap.size := by omega
  have z13_0a : w.heap.size < w13.heap.size + 1 := by omega
  have z13_1 : w.heap.size + 1 < w13.heap.size := by omega
  have z13_1a : w.heap.size + 1 < w13.heap.size + 1 := by omega
  have z13_2 : w6.heap.size < w13.heap.size := by omega
  have z13_2a : w6.heap.size < w13.heap.size + 1 := by omega
  have z13_3 : w7.heap.size < w13.heap.size := by omega
  have z13_3a : w7.heap.size < w13.heap.size + 1 := by omega
  go_wp2_with fail
  have q13_0_0 : w13.cell? ⟨w.heap.size, 0, none⟩ = some (.int .i64 a) := by simp [go_sem, *]
  have q13_0_1 : w13.cell? ⟨w.heap.size, 1, none⟩ = some (.int .i64 b) := by simp [go_sem, *]
  have q13_1_0 : w13.cell? ⟨w.heap.size + 1, 0, none⟩ = some (.int .i64 c) := by simp [go_sem, *]
  have q13_1_1 : w13.cell? ⟨w.heap.size + 1, 1, none⟩ = some (.int .i64 d) := by simp [go_sem, *]
  have q13_2_0 : w13.cell? ⟨w6.heap.size, 0, none⟩ = some (.int .i64 x4) := by simp [go_sem, *]
  have r13_2_0 : w13.frozen? ⟨w6.heap.size, 0, none⟩ = false := by simp [go_sem, *]
  have q13_2_1 : w13.cell? ⟨w6.heap.size, 1, none⟩ = some (.int .i64 y4) := by simp [go_sem, *]
  have r13_2_1 : w13.frozen? ⟨w6.heap.size, 1, none⟩ = false := by simp [go_sem, *]
  have q13_3_0 : w13.cell? ⟨w7.heap.size, 0, none⟩ = some (.int .i64 x3) := by simp [go_sem, *]
  have r13_3_0 : w13.frozen? ⟨w7.heap.size, 0, none⟩ = false := by simp [go_sem, *]
  have q13_3_1 : w13.cell? ⟨w7.heap.size, 1, none⟩ = some (.int .i64 y3) := by simp [go_sem, *]
  have r13_3_1 : w13.frozen? ⟨w7.heap.size, 1, none⟩ = false := by simp [go_sem, *]
  clear c13 f13
  refine (ST.out _).mono ?_
  rintro e w14 ⟨rfl, g14⟩
  obtain ⟨c14, f14, z14⟩ := laid g14
  try simp at z14
  have G14 : Grown w w14 := Grown.trans (by go_grown) g14
  clear g14
  have z14_0 : w.heap.size < w14.heap.size := by omega
  have z14_0a : w.heap.size < w14.heap.size + 1 := by omega
  have z14_1 : w.heap.size + 1 < w14.heap.size := by omega
  have z14_1a : w.heap.size + 1 < w14.heap.size + 1 := by omega
  have z14_2 : w6.heap.size < w14.heap.size := by omega
  have z14_2a : w6.heap.size < w14.heap.size + 1 := by omega
  have z14_3 : w7.heap.size < w14.heap.size := by omega
  have z14_3a : w7.heap.size < w14.heap.size + 1 := by omega
  go_wp2_with fail
  have q14_0_0 : w14.cell? ⟨w.heap.size, 0, none⟩ = some (.int .i64 a) := by simp [go_sem, *]
  have q14_0_1 : w14.cell? ⟨w.heap.size, 1, none⟩ = some (.int .i64 b) := by simp [go_sem, *]
  have q14_1_0 : w14.cell? ⟨w.heap.size + 1, 0, none⟩ = some (.int .i64 c) := by simp [go_sem, *]
  have q14_1_1 : w14.cell? ⟨w.heap.size + 1, 1, none⟩ = some (.int .i64 d) := by simp [go_sem, *]
  have q14_2_0 : w14.cell? ⟨w6.heap.size, 0, none⟩ = some (.int .i64 x4) := by simp [go_sem, *]
  have r14_2_0 : w14.frozen? ⟨w6.heap.size, 0, none⟩ = false := by simp [go_sem, *]
  have q14_2_1 : w14.cell? ⟨w6.heap.size, 1, none⟩ = some (.int .i64 y4) := by simp [go_sem, *]
  have r14_2_1 : w14.frozen? ⟨w6.heap.size, 1, none⟩ = false := by simp [go_sem, *]
  have q14_3_0 : w14.cell? ⟨w7.heap.size, 0, none⟩ = some (.int .i64 x4) := by simp [go_sem, *]
  have r14_3_0 : w14.frozen? ⟨w7.heap.size, 0, none⟩ = false := by simp [go_sem, *]
  have q14_3_1 : w14.cell? ⟨w7.heap.size, 1, none⟩ = some (.int .i64 y4) := by simp [go_sem, *]
  have r14_3_1 : w14.frozen? ⟨w7.heap.size, 1, none⟩ = false := by simp [go_sem, *]
  clear c14 f14
  refine (RT.out _).mono ?_
  rintro e w15 ⟨rfl, g15⟩
  obtain ⟨c15, f15, z15⟩ := laid g15
  try simp at z15
  have G15 : Grown w w15 := Grown.trans (by go_grown) g15
  clear g15
  have z15_0 : w.heap.size < w15.heap.size := by omega
  have z15_0a : w.heap.size < w15.heap.size + 1 := by omega
  have z15_1 : w.heap.size + 1 < w15.heap.size := by omega
  have z15_1a : w.heap.size + 1 < w15.heap.size + 1 := by omega
  have z15_2 : w6.heap.size < w15.heap.size := by omega
  have z15_2a : w6.heap.size < w15.heap.size + 1 := by omega
  have z15_3 : w7.heap.size < w15.heap.size := by omega
  have z15_3a : w7.heap.size < w15.heap.size + 1 := by omega
  go_wp2_with fail
  have q15_0_0 : w15.cell? ⟨w.heap.size, 0, none⟩ = some (.int .i64 a) := by simp [go_sem, *]
  have q15_0_1 : w15.cell? ⟨w.heap.size, 1, none⟩ = some (.int .i64 b) := by simp [go_sem, *]
  have q15_1_0 : w15.cell? ⟨w.heap.size + 1, 0, none⟩ = some (.int .i64 c) := by simp [go_sem, *]
  have q15_1_1 : w15.cell? ⟨w.heap.size + 1, 1, none⟩ = some (.int .i64 d) := by simp [go_sem, *]
  have q15_2_0 : w15.cell? ⟨w6.heap.size, 0, none⟩ = some (.int .i64 x5) := by simp [go_sem, *]
  have r15_2_0 : w15.frozen? ⟨w6.heap.size, 0, none⟩ = false := by simp [go_sem, *]
  have q15_2_1 : w15.cell? ⟨w6.heap.size, 1, none⟩ = some (.int .i64 y5) := by simp [go_sem, *]
  have r15_2_1 : w15.frozen? ⟨w6.heap.size, 1, none⟩ = false := by simp [go_sem, *]
  have q15_3_0 : w15.cell? ⟨w7.heap.size, 0, none⟩ = some (.int .i64 x4) := by simp [go_sem, *]
  have r15_3_0 : w15.frozen? ⟨w7.heap.size, 0, none⟩ = false := by simp [go_sem, *]
  have q15_3_1 : w15.cell? ⟨w7.heap.size, 1, none⟩ = some (.int .i64 y4) := by simp [go_sem, *]
  have r15_3_1 : w15.frozen? ⟨w7.heap.size, 1, none⟩ = false := by simp [go_sem, *]
  clear c15 f15
  go_ret
  exact ⟨by first | rfl | (simp; omega), by go_grown⟩


end Sn
end Go.Proofs.Ytpendmjfmhjibaa
