/-
  The law ClockMatchesReference.
-/
import Derived.Test.YtndabfpinkakbaaCkHead
import Derived.Test.YtndabfpinkakbaaCkS
import Derived.Test.YtndabfpinkakbaaCkT
namespace Go.Proofs.Ytndabfpinkakbaa
open Go.RowKit Sn
namespace Ck
set_option maxRecDepth 100000
theorem both_valid (a l h d : Int) : ∃ b : Bool, (∀ w : World, Calls Try.prog 13 #[.agg #[.int .i64 a, .int .i64 l, .int .i64 h, .int .i64 d]] w fun e w' => e = .returned (.bool b) ∧ Grown w w') ∧ (∀ w : World, Calls Try.prog 14 #[.agg #[.int .i64 a, .int .i64 l, .int .i64 h, .int .i64 d]] w fun e w' => e = .returned (.bool b) ∧ Grown w w') := by
  by_cases hc : Cv a l h d
  · exact ⟨true, fun w => valid_yes a l h d w hc, fun w => R.valid_yes a l h d w hc⟩
  · exact ⟨false, fun w => valid_no a l h d w hc, fun w => R.valid_no a l h d w hc⟩
theorem both_true (a l h d r : Int) : ∃ p q k : Int, (∀ w : World, Calls Try.prog 11 #[.agg #[.int .i64 a, .int .i64 l, .int .i64 h, .int .i64 d], .int .i64 r] w fun e w' => e = .returned (.tuple #[.agg #[.int .i64 p, .int .i64 q], .int .i64 k]) ∧ Grown w w') ∧ (∀ w : World, Calls Try.prog 12 #[.agg #[.int .i64 a, .int .i64 l, .int .i64 h, .int .i64 d], .int .i64 r] w fun e w' => e = .returned (.tuple #[.agg #[.int .i64 p, .int .i64 q], .int .i64 k]) ∧ Grown w w') := by
  by_cases hc : Cv a l h d ∧ Rd r
  · exact ⟨_, _, _, fun w => true_ok a l h d r w hc.1 hc.2, fun w => R.true_ok a l h d r w hc.1 hc.2⟩
  · exact ⟨_, _, _, fun w => true_bad a l h d r w hc, fun w => R.true_bad a l h d r w hc⟩
theorem both_reading (a l h d t : Int) : ∃ p q k : Int, (∀ w : World, Calls Try.prog 15 #[.agg #[.int .i64 a, .int .i64 l, .int .i64 h, .int .i64 d], .int .i64 t] w fun e w' => e = .returned (.tuple #[.agg #[.int .i64 p, .int .i64 q], .int .i64 k]) ∧ Grown w w') ∧ (∀ w : World, Calls Try.prog 16 #[.agg #[.int .i64 a, .int .i64 l, .int .i64 h, .int .i64 d], .int .i64 t] w fun e w' => e = .returned (.tuple #[.agg #[.int .i64 p, .int .i64 q], .int .i64 k]) ∧ Grown w w') := by
  by_cases hc : Cv a l h d ∧ Tm t
  · obtain ⟨hc, ht⟩ := hc
    obtain ⟨k, hk⟩ := fi_some a h t hc.2.2
    obtain ⟨j, hj⟩ := la_some a l t hc.2.2
    by_cases hn : (k : Int) ≤ (j : Int) - 1
    · exact ⟨_, _, _, fun w => reading_ok a l h d t k j w hc ht hk hj hn, fun w => R.reading_ok a l h d t k j w hc ht hk hj hn⟩
    · exact ⟨_, _, _, fun w => reading_none a l h d t k j w hc ht hk hj (by omega), fun w => R.reading_none a l h d t k j w hc ht hk hj (by omega)⟩
  · exact ⟨_, _, _, fun w => reading_bad a l h d t w hc, fun w => R.reading_bad a l h d t w hc⟩
theorem both_set (a l h d r x y : Int) : ∃ (b1 b2 b3 b4 : Int) (is : Bool) (k : Int), (∀ w : World, Calls Try.prog 17 #[.agg #[.int .i64 a, .int .i64 l, .int .i64 h, .int .i64 d], .int .i64 r, .agg #[.int .i64 x, .int .i64 y]] w fun e w' => e = .returned (.tuple #[.agg #[.int .i64 b1, .int .i64 b2, .int .i64 b3, .int .i64 b4], .bool is, .int .i64 k]) ∧ Grown w w') ∧ (∀ w : World, Calls Try.prog 18 #[.agg #[.int .i64 a, .int .i64 l, .int .i64 h, .int .i64 d], .int .i64 r, .agg #[.int .i64 x, .int .i64 y]] w fun e w' => e = .returned (.tuple #[.agg #[.int .i64 b1, .int .i64 b2, .int .i64 b3, .int .i64 b4], .bool is, .int .i64 k]) ∧ Grown w w') := by
  by_cases hc : Cv a l h d ∧ Rd r ∧ Vd x y
  · obtain ⟨hc, hr, hv⟩ := hc
    by_cases hm : ml a l d r x ≤ mh a h d r y
    · by_cases ho : Of (ml a l d r x - r) (mh a h d r y - r)
      · exact ⟨_, _, _, _, _, _, fun w => set_ok a l h d r x y w hc hr hv hm ho, fun w => R.set_ok a l h d r x y w hc hr hv hm ho⟩
      · exact ⟨_, _, _, _, _, _, fun w => set_range a l h d r x y w hc hr hv hm ho, fun w => R.set_range a l h d r x y w hc hr hv hm ho⟩
    · exact ⟨_, _, _, _, _, _, fun w => set_apart a l h d r x y w hc hr hv (by omega), fun w => R.set_apart a l h d r x y w hc hr hv (by omega)⟩
  · exact ⟨_, _, _, _, _, _, fun w => set_bad a l h d r x y w hc, fun w => R.set_bad a l h d r x y w hc⟩
set_option maxHeartbeats 4000000 in
theorem matches_true (a l h d r t x y : Int) (w : World) : Calls Try.prog 3 #[.agg #[.int .i64 a, .int .i64 l, .int .i64 h, .int .i64 d], .int .i64 r, .int .i64 t, .agg #[.int .i64 x, .int .i64 y]] w fun e w' => e = .returned (.bool true) ∧ Grown w w' := by
  obtain ⟨b, V1, V2⟩ := both_valid a l h d
  obtain ⟨p1, q1, e1, T1, T2⟩ := both_true a l h d r
  obtain ⟨p2, q2, e2, F1, F2⟩ := both_reading a l h d t
  obtain ⟨b1, b2, b3, b4, is, e3, S1, S2⟩ := both_set a l h d r x y
  replace V1 := Lib.hid V1
  replace V2 := Lib.hid V2
  replace T1 := Lib.hid T1
  replace T2 := Lib.hid T2
  replace F1 := Lib.hid F1
  replace F2 := Lib.hid F2
  replace S1 := Lib.hid S1
  replace S2 := Lib.hid S2
  go_enter Try.func3, Try.ntmps3
  go_wp2_with fail
  refine (head_true _).mono ?_
  rintro e w1 ⟨rfl, g1⟩
  have z1 := (laid g1).2.2
  have f1 := (laid g1).2.1
  try simp at z1
  have q1_0 : w1.cell? ⟨w.heap.size, 0, none⟩ = some (.int .i64 a) := (Grown.cell g1 (by first | (simp; omega) | simp | omega)).trans (by simp [go_sem, *])
  have q1_1 : w1.cell? ⟨w.heap.size, 1, none⟩ = some (.int .i64 l) := (Grown.cell g1 (by first | (simp; omega) | simp | omega)).trans (by simp [go_sem, *])
  have q1_2 : w1.cell? ⟨w.heap.size, 2, none⟩ = some (.int .i64 h) := (Grown.cell g1 (by first | (simp; omega) | simp | omega)).trans (by simp [go_sem, *])
  have q1_3 : w1.cell? ⟨w.heap.size, 3, none⟩ = some (.int .i64 d) := (Grown.cell g1 (by first | (simp; omega) | simp | omega)).trans (by simp [go_sem, *])
  have q1_4 : w1.cell? ⟨w.heap.size + 1, 0, none⟩ = some (.int .i64 x) := (Grown.cell g1 (by first | (simp; omega) | simp | omega)).trans (by simp [go_sem, *])
  have q1_5 : w1.cell? ⟨w.heap.size + 1, 1, none⟩ = some (.int .i64 y) := (Grown.cell g1 (by first | (simp; omega) | simp | omega)).trans (by simp [go_sem, *])
  have G1 : Grown w w1 := Grown.trans (by first | (go_grown; done) | exact Grown.drewN (by go_grown) _) g1
  have z1_w0 : w.heap.size < w1.heap.size := by omega
  have z1_w1 : w.heap.size + 1 < w1.heap.size := by omega
  clear g1
  go_wp2_with fail
  refine (T1.out _).mono ?_
  rintro e w2 ⟨rfl, g2⟩
  have z2 := (laid g2).2.2
  have f2 := (laid g2).2.1
  try simp at z2
  have q2_0 : w2.cell? ⟨w.heap.size, 0, none⟩ = some (.int .i64 a) := (Grown.cell g2 (by first | (simp; omega) | simp | omega)).trans (by simp [go_sem, *])
  have q2_1 : w2.cell? ⟨w.heap.size, 1, none⟩ = some (.int .i64 l) := (Grown.cell g2 (by first | (simp; omega) | simp | omega)).trans (by simp [go_sem, *])
  have q2_2 : w2.cell? ⟨w.heap.size, 2, none⟩ = some (.int .i64 h) := (Grown.cell g2 (by first | (simp; omega) | simp | omega)).trans (by simp [go_sem, *])
  have q2_3 : w2.cell? ⟨w.heap.size, 3, none⟩ = some (.int .i64 d) := (Grown.cell g2 (by first | (simp; omega) | simp | omega)).trans (by simp [go_sem, *])
  have q2_4 : w2.cell? ⟨w.heap.size + 1, 0, none⟩ = some (.int .i64 x) := (Grown.cell g2 (by first | (simp; omega) | simp | omega)).trans (by simp [go_sem, *])
  have q2_5 : w2.cell? ⟨w.heap.size + 1, 1, none⟩ = some (.int .i64 y) := (Grown.cell g2 (by first | (simp; omega) | simp | omega)).trans (by simp [go_sem, *])
  have G2 : Grown w w2 := Grown.trans (by first | (go_grown; done) | exact Grown.drewN (by go_grown) _) g2
  have z2_w0 : w.heap.size < w2.heap.size := by omega
  have z2_w1 : w.heap.size + 1 < w2.heap.size := by omega
  clear g2 q1_0 q1_1 q1_2 q1_3 q1_4 q1_5
  go_wp2_with fail
  refine (T2.out _).mono ?_
  rintro e w3 ⟨rfl, g3⟩
  have z3 := (laid g3).2.2
  have f3 := (laid g3).2.1
  try simp at z3
  have q3_0 : w3.cell? ⟨w.heap.size, 0, none⟩ = some (.int .i64 a) := (Grown.cell g3 (by first | (simp; omega) | simp | omega)).trans (by simp [go_sem, *])
  have q3_1 : w3.cell? ⟨w.heap.size, 1, none⟩ = some (.int .i64 l) := (Grown.cell g3 (by first | (simp; omega) | simp | omega)).trans (by simp [go_sem, *])
  have q3_2 : w3.cell? ⟨w.heap.size, 2, none⟩ = some (.int .i64 h) := (Grown.cell g3 (by first | (simp; omega) | simp | omega)).trans (by simp [go_sem, *])
  have q3_3 : w3.cell? ⟨w.heap.size, 3, none⟩ = some (.int .i64 d) := (Grown.cell g3 (by first | (simp; omega) | simp | omega)).trans (by simp [go_sem, *])
  have q3_4 : w3.cell? ⟨w.heap.size + 1, 0, none⟩ = some (.int .i64 x) := (Grown.cell g3 (by first | (simp; omega) | simp | omega)).trans (by simp [go_sem, *])
  have q3_5 : w3.cell? ⟨w.heap.size + 1, 1, none⟩ = some (.int .i64 y) := (Grown.cell g3 (by first | (simp; omega) | simp | omega)).trans (by simp [go_sem, *])
  have q3_6 : w3.cell? ⟨w2.heap.size, 0, none⟩ = some (.int .i64 p1) := (Grown.cell g3 (by first | (simp; omega) | simp | omega)).trans (by simp [go_sem, *])
  have q3_7 : w3.cell? ⟨w2.heap.size, 1, none⟩ = some (.int .i64 q1) := (Grown.cell g3 (by first | (simp; omega) | simp | omega)).trans (by simp [go_sem, *])
  have G3 : Grown w w3 := Grown.trans (by first | (go_grown; done) | exact Grown.drewN (by go_grown) _) g3
  have z3_w0 : w.heap.size < w3.heap.size := by omega
  have z3_w1 : w.heap.size + 1 < w3.heap.size := by omega
  have z3_w20 : w2.heap.size < w3.heap.size := by omega
  clear g3 q2_0 q2_1 q2_2 q2_3 q2_4 q2_5
  go_wp2_with fail
  go_region_held3 (fun W => W.cell? ⟨w.heap.size, 0, none⟩ = some (.int .i64 a) ∧ W.cell? ⟨w.heap.size, 1, none⟩ = some (.int .i64 l) ∧ W.cell? ⟨w.heap.size, 2, none⟩ = some (.int .i64 h) ∧ W.cell? ⟨w.heap.size, 3, none⟩ = some (.int .i64 d) ∧ W.cell? ⟨w.heap.size + 1, 0, none⟩ = some (.int .i64 x) ∧ W.cell? ⟨w.heap.size + 1, 1, none⟩ = some (.int .i64 y) ∧ W.cell? ⟨w2.heap.size, 0, none⟩ = some (.int .i64 p1) ∧ W.cell? ⟨w2.heap.size, 1, none⟩ = some (.int .i64 q1) ∧ W.cell? ⟨w3.heap.size, 0, none⟩ = some (.int .i64 p1) ∧ W.cell? ⟨w3.heap.size, 1, none⟩ = some (.int .i64 q1)) (simp [go_sem, *])
    (first | (go_at_call 13; refine (V1.out _).mono ?_; rintro e w4 ⟨rfl, g4⟩; obtain ⟨c4, f4, z4⟩ := laid g4; (try simp at z4); (try simp only [World.size_drew, World.cell?_drew] at c4); have G4 : Grown w w4 := Grown.trans (by go_grown) g4; clear g4; have z4_0 : w.heap.size < w4.heap.size := (by omega); have z4_1 : w.heap.size + 1 < w4.heap.size := (by omega); have z4_2 : w2.heap.size < w4.heap.size := (by omega); have z4_3 : w3.heap.size < w4.heap.size := (by omega)) | (go_at_call 14; refine (V2.out _).mono ?_; rintro e w5 ⟨rfl, g5⟩; obtain ⟨c5, f5, z5⟩ := laid g5; (try simp at z5); (try simp only [World.size_drew, World.cell?_drew] at c5); have G5 : Grown w w5 := Grown.trans (by go_grown) g5; clear g5; have z5_0 : w.heap.size < w5.heap.size := (by omega); have z5_1 : w.heap.size + 1 < w5.heap.size := (by omega); have z5_2 : w2.heap.size < w5.heap.size := (by omega); have z5_3 : w3.heap.size < w5.heap.size := (by omega)))
  clear c4 c5 z4
  go_wp2_with fail
  refine (F1.out _).mono ?_
  rintro e w6 ⟨rfl, g6⟩
  have z6 := (laid g6).2.2
  have f6 := (laid g6).2.1
  try simp at z6
  have q6_0 : w6.cell? ⟨w.heap.size, 0, none⟩ = some (.int .i64 a) := (Grown.cell g6 (by first | (simp; omega) | simp | omega)).trans (by simp [go_sem, *])
  have q6_1 : w6.cell? ⟨w.heap.size, 1, none⟩ = some (.int .i64 l) := (Grown.cell g6 (by first | (simp; omega) | simp | omega)).trans (by simp [go_sem, *])
  have q6_2 : w6.cell? ⟨w.heap.size, 2, none⟩ = some (.int .i64 h) := (Grown.cell g6 (by first | (simp; omega) | simp | omega)).trans (by simp [go_sem, *])
  have q6_3 : w6.cell? ⟨w.heap.size, 3, none⟩ = some (.int .i64 d) := (Grown.cell g6 (by first | (simp; omega) | simp | omega)).trans (by simp [go_sem, *])
  have q6_4 : w6.cell? ⟨w.heap.size + 1, 0, none⟩ = some (.int .i64 x) := (Grown.cell g6 (by first | (simp; omega) | simp | omega)).trans (by simp [go_sem, *])
  have q6_5 : w6.cell? ⟨w.heap.size + 1, 1, none⟩ = some (.int .i64 y) := (Grown.cell g6 (by first | (simp; omega) | simp | omega)).trans (by simp [go_sem, *])
  have q6_6 : w6.cell? ⟨w2.heap.size, 0, none⟩ = some (.int .i64 p1) := (Grown.cell g6 (by first | (simp; omega) | simp | omega)).trans (by simp [go_sem, *])
  have q6_7 : w6.cell? ⟨w2.heap.size, 1, none⟩ = some (.int .i64 q1) := (Grown.cell g6 (by first | (simp; omega) | simp | omega)).trans (by simp [go_sem, *])
  have q6_8 : w6.cell? ⟨w3.heap.size, 0, none⟩ = some (.int .i64 p1) := (Grown.cell g6 (by first | (simp; omega) | simp | omega)).trans (by simp [go_sem, *])
  have q6_9 : w6.cell? ⟨w3.heap.size, 1, none⟩ = some (.int .i64 q1) := (Grown.cell g6 (by first | (simp; omega) | simp | omega)).trans (by simp [go_sem, *])
  have q6_10 : w6.cell? ⟨w3.heap.size, 0, none⟩ = some (.int .i64 p1) := (Grown.cell g6 (by first | (simp; omega) | simp | omega)).trans (by simp [go_sem, *])
  have q6_11 : w6.cell? ⟨w3.heap.size, 1, none⟩ = some (.int .i64 q1) := (Grown.cell g6 (by first | (simp; omega) | simp | omega)).trans (by simp [go_sem, *])
  have G6 : Grown w w6 := Grown.trans (by first | (go_grown; done) | exact Grown.drewN (by go_grown) _) g6
  have z6_w0 : w.heap.size < w6.heap.size := by omega
  have z6_w1 : w.heap.size + 1 < w6.heap.size := by omega
  have z6_w20 : w2.heap.size < w6.heap.size := by omega
  have z6_w30 : w3.heap.size < w6.heap.size := by omega
  clear g6 q3_0 q3_1 q3_2 q3_3 q3_4 q3_5 q3_6 q3_7
  go_wp2_with fail
  refine (F2.out _).mono ?_
  rintro e w7 ⟨rfl, g7⟩
  have z7 := (laid g7).2.2
  have f7 := (laid g7).2.1
  try simp at z7
  have q7_0 : w7.cell? ⟨w.heap.size, 0, none⟩ = some (.int .i64 a) := (Grown.cell g7 (by first | (simp; omega) | simp | omega)).trans (by simp [go_sem, *])
  have q7_1 : w7.cell? ⟨w.heap.size, 1, none⟩ = some (.int .i64 l) := (Grown.cell g7 (by first | (simp; omega) | simp | omega)).trans (by simp [go_sem, *])
  have q7_2 : w7.cell? ⟨w.heap.size, 2, none⟩ = some (.int .i64 h) := (Grown.cell g7 (by first | (simp; omega) | simp | omega)).trans (by simp [go_sem, *])
  have q7_3 : w7.cell? ⟨w.heap.size, 3, none⟩ = some (.int .i64 d) := (Grown.cell g7 (by first | (simp; omega) | simp | omega)).trans (by simp [go_sem, *])
  have q7_4 : w7.cell? ⟨w.heap.size + 1, 0, none⟩ = some (.int .i64 x) := (Grown.cell g7 (by first | (simp; omega) | simp | omega)).trans (by simp [go_sem, *])
  have q7_5 : w7.cell? ⟨w.heap.size + 1, 1, none⟩ = some (.int .i64 y) := (Grown.cell g7 (by first | (simp; omega) | simp | omega)).trans (by simp [go_sem, *])
  have q7_6 : w7.cell? ⟨w3.heap.size, 0, none⟩ = some (.int .i64 p1) := (Grown.cell g7 (by first | (simp; omega) | simp | omega)).trans (by simp [go_sem, *])
  have q7_7 : w7.cell? ⟨w3.heap.size, 1, none⟩ = some (.int .i64 q1) := (Grown.cell g7 (by first | (simp; omega) | simp | omega)).trans (by simp [go_sem, *])
  have q7_8 : w7.cell? ⟨w3.heap.size, 0, none⟩ = some (.int .i64 p1) := (Grown.cell g7 (by first | (simp; omega) | simp | omega)).trans (by simp [go_sem, *])
  have q7_9 : w7.cell? ⟨w3.heap.size, 1, none⟩ = some (.int .i64 q1) := (Grown.cell g7 (by first | (simp; omega) | simp | omega)).trans (by simp [go_sem, *])
  have q7_10 : w7.cell? ⟨w2.heap.size, 0, none⟩ = some (.int .i64 p2) := (Grown.cell g7 (by first | (simp; omega) | simp | omega)).trans (by simp [go_sem, *])
  have q7_11 : w7.cell? ⟨w2.heap.size, 1, none⟩ = some (.int .i64 q2) := (Grown.cell g7 (by first | (simp; omega) | simp | omega)).trans (by simp [go_sem, *])
  have G7 : Grown w w7 := Grown.trans (by first | (go_grown; done) | exact Grown.drewN (by go_grown) _) g7
  have z7_w0 : w.heap.size < w7.heap.size := by omega
  have z7_w1 : w.heap.size + 1 < w7.heap.size := by omega
  have z7_w20 : w2.heap.size < w7.heap.size := by omega
  have z7_w30 : w3.heap.size < w7.heap.size := by omega
  clear g7 q6_0 q6_1 q6_2 q6_3 q6_4 q6_5 q6_6 q6_7 q6_8 q6_9 q6_10 q6_11
  go_wp2_with fail
  refine (S1.out _).mono ?_
  rintro e w8 ⟨rfl, g8⟩
  have z8 := (laid g8).2.2
  have f8 := (laid g8).2.1
  try simp at z8
  have q8_0 : w8.cell? ⟨w.heap.size, 0, none⟩ = some (.int .i64 a) := (Grown.cell g8 (by first | (simp; omega) | simp | omega)).trans (by simp [go_sem, *])
  have q8_1 : w8.cell? ⟨w.heap.size, 1, none⟩ = some (.int .i64 l) := (Grown.cell g8 (by first | (simp; omega) | simp | omega)).trans (by simp [go_sem, *])
  have q8_2 : w8.cell? ⟨w.heap.size, 2, none⟩ = some (.int .i64 h) := (Grown.cell g8 (by first | (simp; omega) | simp | omega)).trans (by simp [go_sem, *])
  have q8_3 : w8.cell? ⟨w.heap.size, 3, none⟩ = some (.int .i64 d) := (Grown.cell g8 (by first | (simp; omega) | simp | omega)).trans (by simp [go_sem, *])
  have q8_4 : w8.cell? ⟨w.heap.size + 1, 0, none⟩ = some (.int .i64 x) := (Grown.cell g8 (by first | (simp; omega) | simp | omega)).trans (by simp [go_sem, *])
  have q8_5 : w8.cell? ⟨w.heap.size + 1, 1, none⟩ = some (.int .i64 y) := (Grown.cell g8 (by first | (simp; omega) | simp | omega)).trans (by simp [go_sem, *])
  have q8_6 : w8.cell? ⟨w2.heap.size, 0, none⟩ = some (.int .i64 p2) := (Grown.cell g8 (by first | (simp; omega) | simp | omega)).trans (by simp [go_sem, *])
  have q8_7 : w8.cell? ⟨w2.heap.size, 1, none⟩ = some (.int .i64 q2) := (Grown.cell g8 (by first | (simp; omega) | simp | omega)).trans (by simp [go_sem, *])
  have q8_8 : w8.cell? ⟨w3.heap.size, 0, none⟩ = some (.int .i64 p2) := (Grown.cell g8 (by first | (simp; omega) | simp | omega)).trans (by simp [go_sem, *])
  have q8_9 : w8.cell? ⟨w3.heap.size, 1, none⟩ = some (.int .i64 q2) := (Grown.cell g8 (by first | (simp; omega) | simp | omega)).trans (by simp [go_sem, *])
  have G8 : Grown w w8 := Grown.trans (by first | (go_grown; done) | exact Grown.drewN (by go_grown) _) g8
  have z8_w0 : w.heap.size < w8.heap.size := by omega
  have z8_w1 : w.heap.size + 1 < w8.heap.size := by omega
  have z8_w20 : w2.heap.size < w8.heap.size := by omega
  have z8_w30 : w3.heap.size < w8.heap.size := by omega
  clear g8 q7_0 q7_1 q7_2 q7_3 q7_4 q7_5 q7_6 q7_7 q7_8 q7_9 q7_10 q7_11
  go_wp2_with fail
  refine (S2.out _).mono ?_
  rintro e w9 ⟨rfl, g9⟩
  have z9 := (laid g9).2.2
  have f9 := (laid g9).2.1
  try simp at z9
  have q9_0 : w9.cell? ⟨w.heap.size, 0, none⟩ = some (.int .i64 a) := (Grown.cell g9 (by first | (simp; omega) | simp | omega)).trans (by simp [go_sem, *])
  have q9_1 : w9.cell? ⟨w.heap.size, 1, none⟩ = some (.int .i64 l) := (Grown.cell g9 (by first | (simp; omega) | simp | omega)).trans (by simp [go_sem, *])
  have q9_2 : w9.cell? ⟨w.heap.size, 2, none⟩ = some (.int .i64 h) := (Grown.cell g9 (by first | (simp; omega) | simp | omega)).trans (by simp [go_sem, *])
  have q9_3 : w9.cell? ⟨w.heap.size, 3, none⟩ = some (.int .i64 d) := (Grown.cell g9 (by first | (simp; omega) | simp | omega)).trans (by simp [go_sem, *])
  have q9_4 : w9.cell? ⟨w.heap.size + 1, 0, none⟩ = some (.int .i64 x) := (Grown.cell g9 (by first | (simp; omega) | simp | omega)).trans (by simp [go_sem, *])
  have q9_5 : w9.cell? ⟨w.heap.size + 1, 1, none⟩ = some (.int .i64 y) := (Grown.cell g9 (by first | (simp; omega) | simp | omega)).trans (by simp [go_sem, *])
  have q9_6 : w9.cell? ⟨w2.heap.size, 0, none⟩ = some (.int .i64 p2) := (Grown.cell g9 (by first | (simp; omega) | simp | omega)).trans (by simp [go_sem, *])
  have q9_7 : w9.cell? ⟨w2.heap.size, 1, none⟩ = some (.int .i64 q2) := (Grown.cell g9 (by first | (simp; omega) | simp | omega)).trans (by simp [go_sem, *])
  have q9_8 : w9.cell? ⟨w3.heap.size, 0, none⟩ = some (.int .i64 p2) := (Grown.cell g9 (by first | (simp; omega) | simp | omega)).trans (by simp [go_sem, *])
  have q9_9 : w9.cell? ⟨w3.heap.size, 1, none⟩ = some (.int .i64 q2) := (Grown.cell g9 (by first | (simp; omega) | simp | omega)).trans (by simp [go_sem, *])
  have q9_10 : w9.cell? ⟨w8.heap.size, 0, none⟩ = some (.int .i64 b1) := (Grown.cell g9 (by first | (simp; omega) | simp | omega)).trans (by simp [go_sem, *])
  have q9_11 : w9.cell? ⟨w8.heap.size, 1, none⟩ = some (.int .i64 b2) := (Grown.cell g9 (by first | (simp; omega) | simp | omega)).trans (by simp [go_sem, *])
  have q9_12 : w9.cell? ⟨w8.heap.size, 2, none⟩ = some (.int .i64 b3) := (Grown.cell g9 (by first | (simp; omega) | simp | omega)).trans (by simp [go_sem, *])
  have q9_13 : w9.cell? ⟨w8.heap.size, 3, none⟩ = some (.int .i64 b4) := (Grown.cell g9 (by first | (simp; omega) | simp | omega)).trans (by simp [go_sem, *])
  have G9 : Grown w w9 := Grown.trans (by first | (go_grown; done) | exact Grown.drewN (by go_grown) _) g9
  have z9_w0 : w.heap.size < w9.heap.size := by omega
  have z9_w1 : w.heap.size + 1 < w9.heap.size := by omega
  have z9_w20 : w2.heap.size < w9.heap.size := by omega
  have z9_w30 : w3.heap.size < w9.heap.size := by omega
  have z9_w80 : w8.heap.size < w9.heap.size := by omega
  clear g9 q8_0 q8_1 q8_2 q8_3 q8_4 q8_5 q8_6 q8_7 q8_8 q8_9
  go_wp2_with fail
  go_ret
  exact ⟨by first | rfl | (simp; omega), by go_grown⟩
end Ck
end Go.Proofs.Ytndabfpinkakbaa
