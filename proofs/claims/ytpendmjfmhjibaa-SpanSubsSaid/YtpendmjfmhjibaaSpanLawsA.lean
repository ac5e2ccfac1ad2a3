/-
  The walk of the law SpanJoins: it returns true.
-/
import Derived.Test.YtpendmjfmhjibaaSpanHead
namespace Go.Proofs.Ytpendmjfmhjibaa
open Go.RowKit
namespace Sn

theorem refWithin_yes (a b c d : Int) (w : World) (h : c ≤ a ∧ b ≤ d) : Calls Try.prog 26 #[.agg #[.int .i64 a, .int .i64 b], .agg #[.int .i64 c, .int .i64 d]] w fun e w' => e = .returned (.bool true) ∧ Grown w w' := by
  obtain ⟨h0, h1⟩ := h
  go_enter Try.func26, Try.ntmps26
  go_wp2_with fail
  go_ret
  exact ⟨by first | rfl | (simp; omega), by go_grown⟩

theorem refWithin_no (a b c d : Int) (w : World) (h : ¬ (c ≤ a ∧ b ≤ d)) : Calls Try.prog 26 #[.agg #[.int .i64 a, .int .i64 b], .agg #[.int .i64 c, .int .i64 d]] w fun e w' => e = .returned (.bool false) ∧ Grown w w' := by
  by_cases h0 : c ≤ a
  · have h1 : d < b := by omega
    clear h
    go_enter Try.func26, Try.ntmps26
    go_wp2_with fail
    go_ret
    exact ⟨by first | rfl | (simp; omega), by go_grown⟩

  · have h1 : a < c := by omega
    clear h h0
    go_enter Try.func26, Try.ntmps26
    go_wp2_with fail
    go_ret
    exact ⟨by first | rfl | (simp; omega), by go_grown⟩

theorem join_is {a b c d L U : Int} (h : Vd a b ∧ Vd c d) (hL : mn a c = L) (hU : mx b d = U) : ∀ w, Calls Try.prog 21 #[.agg #[.int .i64 a, .int .i64 b], .agg #[.int .i64 c, .int .i64 d]] w fun e w' => e = .returned (.tuple #[.agg #[.int .i64 L, .int .i64 U], .int .i64 0]) ∧ Grown w w' := by
  intro w
  rw [← hL, ← hU]
  exact spJoin_ok a b c d w h
theorem vd_join {a b c d : Int} (h : Vd a b ∧ Vd c d) : Vd (mn a c) (mx b d) := by
  obtain ⟨⟨_, _, _⟩, ⟨_, _, _⟩⟩ := h
  rcases mn_cases a c with ⟨p, p'⟩ | ⟨p, p'⟩ <;> rcases mx_cases b d with ⟨q, q'⟩ | ⟨q, q'⟩ <;> rw [p', q'] <;> exact ⟨by omega, by omega, by omega⟩

set_option maxRecDepth 100000 in
set_option maxHeartbeats 2000000 in
theorem law_joins (a b c d : Int) (w : World) : Calls Try.prog 7 #[.agg #[.int .i64 a, .int .i64 b], .agg #[.int .i64 c, .int .i64 d]] w fun e w' => e = .returned (.bool true) ∧ Grown w w' := by
  by_cases h : Vd a b ∧ Vd c d
  · have hv := vd_join h
    have J1 := Lib.hid (join_is h rfl rfl)
    rcases mn_cases a c with ⟨p, p'⟩ | ⟨p, p'⟩ <;> rcases mx_cases b d with ⟨q, q'⟩ | ⟨q, q'⟩ <;> rw [p', q'] at J1 hv <;> clear p' q'
    · have J2 : Hid (∀ w, Calls Try.prog 21 #[.agg #[.int .i64 c, .int .i64 d], .agg #[.int .i64 a, .int .i64 b]] w fun e w' => e = .returned (.tuple #[.agg #[.int .i64 c, .int .i64 d], .int .i64 0]) ∧ Grown w w') := Lib.hid (join_is ⟨h.2, h.1⟩ (by unfold mn; split <;> omega) (by unfold mx; split <;> omega))
      have J3 : Hid (∀ w, Calls Try.prog 21 #[.agg #[.int .i64 c, .int .i64 d], .agg #[.int .i64 a, .int .i64 b]] w fun e w' => e = .returned (.tuple #[.agg #[.int .i64 c, .int .i64 d], .int .i64 0]) ∧ Grown w w') := Lib.hid (join_is ⟨hv, h.1⟩ (by unfold mn; split <;> omega) (by unfold mx; split <;> omega))
      clear h hv
      have e1 : (c == a) = false := by rw [beq_eq_false_iff_ne]; omega
      have e2 : (d == b) = false := by rw [beq_eq_false_iff_ne]; omega
      go_enter Try.func7, Try.ntmps7
      go_wp2_with fail
      refine (head_any _).mono ?_
      rintro e w1 ⟨rfl, g1⟩
      obtain ⟨c1, f1, z1⟩ := laid g1
      try simp at z1
      have G1 : Grown w w1 := Grown.trans (by go_grown) g1
      clear g1
      have z1_0 : w.heap.size < w1.heap.size := by omega
      have z1_0a : w.heap.size < w1.heap.size + 1 := by omega
      have z1_0b : w.heap.size < w1.heap.size + 1 + 1 := by omega
      have z1_0c : w.heap.size < w1.heap.size + 1 + 1 + 1 := by omega
      have z1_0d : w.heap.size < w1.heap.size + 1 + 1 + 1 + 1 := by omega
      have z1_1 : w.heap.size + 1 < w1.heap.size := by omega
      have z1_1a : w.heap.size + 1 < w1.heap.size + 1 := by omega
      have z1_1b : w.heap.size + 1 < w1.heap.size + 1 + 1 := by omega
      have z1_1c : w.heap.size + 1 < w1.heap.size + 1 + 1 + 1 := by omega
      have z1_1d : w.heap.size + 1 < w1.heap.size + 1 + 1 + 1 + 1 := by omega
      go_wp2_with fail
      refine (J1.out _).mono ?_
      rintro e w2 ⟨rfl, g2⟩
      obtain ⟨c2, f2, z2⟩ := laid g2
      try simp at z2
      have d2 := laid2 (w0 := w1) (by go_grown) g2
      have G2 : Grown w w2 := Grown.trans (by go_grown) g2
      clear g2
      have z2_0 : w.heap.size < w2.heap.size := by omega
      have z2_0a : w.heap.size < w2.heap.size + 1 := by omega
      have z2_0b : w.heap.size < w2.heap.size + 1 + 1 := by omega
      have z2_0c : w.heap.size < w2.heap.size + 1 + 1 + 1 := by omega
      have z2_0d : w.heap.size < w2.heap.size + 1 + 1 + 1 + 1 := by omega
      have z2_1 : w.heap.size + 1 < w2.heap.size := by omega
      have z2_1a : w.heap.size + 1 < w2.heap.size + 1 := by omega
      have z2_1b : w.heap.size + 1 < w2.heap.size + 1 + 1 := by omega
      have z2_1c : w.heap.size + 1 < w2.heap.size + 1 + 1 + 1 := by omega
      have z2_1d : w.heap.size + 1 < w2.heap.size + 1 + 1 + 1 + 1 := by omega
      go_wp2_with fail
      refine (J2.out _).mono ?_
      rintro e w3 ⟨rfl, g3⟩
      obtain ⟨c3, f3, z3⟩ := laid g3
      try simp at z3
      have d3 := laid2 (w0 := w2) (by go_grown) g3
      have G3 : Grown w w3 := Grown.trans (by go_grown) g3
      clear g3
      have z3_0 : w.heap.size < w3.heap.size := by omega
      have z3_0a : w.heap.size < w3.heap.size + 1 := by omega
      have z3_0b : w.heap.size < w3.heap.size + 1 + 1 := by omega
      have z3_0c : w.heap.size < w3.heap.size + 1 + 1 + 1 := by omega
      have z3_0d : w.heap.size < w3.heap.size + 1 + 1 + 1 + 1 := by omega
      have z3_1 : w.heap.size + 1 < w3.heap.size := by omega
      have z3_1a : w.heap.size + 1 < w3.heap.size + 1 := by omega
      have z3_1b : w.heap.size + 1 < w3.heap.size + 1 + 1 := by omega
      have z3_1c : w.heap.size + 1 < w3.heap.size + 1 + 1 + 1 := by omega
      have z3_1d : w.heap.size + 1 < w3.heap.size + 1 + 1 + 1 + 1 := by omega
      have z3_2 : w2.heap.size < w3.heap.size := by omega
      have z3_2a : w2.heap.size < w3.heap.size + 1 := by omega
      have z3_2b : w2.heap.size < w3.heap.size + 1 + 1 := by omega
      have z3_2c : w2.heap.size < w3.heap.size + 1 + 1 + 1 := by omega
      have z3_2d : w2.heap.size < w3.heap.size + 1 + 1 + 1 + 1 := by omega
      go_wp2_with fail
      refine (J3.out _).mono ?_
      rintro e w4 ⟨rfl, g4⟩
      obtain ⟨c4, f4, z4⟩ := laid g4
      try simp at z4
      have d4 := laid2 (w0 := w3) (by go_grown) g4
      have G4 : Grown w w4 := Grown.trans (by go_grown) g4
      clear g4
      have z4_0 : w.heap.size < w4.heap.size := by omega
      have z4_0a : w.heap.size < w4.heap.size + 1 := by omega
      have z4_0b : w.heap.size < w4.heap.size + 1 + 1 := by omega
      have z4_0c : w.heap.size < w4.heap.size + 1 + 1 + 1 := by omega
      have z4_0d : w.heap.size < w4.heap.size + 1 + 1 + 1 + 1 := by omega
      have z4_1 : w.heap.size + 1 < w4.heap.size := by omega
      have z4_1a : w.heap.size + 1 < w4.heap.size + 1 := by omega
      have z4_1b : w.heap.size + 1 < w4.heap.size + 1 + 1 := by omega
      have z4_1c : w.heap.size + 1 < w4.heap.size + 1 + 1 + 1 := by omega
      have z4_1d : w.heap.size + 1 < w4.heap.size + 1 + 1 + 1 + 1 := by omega
      have z4_2 : w2.heap.size < w4.heap.size := by omega
      have z4_2a : w2.heap.size < w4.heap.size + 1 := by omega
      have z4_2b : w2.heap.size < w4.heap.size + 1 + 1 := by omega
      have z4_2c : w2.heap.size < w4.heap.size + 1 + 1 + 1 := by omega
      have z4_2d : w2.heap.size < w4.heap.size + 1 + 1 + 1 + 1 := by omega
      have z4_3 : w3.heap.size < w4.heap.size := by omega
      have z4_3a : w3.heap.size < w4.heap.size + 1 := by omega
      have z4_3b : w3.heap.size < w4.heap.size + 1 + 1 := by omega
      have z4_3c : w3.heap.size < w4.heap.size + 1 + 1 + 1 := by omega
      have z4_3d : w3.heap.size < w4.heap.size + 1 + 1 + 1 + 1 := by omega
      go_wp2_with fail
      refine (refWithin_yes _ _ _ _ _ ⟨by omega, by omega⟩).mono ?_
      rintro e w5 ⟨rfl, g5⟩
      obtain ⟨c5, f5, z5⟩ := laid g5
      try simp at z5
      have d5 := laid2 (w0 := w4) (by go_grown) g5
      have G5 : Grown w w5 := Grown.trans (by go_grown) g5
      clear g5
      have z5_0 : w.heap.size < w5.heap.size := by omega
      have z5_0a : w.heap.size < w5.heap.size + 1 := by omega
      have z5_0b : w.heap.size < w5.heap.size + 1 + 1 := by omega
      have z5_0c : w.heap.size < w5.heap.size + 1 + 1 + 1 := by omega
      have z5_0d : w.heap.size < w5.heap.size + 1 + 1 + 1 + 1 := by omega
      have z5_1 : w.heap.size + 1 < w5.heap.size := by omega
      have z5_1a : w.heap.size + 1 < w5.heap.size + 1 := by omega
      have z5_1b : w.heap.size + 1 < w5.heap.size + 1 + 1 := by omega
      have z5_1c : w.heap.size + 1 < w5.heap.size + 1 + 1 + 1 := by omega
      have z5_1d : w.heap.size + 1 < w5.heap.size + 1 + 1 + 1 + 1 := by omega
      have z5_2 : w2.heap.size < w5.heap.size := by omega
      have z5_2a : w2.heap.size < w5.heap.size + 1 := by omega
      have z5_2b : w2.heap.size < w5.heap.size + 1 + 1 := by omega
      have z5_2c : w2.heap.size < w5.heap.size + 1 + 1 + 1 := by omega
      have z5_2d : w2.heap.size < w5.heap.size + 1 + 1 + 1 + 1 := by omega
      have z5_3 : w3.heap.size < w5.heap.size := by omega
      have z5_3a : w3.heap.size < w5.heap.size + 1 := by omega
      have z5_3b : w3.heap.size < w5.heap.size + 1 + 1 := by omega
      have z5_3c : w3.heap.size < w5.heap.size + 1 + 1 + 1 := by omega
      have z5_3d : w3.heap.size < w5.heap.size + 1 + 1 + 1 + 1 := by omega
      have z5_4 : w4.heap.size < w5.heap.size := by omega
      have z5_4a : w4.heap.size < w5.heap.size + 1 := by omega
      have z5_4b : w4.heap.size < w5.heap.size + 1 + 1 := by omega
      have z5_4c : w4.heap.size < w5.heap.size + 1 + 1 + 1 := by omega
      have z5_4d : w4.heap.size < w5.heap.size + 1 + 1 + 1 + 1 := by omega
      go_wp2_with fail
      refine (refWithin_yes _ _ _ _ _ ⟨by omega, by omega⟩).mono ?_
      rintro e w6 ⟨rfl, g6⟩
      obtain ⟨c6, f6, z6⟩ := laid g6
      try simp at z6
      have d6 := laid2 (w0 := w5) (by go_grown) g6
      have G6 : Grown w w6 := Grown.trans (by go_grown) g6
      clear g6
      have z6_0 : w.heap.size < w6.heap.size := by omega
      have z6_0a : w.heap.size < w6.heap.size + 1 := by omega
      have z6_0b : w.heap.size < w6.heap.size + 1 + 1 := by omega
      have z6_0c : w.heap.size < w6.heap.size + 1 + 1 + 1 := by omega
      have z6_0d : w.heap.size < w6.heap.size + 1 + 1 + 1 + 1 := by omega
      have z6_1 : w.heap.size + 1 < w6.heap.size := by omega
      have z6_1a : w.heap.size + 1 < w6.heap.size + 1 := by omega
      have z6_1b : w.heap.size + 1 < w6.heap.size + 1 + 1 := by omega
      have z6_1c : w.heap.size + 1 < w6.heap.size + 1 + 1 + 1 := by omega
      have z6_1d : w.heap.size + 1 < w6.heap.size + 1 + 1 + 1 + 1 := by omega
      have z6_2 : w2.heap.size < w6.heap.size := by omega
      have z6_2a : w2.heap.size < w6.heap.size + 1 := by omega
      have z6_2b : w2.heap.size < w6.heap.size + 1 + 1 := by omega
      have z6_2c : w2.heap.size < w6.heap.size + 1 + 1 + 1 := by omega
      have z6_2d : w2.heap.size < w6.heap.size + 1 + 1 + 1 + 1 := by omega
      have z6_3 : w3.heap.size < w6.heap.size := by omega
      have z6_3a : w3.heap.size < w6.heap.size + 1 := by omega
      have z6_3b : w3.heap.size < w6.heap.size + 1 + 1 := by omega
      have z6_3c : w3.heap.size < w6.heap.size + 1 + 1 + 1 := by omega
      have z6_3d : w3.heap.size < w6.heap.size + 1 + 1 + 1 + 1 := by omega
      have z6_4 : w4.heap.size < w6.heap.size := by omega
      have z6_4a : w4.heap.size < w6.heap.size + 1 := by omega
      have z6_4b : w4.heap.size < w6.heap.size + 1 + 1 := by omega
      have z6_4c : w4.heap.size < w6.heap.size + 1 + 1 + 1 := by omega
      have z6_4d : w4.heap.size < w6.heap.size + 1 + 1 + 1 + 1 := by omega
      go_wp2_with fail
      go_ret
      exact ⟨by first | rfl | (simp; omega), by go_grown⟩
    · have J2 : Hid (∀ w, Calls Try.prog 21 #[.agg #[.int .i64 c, .int .i64 d], .agg #[.int .i64 a, .int .i64 b]] w fun e w' => e = .returned (.tuple #[.agg #[.int .i64 c, .int .i64 b], .int .i64 0]) ∧ Grown w w') := Lib.hid (join_is ⟨h.2, h.1⟩ (by unfold mn; split <;> omega) (by unfold mx; split <;> omega))
      have J3 : Hid (∀ w, Calls Try.prog 21 #[.agg #[.int .i64 c, .int .i64 b], .agg #[.int .i64 a, .int .i64 b]] w fun e w' => e = .returned (.tuple #[.agg #[.int .i64 c, .int .i64 b], .int .i64 0]) ∧ Grown w w') := Lib.hid (join_is ⟨hv, h.1⟩ (by unfold mn; split <;> omega) (by unfold mx; split <;> omega))
      clear h hv
      have e1 : (c == a) = false := by rw [beq_eq_false_iff_ne]; omega
      go_enter Try.func7, Try.ntmps7
      go_wp2_with fail
      refine (head_any _).mono ?_
      rintro e w1 ⟨rfl, g1⟩
      obtain ⟨c1, f1, z1⟩ := laid g1
      try simp at z1
      have G1 : Grown w w1 := Grown.trans (by go_grown) g1
      clear g1
      have z1_0 : w.heap.size < w1.heap.size := by omega
      have z1_0a : w.heap.size < w1.heap.size + 1 := by omega
      have z1_0b : w.heap.size < w1.heap.size + 1 + 1 := by omega
      have z1_0c : w.heap.size < w1.heap.size + 1 + 1 + 1 := by omega
      have z1_0d : w.heap.size < w1.heap.size + 1 + 1 + 1 + 1 := by omega
      have z1_1 : w.heap.size + 1 < w1.heap.size := by omega
      have z1_1a : w.heap.size + 1 < w1.heap.size + 1 := by omega
      have z1_1b : w.heap.size + 1 < w1.heap.size + 1 + 1 := by omega
      have z1_1c : w.heap.size + 1 < w1.heap.size + 1 + 1 + 1 := by omega
      have z1_1d : w.heap.size + 1 < w1.heap.size + 1 + 1 + 1 + 1 := by omega
      go_wp2_with fail
      refine (J1.out _).mono ?_
      rintro e w2 ⟨rfl, g2⟩
      obtain ⟨c2, f2, z2⟩ := laid g2
      try simp at z2
      have d2 := laid2 (w0 := w1) (by go_grown) g2
      have G2 : Grown w w2 := Grown.trans (by go_grown) g2
      clear g2
      have z2_0 : w.heap.size < w2.heap.size := by omega
      have z2_0a : w.heap.size < w2.heap.size + 1 := by omega
      have z2_0b : w.heap.size < w2.heap.size + 1 + 1 := by omega
      have z2_0c : w.heap.size < w2.heap.size + 1 + 1 + 1 := by omega
      have z2_0d : w.heap.size < w2.heap.size + 1 + 1 + 1 + 1 := by omega
      have z2_1 : w.heap.size + 1 < w2.heap.size := by omega
      have z2_1a : w.heap.size + 1 < w2.heap.size + 1 := by omega
      have z2_1b : w.heap.size + 1 < w2.heap.size + 1 + 1 := by omega
      have z2_1c : w.heap.size + 1 < w2.heap.size + 1 + 1 + 1 := by omega
      have z2_1d : w.heap.size + 1 < w2.heap.size + 1 + 1 + 1 + 1 := by omega
      go_wp2_with fail
      refine (J2.out _).mono ?_
      rintro e w3 ⟨rfl, g3⟩
      obtain ⟨c3, f3, z3⟩ := laid g3
      try simp at z3
      have d3 := laid2 (w0 := w2) (by go_grown) g3
      have G3 : Grown w w3 := Grown.trans (by go_grown) g3
      clear g3
      have z3_0 : w.heap.size < w3.heap.size := by omega
      have z3_0a : w.heap.size < w3.heap.size + 1 := by omega
      have z3_0b : w.heap.size < w3.heap.size + 1 + 1 := by omega
      have z3_0c : w.heap.size < w3.heap.size + 1 + 1 + 1 := by omega
      have z3_0d : w.heap.size < w3.heap.size + 1 + 1 + 1 + 1 := by omega
      have z3_1 : w.heap.size + 1 < w3.heap.size := by omega
      have z3_1a : w.heap.size + 1 < w3.heap.size + 1 := by omega
      have z3_1b : w.heap.size + 1 < w3.heap.size + 1 + 1 := by omega
      have z3_1c : w.heap.size + 1 < w3.heap.size + 1 + 1 + 1 := by omega
      have z3_1d : w.heap.size + 1 < w3.heap.size + 1 + 1 + 1 + 1 := by omega
      have z3_2 : w2.heap.size < w3.heap.size := by omega
      have z3_2a : w2.heap.size < w3.heap.size + 1 := by omega
      have z3_2b : w2.heap.size < w3.heap.size + 1 + 1 := by omega
      have z3_2c : w2.heap.size < w3.heap.size + 1 + 1 + 1 := by omega
      have z3_2d : w2.heap.size < w3.heap.size + 1 + 1 + 1 + 1 := by omega
      go_wp2_with fail
      refine (J3.out _).mono ?_
      rintro e w4 ⟨rfl, g4⟩
      obtain ⟨c4, f4, z4⟩ := laid g4
      try simp at z4
      have d4 := laid2 (w0 := w3) (by go_grown) g4
      have G4 : Grown w w4 := Grown.trans (by go_grown) g4
      clear g4
      have z4_0 : w.heap.size < w4.heap.size := by omega
      have z4_0a : w.heap.size < w4.heap.size + 1 := by omega
      have z4_0b : w.heap.size < w4.heap.size + 1 + 1 := by omega
      have z4_0c : w.heap.size < w4.heap.size + 1 + 1 + 1 := by omega
      have z4_0d : w.heap.size < w4.heap.size + 1 + 1 + 1 + 1 := by omega
      have z4_1 : w.heap.size + 1 < w4.heap.size := by omega
      have z4_1a : w.heap.size + 1 < w4.heap.size + 1 := by omega
      have z4_1b : w.heap.size + 1 < w4.heap.size + 1 + 1 := by omega
      have z4_1c : w.heap.size + 1 < w4.heap.size + 1 + 1 + 1 := by omega
      have z4_1d : w.heap.size + 1 < w4.heap.size + 1 + 1 + 1 + 1 := by omega
      have z4_2 : w2.heap.size < w4.heap.size := by omega
      have z4_2a : w2.heap.size < w4.heap.size + 1 := by omega
      have z4_2b : w2.heap.size < w4.heap.size + 1 + 1 := by omega
      have z4_2c : w2.heap.size < w4.heap.size + 1 + 1 + 1 := by omega
      have z4_2d : w2.heap.size < w4.heap.size + 1 + 1 + 1 + 1 := by omega
      have z4_3 : w3.heap.size < w4.heap.size := by omega
      have z4_3a : w3.heap.size < w4.heap.size + 1 := by omega
      have z4_3b : w3.heap.size < w4.heap.size + 1 + 1 := by omega
      have z4_3c : w3.heap.size < w4.heap.size + 1 + 1 + 1 := by omega
      have z4_3d : w3.heap.size < w4.heap.size + 1 + 1 + 1 + 1 := by omega
      go_wp2_with fail
      refine (refWithin_yes _ _ _ _ _ ⟨by omega, by omega⟩).mono ?_
      rintro e w5 ⟨rfl, g5⟩
      obtain ⟨c5, f5, z5⟩ := laid g5
      try simp at z5
      have d5 := laid2 (w0 := w4) (by go_grown) g5
      have G5 : Grown w w5 := Grown.trans (by go_grown) g5
      clear g5
      have z5_0 : w.heap.size < w5.heap.size := by omega
      have z5_0a : w.heap.size < w5.heap.size + 1 := by omega
      have z5_0b : w.heap.size < w5.heap.size + 1 + 1 := by omega
      have z5_0c : w.heap.size < w5.heap.size + 1 + 1 + 1 := by omega
      have z5_0d : w.heap.size < w5.heap.size + 1 + 1 + 1 + 1 := by omega
      have z5_1 : w.heap.size + 1 < w5.heap.size := by omega
      have z5_1a : w.heap.size + 1 < w5.heap.size + 1 := by omega
      have z5_1b : w.heap.size + 1 < w5.heap.size + 1 + 1 := by omega
      have z5_1c : w.heap.size + 1 < w5.heap.size + 1 + 1 + 1 := by omega
      have z5_1d : w.heap.size + 1 < w5.heap.size + 1 + 1 + 1 + 1 := by omega
      have z5_2 : w2.heap.size < w5.heap.size := by omega
      have z5_2a : w2.heap.size < w5.heap.size + 1 := by omega
      have z5_2b : w2.heap.size < w5.heap.size + 1 + 1 := by omega
      have z5_2c : w2.heap.size < w5.heap.size + 1 + 1 + 1 := by omega
      have z5_2d : w2.heap.size < w5.heap.size + 1 + 1 + 1 + 1 := by omega
      have z5_3 : w3.heap.size < w5.heap.size := by omega
      have z5_3a : w3.heap.size < w5.heap.size + 1 := by omega
      have z5_3b : w3.heap.size < w5.heap.size + 1 + 1 := by omega
      have z5_3c : w3.heap.size < w5.heap.size + 1 + 1 + 1 := by omega
      have z5_3d : w3.heap.size < w5.heap.size + 1 + 1 + 1 + 1 := by omega
      have z5_4 : w4.heap.size < w5.heap.size := by omega
      have z5_4a : w4.heap.size < w5.heap.size + 1 := by omega
      have z5_4b : w4.heap.size < w5.heap.size + 1 + 1 := by omega
      have z5_4c : w4.heap.size < w5.heap.size + 1 + 1 + 1 := by omega
      have z5_4d : w4.heap.size < w5.heap.size + 1 + 1 + 1 + 1 := by omega
      go_wp2_with fail
      refine (refWithin_yes _ _ _ _ _ ⟨by omega, by omega⟩).mono ?_
      rintro e w6 ⟨rfl, g6⟩
      obtain ⟨c6, f6, z6⟩ := laid g6
      try simp at z6
      have d6 := laid2 (w0 := w5) (by go_grown) g6
      have G6 : Grown w w6 := Grown.trans (by go_grown) g6
      clear g6
      have z6_0 : w.heap.size < w6.heap.size := by omega
      have z6_0a : w.heap.size < w6.heap.size + 1 := by omega
      have z6_0b : w.heap.size < w6.heap.size + 1 + 1 := by omega
      have z6_0c : w.heap.size < w6.heap.size + 1 + 1 + 1 := by omega
      have z6_0d : w.heap.size < w6.heap.size + 1 + 1 + 1 + 1 := by omega
      have z6_1 : w.heap.size + 1 < w6.heap.size := by omega
      have z6_1a : w.heap.size + 1 < w6.heap.size + 1 := by omega
      have z6_1b : w.heap.size + 1 < w6.heap.size + 1 + 1 := by omega
      have z6_1c : w.heap.size + 1 < w6.heap.size + 1 + 1 + 1 := by omega
      have z6_1d : w.heap.size + 1 < w6.heap.size + 1 + 1 + 1 + 1 := by omega
      have z6_2 : w2.heap.size < w6.heap.size := by omega
      have z6_2a : w2.heap.size < w6.heap.size + 1 := by omega
      have z6_2b : w2.heap.size < w6.heap.size + 1 + 1 := by omega
      have z6_2c : w2.heap.size < w6.heap.size + 1 + 1 + 1 := by omega
      have z6_2d : w2.heap.size < w6.heap.size + 1 + 1 + 1 + 1 := by omega
      have z6_3 : w3.heap.size < w6.heap.size := by omega
      have z6_3a : w3.heap.size < w6.heap.size + 1 := by omega
      have z6_3b : w3.heap.size < w6.heap.size + 1 + 1 := by omega
      have z6_3c : w3.heap.size < w6.heap.size + 1 + 1 + 1 := by omega
      have z6_3d : w3.heap.size < w6.heap.size + 1 + 1 + 1 + 1 := by omega
      have z6_4 : w4.heap.size < w6.heap.size := by omega
      have z6_4a : w4.heap.size < w6.heap.size + 1 := by omega
      have z6_4b : w4.heap.size < w6.heap.size + 1 + 1 := by omega
      have z6_4c : w4.heap.size < w6.heap.size + 1 + 1 + 1 := by omega
      have z6_4d : w4.heap.size < w6.heap.size + 1 + 1 + 1 + 1 := by omega
      go_wp2_with fail
      go_ret
      exact ⟨by first | rfl | (simp; omega), by go_grown⟩
    · have J2 : Hid (∀ w, Calls Try.prog 21 #[.agg #[.int .i64 c, .int .i64 d], .agg #[.int .i64 a, .int .i64 b]] w fun e w' => e = .returned (.tuple #[.agg #[.int .i64 a, .int .i64 d], .int .i64 0]) ∧ Grown w w') := Lib.hid (join_is ⟨h.2, h.1⟩ (by unfold mn; split <;> omega) (by unfold mx; split <;> omega))
      have J3 : Hid (∀ w, Calls Try.prog 21 #[.agg #[.int .i64 a, .int .i64 d], .agg #[.int .i64 a, .int .i64 b]] w fun e w' => e = .returned (.tuple #[.agg #[.int .i64 a, .int .i64 d], .int .i64 0]) ∧ Grown w w') := Lib.hid (join_is ⟨hv, h.1⟩ (by unfold mn; split <;> omega) (by unfold mx; split <;> omega))
      clear h hv
      have e2 : (d == b) = false := by rw [beq_eq_false_iff_ne]; omega
      go_enter Try.func7, Try.ntmps7
      go_wp2_with fail
      refine (head_any _).mono ?_
      rintro e w1 ⟨rfl, g1⟩
      obtain ⟨c1, f1, z1⟩ := laid g1
      try simp at z1
      have G1 : Grown w w1 := Grown.trans (by go_grown) g1
      clear g1
      have z1_0 : w.heap.size < w1.heap.size := by omega
      have z1_0a : w.heap.size < w1.heap.size + 1 := by omega
      have z1_0b : w.heap.size < w1.heap.size + 1 + 1 := by omega
      have z1_0c : w.heap.size < w1.heap.size + 1 + 1 + 1 := by omega
      have z1_0d : w.heap.size < w1.heap.size + 1 + 1 + 1 + 1 := by omega
      have z1_1 : w.heap.size + 1 < w1.heap.size := by omega
      have z1_1a : w.heap.size + 1 < w1.heap.size + 1 := by omega
      have z1_1b : w.heap.size + 1 < w1.heap.size + 1 + 1 := by omega
      have z1_1c : w.heap.size + 1 < w1.heap.size + 1 + 1 + 1 := by omega
      have z1_1d : w.heap.size + 1 < w1.heap.size + 1 + 1 + 1 + 1 := by omega
      go_wp2_with fail
      refine (J1.out _).mono ?_
      rintro e w2 ⟨rfl, g2⟩
      obtain ⟨c2, f2, z2⟩ := laid g2
      try simp at z2
      have d2 := laid2 (w0 := w1) (by go_grown) g2
      have G2 : Grown w w2 := Grown.trans (by go_grown) g2
      clear g2
      have z2_0 : w.heap.size < w2.heap.size := by omega
      have z2_0a : w.heap.size < w2.heap.size + 1 := by omega
      have z2_0b : w.heap.size < w2.heap.size + 1 + 1 := by omega
      have z2_0c : w.heap.size < w2.heap.size + 1 + 1 + 1 := by omega
      have z2_0d : w.heap.size < w2.heap.size + 1 + 1 + 1 + 1 := by omega
      have z2_1 : w.heap.size + 1 < w2.heap.size := by omega
      have z2_1a : w.heap.size + 1 < w2.heap.size + 1 := by omega
      have z2_1b : w.heap.size + 1 < w2.heap.size + 1 + 1 := by omega
      have z2_1c : w.heap.size + 1 < w2.heap.size + 1 + 1 + 1 := by omega
      have z2_1d : w.heap.size + 1 < w2.heap.size + 1 + 1 + 1 + 1 := by omega
      go_wp2_with fail
      refine (J2.out _).mono ?_
      rintro e w3 ⟨rfl, g3⟩
      obtain ⟨c3, f3, z3⟩ := laid g3
      try simp at z3
      have d3 := laid2 (w0 := w2) (by go_grown) g3
      have G3 : Grown w w3 := Grown.trans (by go_grown) g3
      clear g3
      have z3_0 : w.heap.size < w3.heap.size := by omega
      have z3_0a : w.heap.size < w3.heap.size + 1 := by omega
      have z3_0b : w.heap.size < w3.heap.size + 1 + 1 := by omega
      have z3_0c : w.heap.size < w3.heap.size + 1 + 1 + 1 := by omega
      have z3_0d : w.heap.size < w3.heap.size + 1 + 1 + 1 + 1 := by omega
      have z3_1 : w.heap.size + 1 < w3.heap.size := by omega
      have z3_1a : w.heap.size + 1 < w3.heap.size + 1 := by omega
      have z3_1b : w.heap.size + 1 < w3.heap.size + 1 + 1 := by omega
      have z3_1c : w.heap.size + 1 < w3.heap.size + 1 + 1 + 1 := by omega
      have z3_1d : w.heap.size + 1 < w3.heap.size + 1 + 1 + 1 + 1 := by omega
      have z3_2 : w2.heap.size < w3.heap.size := by omega
      have z3_2a : w2.heap.size < w3.heap.size + 1 := by omega
      have z3_2b : w2.heap.size < w3.heap.size + 1 + 1 := by omega
      have z3_2c : w2.heap.size < w3.heap.size + 1 + 1 + 1 := by omega
      have z3_2d : w2.heap.size < w3.heap.size + 1 + 1 + 1 + 1 := by omega
      go_wp2_with fail
      refine (J3.out _).mono ?_
      rintro e w4 ⟨rfl, g4⟩
      obtain ⟨c4, f4, z4⟩ := laid g4
      try simp at z4
      have d4 := laid2 (w0 := w3) (by go_grown) g4
      have G4 : Grown w w4 := Grown.trans (by go_grown) g4
      clear g4
      have z4_0 : w.heap.size < w4.heap.size := by omega
      have z4_0a : w.heap.size < w4.heap.size + 1 := by omega
      have z4_0b : w.heap.size < w4.heap.size + 1 + 1 := by omega
      have z4_0c : w.heap.size < w4.heap.size + 1 + 1 + 1 := by omega
      have z4_0d : w.heap.size < w4.heap.size + 1 + 1 + 1 + 1 := by omega
      have z4_1 : w.heap.size + 1 < w4.heap.size := by omega
      have z4_1a : w.heap.size + 1 < w4.heap.size + 1 := by omega
      have z4_1b : w.heap.size + 1 < w4.heap.size + 1 + 1 := by omega
      have z4_1c : w.heap.size + 1 < w4.heap.size + 1 + 1 + 1 := by omega
      have z4_1d : w.heap.size + 1 < w4.heap.size + 1 + 1 + 1 + 1 := by omega
      have z4_2 : w2.heap.size < w4.heap.size := by omega
      have z4_2a : w2.heap.size < w4.heap.size + 1 := by omega
      have z4_2b : w2.heap.size < w4.heap.size + 1 + 1 := by omega
      have z4_2c : w2.heap.size < w4.heap.size + 1 + 1 + 1 := by omega
      have z4_2d : w2.heap.size < w4.heap.size + 1 + 1 + 1 + 1 := by omega
      have z4_3 : w3.heap.size < w4.heap.size := by omega
      have z4_3a : w3.heap.size < w4.heap.size + 1 := by omega
      have z4_3b : w3.heap.size < w4.heap.size + 1 + 1 := by omega
      have z4_3c : w3.heap.size < w4.heap.size + 1 + 1 + 1 := by omega
      have z4_3d : w3.heap.size < w4.heap.size + 1 + 1 + 1 + 1 := by omega
      go_wp2_with fail
      refine (refWithin_yes _ _ _ _ _ ⟨by omega, by omega⟩).mono ?_
      rintro e w5 ⟨rfl, g5⟩
      obtain ⟨c5, f5, z5⟩ := laid g5
      try simp at z5
      have d5 := laid2 (w0 := w4) (by go_grown) g5
      have G5 : Grown w w5 := Grown.trans (by go_grown) g5
      clear g5
      have z5_0 : w.heap.size < w5.heap.size := by omega
      have z5_0a : w.heap.size < w5.heap.size + 1 := by omega
      have z5_0b : w.heap.size < w5.heap.size + 1 + 1 := by omega
      have z5_0c : w.heap.size < w5.heap.size + 1 + 1 + 1 := by omega
      have z5_0d : w.heap.size < w5.heap.size + 1 + 1 + 1 + 1 := by omega
      have z5_1 : w.heap.size + 1 < w5.heap.size := by omega
      have z5_1a : w.heap.size + 1 < w5.heap.size + 1 := by omega
      have z5_1b : w.heap.size + 1 < w5.heap.size + 1 + 1 := by omega
      have z5_1c : w.heap.size + 1 < w5.heap.size + 1 + 1 + 1 := by omega
      have z5_1d : w.heap.size + 1 < w5.heap.size + 1 + 1 + 1 + 1 := by omega
      have z5_2 : w2.heap.size < w5.heap.size := by omega
      have z5_2a : w2.heap.size < w5.heap.size + 1 := by omega
      have z5_2b : w2.heap.size < w5.heap.size + 1 + 1 := by omega
      have z5_2c : w2.heap.size < w5.heap.size + 1 + 1 + 1 := by omega
      have z5_2d : w2.heap.size < w5.heap.size + 1 + 1 + 1 + 1 := by omega
      have z5_3 : w3.heap.size < w5.heap.size := by omega
      have z5_3a : w3.heap.size < w5.heap.size + 1 := by omega
      have z5_3b : w3.heap.size < w5.heap.size + 1 + 1 := by omega
      have z5_3c : w3.heap.size < w5.heap.size + 1 + 1 + 1 := by omega
      have z5_3d : w3.heap.size < w5.heap.size + 1 + 1 + 1 + 1 := by omega
      have z5_4 : w4.heap.size < w5.heap.size := by omega
      have z5_4a : w4.heap.size < w5.heap.size + 1 := by omega
      have z5_4b : w4.heap.size < w5.heap.size + 1 + 1 := by omega
      have z5_4c : w4.heap.size < w5.heap.size + 1 + 1 + 1 := by omega
      have z5_4d : w4.heap.size < w5.heap.size + 1 + 1 + 1 + 1 := by omega
      go_wp2_with fail
      refine (refWithin_yes _ _ _ _ _ ⟨by omega, by omega⟩).mono ?_
      rintro e w6 ⟨rfl, g6⟩
      obtain ⟨c6, f6, z6⟩ := laid g6
      try simp at z6
      have d6 := laid2 (w0 := w5) (by go_grown) g6
      have G6 : Grown w w6 := Grown.trans (by go_grown) g6
      clear g6
      have z6_0 : w.heap.size < w6.heap.size := by omega
      have z6_0a : w.heap.size < w6.heap.size + 1 := by omega
      have z6_0b : w.heap.size < w6.heap.size + 1 + 1 := by omega
      have z6_0c : w.heap.size < w6.heap.size + 1 + 1 + 1 := by omega
      have z6_0d : w.heap.size < w6.heap.size + 1 + 1 + 1 + 1 := by omega
      have z6_1 : w.heap.size + 1 < w6.heap.size := by omega
      have z6_1a : w.heap.size + 1 < w6.heap.size + 1 := by omega
      have z6_1b : w.heap.size + 1 < w6.heap.size + 1 + 1 := by omega
      have z6_1c : w.heap.size + 1 < w6.heap.size + 1 + 1 + 1 := by omega
      have z6_1d : w.heap.size + 1 < w6.heap.size + 1 + 1 + 1 + 1 := by omega
      have z6_2 : w2.heap.size < w6.heap.size := by omega
      have z6_2a : w2.heap.size < w6.heap.size + 1 := by omega
      have z6_2b : w2.heap.size < w6.heap.size + 1 + 1 := by omega
      have z6_2c : w2.heap.size < w6.heap.size + 1 + 1 + 1 := by omega
      have z6_2d : w2.heap.size < w6.heap.size + 1 + 1 + 1 + 1 := by omega
      have z6_3 : w3.heap.size < w6.heap.size := by omega
      have z6_3a : w3.heap.size < w6.heap.size + 1 := by omega
      have z6_3b : w3.heap.size < w6.heap.size + 1 + 1 := by omega
      have z6_3c : w3.heap.size < w6.heap.size + 1 + 1 + 1 := by omega
      have z6_3d : w3.heap.size < w6.heap.size + 1 + 1 + 1 + 1 := by omega
      have z6_4 : w4.heap.size < w6.heap.size := by omega
      have z6_4a : w4.heap.size < w6.heap.size + 1 := by omega
      have z6_4b : w4.heap.size < w6.heap.size + 1 + 1 := by omega
      have z6_4c : w4.heap.size < w6.heap.size + 1 + 1 + 1 := by omega
      have z6_4d : w4.heap.size < w6.heap.size + 1 + 1 + 1 + 1 := by omega
      go_wp2_with fail
      go_ret
      exact ⟨by first | rfl | (simp; omega), by go_grown⟩
    · have J2 : Hid (∀ w, Calls Try.prog 21 #[.agg #[.int .i64 c, .int .i64 d], .agg #[.int .i64 a, .int .i64 b]] w fun e w' => e = .returned (.tuple #[.agg #[.int .i64 a, .int .i64 b], .int .i64 0]) ∧ Grown w w') := Lib.hid (join_is ⟨h.2, h.1⟩ (by unfold mn; split <;> omega) (by unfold mx; split <;> omega))
      have J3 : Hid (∀ w, Calls Try.prog 21 #[.agg #[.int .i64 a, .int .i64 b], .agg #[.int .i64 a, .int .i64 b]] w fun e w' => e = .returned (.tuple #[.agg #[.int .i64 a, .int .i64 b], .int .i64 0]) ∧ Grown w w') := Lib.hid (join_is ⟨hv, h.1⟩ (by unfold mn; split <;> omega) (by unfold mx; split <;> omega))
      clear h hv
      go_enter Try.func7, Try.ntmps7
      go_wp2_with fail
      refine (head_any _).mono ?_
      rintro e w1 ⟨rfl, g1⟩
      obtain ⟨c1, f1, z1⟩ := laid g1
      try simp at z1
      have G1 : Grown w w1 := Grown.trans (by go_grown) g1
      clear g1
      have z1_0 : w.heap.size < w1.heap.size := by omega
      have z1_0a : w.heap.size < w1.heap.size + 1 := by omega
      have z1_0b : w.heap.size < w1.heap.size + 1 + 1 := by omega
      have z1_0c : w.heap.size < w1.heap.size + 1 + 1 + 1 := by omega
      have z1_0d : w.heap.size < w1.heap.size + 1 + 1 + 1 + 1 := by omega
      have z1_1 : w.heap.size + 1 < w1.heap.size := by omega
      have z1_1a : w.heap.size + 1 < w1.heap.size + 1 := by omega
      have z1_1b : w.heap.size + 1 < w1.heap.size + 1 + 1 := by omega
      have z1_1c : w.heap.size + 1 < w1.heap.size + 1 + 1 + 1 := by omega
      have z1_1d : w.heap.size + 1 < w1.heap.size + 1 + 1 + 1 + 1 := by omega
      go_wp2_with fail
      refine (J1.out _).mono ?_
      rintro e w2 ⟨rfl, g2⟩
      obtain ⟨c2, f2, z2⟩ := laid g2
      try simp at z2
      have d2 := laid2 (w0 := w1) (by go_grown) g2
      have G2 : Grown w w2 := Grown.trans (by go_grown) g2
      clear g2
      have z2_0 : w.heap.size < w2.heap.size := by omega
      have z2_0a : w.heap.size < w2.heap.size + 1 := by omega
      have z2_0b : w.heap.size < w2.heap.size + 1 + 1 := by omega
      have z2_0c : w.heap.size < w2.heap.size + 1 + 1 + 1 := by omega
      have z2_0d : w.heap.size < w2.heap.size + 1 + 1 + 1 + 1 := by omega
      have z2_1 : w.heap.size + 1 < w2.heap.size := by omega
      have z2_1a : w.heap.size + 1 < w2.heap.size + 1 := by omega
      have z2_1b : w.heap.size + 1 < w2.heap.size + 1 + 1 := by omega
      have z2_1c : w.heap.size + 1 < w2.heap.size + 1 + 1 + 1 := by omega
      have z2_1d : w.heap.size + 1 < w2.heap.size + 1 + 1 + 1 + 1 := by omega
      go_wp2_with fail
      refine (J2.out _).mono ?_
      rintro e w3 ⟨rfl, g3⟩
      obtain ⟨c3, f3, z3⟩ := laid g3
      try simp at z3
      have d3 := laid2 (w0 := w2) (by go_grown) g3
      have G3 : Grown w w3 := Grown.trans (by go_grown) g3
      clear g3
      have z3_0 : w.heap.size < w3.heap.size := by omega
      have z3_0a : w.heap.size < w3.heap.size + 1 := by omega
      have z3_0b : w.heap.size < w3.heap.size + 1 + 1 := by omega
      have z3_0c : w.heap.size < w3.heap.size + 1 + 1 + 1 := by omega
      have z3_0d : w.heap.size < w3.heap.size + 1 + 1 + 1 + 1 := by omega
      have z3_1 : w.heap.size + 1 < w3.heap.size := by omega
      have z3_1a : w.heap.size + 1 < w3.heap.size + 1 := by omega
      have z3_1b : w.heap.size + 1 < w3.heap.size + 1 + 1 := by omega
      have z3_1c : w.heap.size + 1 < w3.heap.size + 1 + 1 + 1 := by omega
      have z3_1d : w.heap.size + 1 < w3.heap.size + 1 + 1 + 1 + 1 := by omega
      have z3_2 : w2.heap.size < w3.heap.size := by omega
      have z3_2a : w2.heap.size < w3.heap.size + 1 := by omega
      have z3_2b : w2.heap.size < w3.heap.size + 1 + 1 := by omega
      have z3_2c : w2.heap.size < w3.heap.size + 1 + 1 + 1 := by omega
      have z3_2d : w2.heap.size < w3.heap.size + 1 + 1 + 1 + 1 := by omega
      go_wp2_with fail
      refine (J3.out _).mono ?_
      rintro e w4 ⟨rfl, g4⟩
      obtain ⟨c4, f4, z4⟩ := laid g4
      try simp at z4
      have d4 := laid2 (w0 := w3) (by go_grown) g4
      have G4 : Grown w w4 := Grown.trans (by go_grown) g4
      clear g4
      have z4_0 : w.heap.size < w4.heap.size := by omega
      have z4_0a : w.heap.size < w4.heap.size + 1 := by omega
      have z4_0b : w.heap.size < w4.heap.size + 1 + 1 := by omega
      have z4_0c : w.heap.size < w4.heap.size + 1 + 1 + 1 := by omega
      have z4_0d : w.heap.size < w4.heap.size + 1 + 1 + 1 + 1 := by omega
      have z4_1 : w.heap.size + 1 < w4.heap.size := by omega
      have z4_1a : w.heap.size + 1 < w4.heap.size + 1 := by omega
      have z4_1b : w.heap.size + 1 < w4.heap.size + 1 + 1 := by omega
      have z4_1c : w.heap.size + 1 < w4.heap.size + 1 + 1 + 1 := by omega
      have z4_1d : w.heap.size + 1 < w4.heap.size + 1 + 1 + 1 + 1 := by omega
      have z4_2 : w2.heap.size < w4.heap.size := by omega
      have z4_2a : w2.heap.size < w4.heap.size + 1 := by omega
      have z4_2b : w2.heap.size < w4.heap.size + 1 + 1 := by omega
      have z4_2c : w2.heap.size < w4.heap.size + 1 + 1 + 1 := by omega
      have z4_2d : w2.heap.size < w4.heap.size + 1 + 1 + 1 + 1 := by omega
      have z4_3 : w3.heap.size < w4.heap.size := by omega
      have z4_3a : w3.heap.size < w4.heap.size + 1 := by omega
      have z4_3b : w3.heap.size < w4.heap.size + 1 + 1 := by omega
      have z4_3c : w3.heap.size < w4.heap.size + 1 + 1 + 1 := by omega
      have z4_3d : w3.heap.size < w4.heap.size + 1 + 1 + 1 + 1 := by omega
      go_wp2_with fail
      refine (refWithin_yes _ _ _ _ _ ⟨by omega, by omega⟩).mono ?_
      rintro e w5 ⟨rfl, g5⟩
      obtain ⟨c5, f5, z5⟩ := laid g5
      try simp at z5
      have d5 := laid2 (w0 := w4) (by go_grown) g5
      have G5 : Grown w w5 := Grown.trans (by go_grown) g5
      clear g5
      have z5_0 : w.heap.size < w5.heap.size := by omega
      have z5_0a : w.heap.size < w5.heap.size + 1 := by omega
      have z5_0b : w.heap.size < w5.heap.size + 1 + 1 := by omega
      have z5_0c : w.heap.size < w5.heap.size + 1 + 1 + 1 := by omega
      have z5_0d : w.heap.size < w5.heap.size + 1 + 1 + 1 + 1 := by omega
      have z5_1 : w.heap.size + 1 < w5.heap.size := by omega
      have z5_1a : w.heap.size + 1 < w5.heap.size + 1 := by omega
      have z5_1b : w.heap.size + 1 < w5.heap.size + 1 + 1 := by omega
      have z5_1c : w.heap.size + 1 < w5.heap.size + 1 + 1 + 1 := by omega
      have z5_1d : w.heap.size + 1 < w5.heap.size + 1 + 1 + 1 + 1 := by omega
      have z5_2 : w2.heap.size < w5.heap.size := by omega
      have z5_2a : w2.heap.size < w5.heap.size + 1 := by omega
      have z5_2b : w2.heap.size < w5.heap.size + 1 + 1 := by omega
      have z5_2c : w2.heap.size < w5.heap.size + 1 + 1 + 1 := by omega
      have z5_2d : w2.heap.size < w5.heap.size + 1 + 1 + 1 + 1 := by omega
      have z5_3 : w3.heap.size < w5.heap.size := by omega
      have z5_3a : w3.heap.size < w5.heap.size + 1 := by omega
      have z5_3b : w3.heap.size < w5.heap.size + 1 + 1 := by omega
      have z5_3c : w3.heap.size < w5.heap.size + 1 + 1 + 1 := by omega
      have z5_3d : w3.heap.size < w5.heap.size + 1 + 1 + 1 + 1 := by omega
      have z5_4 : w4.heap.size < w5.heap.size := by omega
      have z5_4a : w4.heap.size < w5.heap.size + 1 := by omega
      have z5_4b : w4.heap.size < w5.heap.size + 1 + 1 := by omega
      have z5_4c : w4.heap.size < w5.heap.size + 1 + 1 + 1 := by omega
      have z5_4d : w4.heap.size < w5.heap.size + 1 + 1 + 1 + 1 := by omega
      go_wp2_with fail
      refine (refWithin_yes _ _ _ _ _ ⟨by omega, by omega⟩).mono ?_
      rintro e w6 ⟨rfl, g6⟩
      obtain ⟨c6, f6, z6⟩ := laid g6
      try simp at z6
      have d6 := laid2 (w0 := w5) (by go_grown) g6
      have G6 : Grown w w6 := Grown.trans (by go_grown) g6
      clear g6
      have z6_0 : w.heap.size < w6.heap.size := by omega
      have z6_0a : w.heap.size < w6.heap.size + 1 := by omega
      have z6_0b : w.heap.size < w6.heap.size + 1 + 1 := by omega
      have z6_0c : w.heap.size < w6.heap.size + 1 + 1 + 1 := by omega
      have z6_0d : w.heap.size < w6.heap.size + 1 + 1 + 1 + 1 := by omega
      have z6_1 : w.heap.size + 1 < w6.heap.size := by omega
      have z6_1a : w.heap.size + 1 < w6.heap.size + 1 := by omega
      have z6_1b : w.heap.size + 1 < w6.heap.size + 1 + 1 := by omega
      have z6_1c : w.heap.size + 1 < w6.heap.size + 1 + 1 + 1 := by omega
      have z6_1d : w.heap.size + 1 < w6.heap.size + 1 + 1 + 1 + 1 := by omega
      have z6_2 : w2.heap.size < w6.heap.size := by omega
      have z6_2a : w2.heap.size < w6.heap.size + 1 := by omega
      have z6_2b : w2.heap.size < w6.heap.size + 1 + 1 := by omega
      have z6_2c : w2.heap.size < w6.heap.size + 1 + 1 + 1 := by omega
      have z6_2d : w2.heap.size < w6.heap.size + 1 + 1 + 1 + 1 := by omega
      have z6_3 : w3.heap.size < w6.heap.size := by omega
      have z6_3a : w3.heap.size < w6.heap.size + 1 := by omega
      have z6_3b : w3.heap.size < w6.heap.size + 1 + 1 := by omega
      have z6_3c : w3.heap.size < w6.heap.size + 1 + 1 + 1 := by omega
      have z6_3d : w3.heap.size < w6.heap.size + 1 + 1 + 1 + 1 := by omega
      have z6_4 : w4.heap.size < w6.heap.size := by omega
      have z6_4a : w4.heap.size < w6.heap.size + 1 := by omega
      have z6_4b : w4.heap.size < w6.heap.size + 1 + 1 := by omega
      have z6_4c : w4.heap.size < w6.heap.size + 1 + 1 + 1 := by omega
      have z6_4d : w4.heap.size < w6.heap.size + 1 + 1 + 1 + 1 := by omega
      go_wp2_with fail
      go_ret
      exact ⟨by first | rfl | (simp; omega), by go_grown⟩
  · have J1 := Lib.hid (spJoin_bad a b c d · h)
    have J2 := Lib.hid (spJoin_bad c d a b · (fun k => h ⟨k.2, k.1⟩))
    by_cases h1 : Vd a b
    · have V1 := Lib.hid h1
      have V2 : Hid (¬ Vd c d) := Lib.hid (fun k => h ⟨h1, k⟩)
      clear h h1
      go_enter Try.func7, Try.ntmps7
      go_wp2_with fail
      refine (head_any _).mono ?_
      rintro e w1 ⟨rfl, g1⟩
      obtain ⟨c1, f1, z1⟩ := laid g1
      try simp at z1
      have G1 : Grown w w1 := Grown.trans (by go_grown) g1
      clear g1
      have z1_0 : w.heap.size < w1.heap.size := by omega
      have z1_0a : w.heap.size < w1.heap.size + 1 := by omega
      have z1_0b : w.heap.size < w1.heap.size + 1 + 1 := by omega
      have z1_0c : w.heap.size < w1.heap.size + 1 + 1 + 1 := by omega
      have z1_0d : w.heap.size < w1.heap.size + 1 + 1 + 1 + 1 := by omega
      have z1_1 : w.heap.size + 1 < w1.heap.size := by omega
      have z1_1a : w.heap.size + 1 < w1.heap.size + 1 := by omega
      have z1_1b : w.heap.size + 1 < w1.heap.size + 1 + 1 := by omega
      have z1_1c : w.heap.size + 1 < w1.heap.size + 1 + 1 + 1 := by omega
      have z1_1d : w.heap.size + 1 < w1.heap.size + 1 + 1 + 1 + 1 := by omega
      go_wp2_with fail
      refine (J1.out _).mono ?_
      rintro e w2 ⟨rfl, g2⟩
      obtain ⟨c2, f2, z2⟩ := laid g2
      try simp at z2
      have d2 := laid2 (w0 := w1) (by go_grown) g2
      have G2 : Grown w w2 := Grown.trans (by go_grown) g2
      clear g2
      have z2_0 : w.heap.size < w2.heap.size := by omega
      have z2_0a : w.heap.size < w2.heap.size + 1 := by omega
      have z2_0b : w.heap.size < w2.heap.size + 1 + 1 := by omega
      have z2_0c : w.heap.size < w2.heap.size + 1 + 1 + 1 := by omega
      have z2_0d : w.heap.size < w2.heap.size + 1 + 1 + 1 + 1 := by omega
      have z2_1 : w.heap.size + 1 < w2.heap.size := by omega
      have z2_1a : w.heap.size + 1 < w2.heap.size + 1 := by omega
      have z2_1b : w.heap.size + 1 < w2.heap.size + 1 + 1 := by omega
      have z2_1c : w.heap.size + 1 < w2.heap.size + 1 + 1 + 1 := by omega
      have z2_1d : w.heap.size + 1 < w2.heap.size + 1 + 1 + 1 + 1 := by omega
      go_wp2_with fail
      refine (J2.out _).mono ?_
      rintro e w3 ⟨rfl, g3⟩
      obtain ⟨c3, f3, z3⟩ := laid g3
      try simp at z3
      have d3 := laid2 (w0 := w2) (by go_grown) g3
      have G3 : Grown w w3 := Grown.trans (by go_grown) g3
      clear g3
      have z3_0 : w.heap.size < w3.heap.size := by omega
      have z3_0a : w.heap.size < w3.heap.size + 1 := by omega
      have z3_0b : w.heap.size < w3.heap.size + 1 + 1 := by omega
      have z3_0c : w.heap.size < w3.heap.size + 1 + 1 + 1 := by omega
      have z3_0d : w.heap.size < w3.heap.size + 1 + 1 + 1 + 1 := by omega
      have z3_1 : w.heap.size + 1 < w3.heap.size := by omega
      have z3_1a : w.heap.size + 1 < w3.heap.size + 1 := by omega
      have z3_1b : w.heap.size + 1 < w3.heap.size + 1 + 1 := by omega
      have z3_1c : w.heap.size + 1 < w3.heap.size + 1 + 1 + 1 := by omega
      have z3_1d : w.heap.size + 1 < w3.heap.size + 1 + 1 + 1 + 1 := by omega
      have z3_2 : w2.heap.size < w3.heap.size := by omega
      have z3_2a : w2.heap.size < w3.heap.size + 1 := by omega
      have z3_2b : w2.heap.size < w3.heap.size + 1 + 1 := by omega
      have z3_2c : w2.heap.size < w3.heap.size + 1 + 1 + 1 := by omega
      have z3_2d : w2.heap.size < w3.heap.size + 1 + 1 + 1 + 1 := by omega
      go_wp2_with fail
      refine (spValid_yes _ _ _ V1.out).mono ?_
      rintro e w4 ⟨rfl, g4⟩
      obtain ⟨c4, f4, z4⟩ := laid g4
      try simp at z4
      have d4 := laid2 (w0 := w3) (by go_grown) g4
      have G4 : Grown w w4 := Grown.trans (by go_grown) g4
      clear g4
      have z4_0 : w.heap.size < w4.heap.size := by omega
      have z4_0a : w.heap.size < w4.heap.size + 1 := by omega
      have z4_0b : w.heap.size < w4.heap.size + 1 + 1 := by omega
      have z4_0c : w.heap.size < w4.heap.size + 1 + 1 + 1 := by omega
      have z4_0d : w.heap.size < w4.heap.size + 1 + 1 + 1 + 1 := by omega
      have z4_1 : w.heap.size + 1 < w4.heap.size := by omega
      have z4_1a : w.heap.size + 1 < w4.heap.size + 1 := by omega
      have z4_1b : w.heap.size + 1 < w4.heap.size + 1 + 1 := by omega
      have z4_1c : w.heap.size + 1 < w4.heap.size + 1 + 1 + 1 := by omega
      have z4_1d : w.heap.size + 1 < w4.heap.size + 1 + 1 + 1 + 1 := by omega
      have z4_2 : w2.heap.size < w4.heap.size := by omega
      have z4_2a : w2.heap.size < w4.heap.size + 1 := by omega
      have z4_2b : w2.heap.size < w4.heap.size + 1 + 1 := by omega
      have z4_2c : w2.heap.size < w4.heap.size + 1 + 1 + 1 := by omega
      have z4_2d : w2.heap.size < w4.heap.size + 1 + 1 + 1 + 1 := by omega
      have z4_3 : w3.heap.size < w4.heap.size := by omega
      have z4_3a : w3.heap.size < w4.heap.size + 1 := by omega
      have z4_3b : w3.heap.size < w4.heap.size + 1 + 1 := by omega
      have z4_3c : w3.heap.size < w4.heap.size + 1 + 1 + 1 := by omega
      have z4_3d : w3.heap.size < w4.heap.size + 1 + 1 + 1 + 1 := by omega
      go_wp2_with fail
      refine (spValid_no _ _ _ V2.out).mono ?_
      rintro e w5 ⟨rfl, g5⟩
      obtain ⟨c5, f5, z5⟩ := laid g5
      try simp at z5
      have d5 := laid2 (w0 := w4) (by go_grown) g5
      have G5 : Grown w w5 := Grown.trans (by go_grown) g5
      clear g5
      have z5_0 : w.heap.size < w5.heap.size := by omega
      have z5_0a : w.heap.size < w5.heap.size + 1 := by omega
      have z5_0b : w.heap.size < w5.heap.size + 1 + 1 := by omega
      have z5_0c : w.heap.size < w5.heap.size + 1 + 1 + 1 := by omega
      have z5_0d : w.heap.size < w5.heap.size + 1 + 1 + 1 + 1 := by omega
      have z5_1 : w.heap.size + 1 < w5.heap.size := by omega
      have z5_1a : w.heap.size + 1 < w5.heap.size + 1 := by omega
      have z5_1b : w.heap.size + 1 < w5.heap.size + 1 + 1 := by omega
      have z5_1c : w.heap.size + 1 < w5.heap.size + 1 + 1 + 1 := by omega
      have z5_1d : w.heap.size + 1 < w5.heap.size + 1 + 1 + 1 + 1 := by omega
      have z5_2 : w2.heap.size < w5.heap.size := by omega
      have z5_2a : w2.heap.size < w5.heap.size + 1 := by omega
      have z5_2b : w2.heap.size < w5.heap.size + 1 + 1 := by omega
      have z5_2c : w2.heap.size < w5.heap.size + 1 + 1 + 1 := by omega
      have z5_2d : w2.heap.size < w5.heap.size + 1 + 1 + 1 + 1 := by omega
      have z5_3 : w3.heap.size < w5.heap.size := by omega
      have z5_3a : w3.heap.size < w5.heap.size + 1 := by omega
      have z5_3b : w3.heap.size < w5.heap.size + 1 + 1 := by omega
      have z5_3c : w3.heap.size < w5.heap.size + 1 + 1 + 1 := by omega
      have z5_3d : w3.heap.size < w5.heap.size + 1 + 1 + 1 + 1 := by omega
      go_wp2_with fail
      go_ret
      exact ⟨by first | rfl | (simp; omega), by go_grown⟩

    · have V1 := Lib.hid h1
      clear h h1
      go_enter Try.func7, Try.ntmps7
      go_wp2_with fail
      refine (head_any _).mono ?_
      rintro e w1 ⟨rfl, g1⟩
      obtain ⟨c1, f1, z1⟩ := laid g1
      try simp at z1
      have G1 : Grown w w1 := Grown.trans (by go_grown) g1
      clear g1
      have z1_0 : w.heap.size < w1.heap.size := by omega
      have z1_0a : w.heap.size < w1.heap.size + 1 := by omega
      have z1_0b : w.heap.size < w1.heap.size + 1 + 1 := by omega
      have z1_0c : w.heap.size < w1.heap.size + 1 + 1 + 1 := by omega
      have z1_0d : w.heap.size < w1.heap.size + 1 + 1 + 1 + 1 := by omega
      have z1_1 : w.heap.size + 1 < w1.heap.size := by omega
      have z1_1a : w.heap.size + 1 < w1.heap.size + 1 := by omega
      have z1_1b : w.heap.size + 1 < w1.heap.size + 1 + 1 := by omega
      have z1_1c : w.heap.size + 1 < w1.heap.size + 1 + 1 + 1 := by omega
      have z1_1d : w.heap.size + 1 < w1.heap.size + 1 + 1 + 1 + 1 := by omega
      go_wp2_with fail
      refine (J1.out _).mono ?_
      rintro e w2 ⟨rfl, g2⟩
      obtain ⟨c2, f2, z2⟩ := laid g2
      try simp at z2
      have d2 := laid2 (w0 := w1) (by go_grown) g2
      have G2 : Grown w w2 := Grown.trans (by go_grown) g2
      clear g2
      have z2_0 : w.heap.size < w2.heap.size := by omega
      have z2_0a : w.heap.size < w2.heap.size + 1 := by omega
      have z2_0b : w.heap.size < w2.heap.size + 1 + 1 := by omega
      have z2_0c : w.heap.size < w2.heap.size + 1 + 1 + 1 := by omega
      have z2_0d : w.heap.size < w2.heap.size + 1 + 1 + 1 + 1 := by omega
      have z2_1 : w.heap.size + 1 < w2.heap.size := by omega
      have z2_1a : w.heap.size + 1 < w2.heap.size + 1 := by omega
      have z2_1b : w.heap.size + 1 < w2.heap.size + 1 + 1 := by omega
      have z2_1c : w.heap.size + 1 < w2.heap.size + 1 + 1 + 1 := by omega
      have z2_1d : w.heap.size + 1 < w2.heap.size + 1 + 1 + 1 + 1 := by omega
      go_wp2_with fail
      refine (J2.out _).mono ?_
      rintro e w3 ⟨rfl, g3⟩
      obtain ⟨c3, f3, z3⟩ := laid g3
      try simp at z3
      have d3 := laid2 (w0 := w2) (by go_grown) g3
      have G3 : Grown w w3 := Grown.trans (by go_grown) g3
      clear g3
      have z3_0 : w.heap.size < w3.heap.size := by omega
      have z3_0a : w.heap.size < w3.heap.size + 1 := by omega
      have z3_0b : w.heap.size < w3.heap.size + 1 + 1 := by omega
      have z3_0c : w.heap.size < w3.heap.size + 1 + 1 + 1 := by omega
      have z3_0d : w.heap.size < w3.heap.size + 1 + 1 + 1 + 1 := by omega
      have z3_1 : w.heap.size + 1 < w3.heap.size := by omega
      have z3_1a : w.heap.size + 1 < w3.heap.size + 1 := by omega
      have z3_1b : w.heap.size + 1 < w3.heap.size + 1 + 1 := by omega
      have z3_1c : w.heap.size + 1 < w3.heap.size + 1 + 1 + 1 := by omega
      have z3_1d : w.heap.size + 1 < w3.heap.size + 1 + 1 + 1 + 1 := by omega
      have z3_2 : w2.heap.size < w3.heap.size := by omega
      have z3_2a : w2.heap.size < w3.heap.size + 1 := by omega
      have z3_2b : w2.heap.size < w3.heap.size + 1 + 1 := by omega
      have z3_2c : w2.heap.size < w3.heap.size + 1 + 1 + 1 := by omega
      have z3_2d : w2.heap.size < w3.heap.size + 1 + 1 + 1 + 1 := by omega
      go_wp2_with fail
      refine (spValid_no _ _ _ V1.out).mono ?_
      rintro e w4 ⟨rfl, g4⟩
      obtain ⟨c4, f4, z4⟩ := laid g4
      try simp at z4
      have d4 := laid2 (w0 := w3) (by go_grown) g4
      have G4 : Grown w w4 := Grown.trans (by go_grown) g4
      clear g4
      have z4_0 : w.heap.size < w4.heap.size := by omega
      have z4_0a : w.heap.size < w4.heap.size + 1 := by omega
      have z4_0b : w.heap.size < w4.heap.size + 1 + 1 := by omega
      have z4_0c : w.heap.size < w4.heap.size + 1 + 1 + 1 := by omega
      have z4_0d : w.heap.size < w4.heap.size + 1 + 1 + 1 + 1 := by omega
      have z4_1 : w.heap.size + 1 < w4.heap.size := by omega
      have z4_1a : w.heap.size + 1 < w4.heap.size + 1 := by omega
      have z4_1b : w.heap.size + 1 < w4.heap.size + 1 + 1 := by omega
      have z4_1c : w.heap.size + 1 < w4.heap.size + 1 + 1 + 1 := by omega
      have z4_1d : w.heap.size + 1 < w4.heap.size + 1 + 1 + 1 + 1 := by omega
      have z4_2 : w2.heap.size < w4.heap.size := by omega
      have z4_2a : w2.heap.size < w4.heap.size + 1 := by omega
      have z4_2b : w2.heap.size < w4.heap.size + 1 + 1 := by omega
      have z4_2c : w2.heap.size < w4.heap.size + 1 + 1 + 1 := by omega
      have z4_2d : w2.heap.size < w4.heap.size + 1 + 1 + 1 + 1 := by omega
      have z4_3 : w3.heap.size < w4.heap.size := by omega
      have z4_3a : w3.heap.size < w4.heap.size + 1 := by omega
      have z4_3b : w3.heap.size < w4.heap.size + 1 + 1 := by omega
      have z4_3c : w3.heap.size < w4.heap.size + 1 + 1 + 1 := by omega
      have z4_3d : w3.heap.size < w4.heap.size + 1 + 1 + 1 + 1 := by omega
      go_wp2_with fail
      go_ret
      exact ⟨by first | rfl | (simp; omega), by go_grown⟩


end Sn
end Go.Proofs.Ytpendmjfmhjibaa
