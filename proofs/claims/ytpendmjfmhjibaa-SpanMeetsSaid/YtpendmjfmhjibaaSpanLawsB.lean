/-
  The walk of the law SpanMeets: it returns true.
-/
import Derived.Test.YtpendmjfmhjibaaSpanHead
namespace Go.Proofs.Ytpendmjfmhjibaa
open Go.RowKit
namespace Sn

theorem has_is {a b n : Int} {x : Bool} (h : Vd a b) (hx : hs a b n = x) : ∀ w, Calls Try.prog 11 #[.agg #[.int .i64 a, .int .i64 b], .int .i64 n] w fun e w' => e = .returned (.tuple #[.bool x, .int .i64 0]) ∧ Grown w w' := by
  intro w
  rw [← hx]
  exact spHas_ok a b n w h
theorem meet_is {a b c d X Y : Int} (h : Vd a b ∧ Vd c d) (k : mx a c ≤ mn b d) (hX : mx a c = X) (hY : mn b d = Y) : ∀ w, Calls Try.prog 19 #[.agg #[.int .i64 a, .int .i64 b], .agg #[.int .i64 c, .int .i64 d]] w fun e w' => e = .returned (.tuple #[.agg #[.int .i64 X, .int .i64 Y], .bool true, .int .i64 0]) ∧ Grown w w' := by
  intro w
  rw [← hX, ← hY]
  exact spMeet_ok a b c d w h k
theorem hs_meet (a b c d n : Int) : hs (mx a c) (mn b d) n = (hs a b n && hs c d n) := by
  unfold hs
  rw [Bool.eq_iff_iff]
  simp only [Bool.and_eq_true, decide_eq_true_eq]
  rcases mx_cases a c with ⟨p, p'⟩ | ⟨p, p'⟩ <;> rcases mn_cases b d with ⟨q, q'⟩ | ⟨q, q'⟩ <;> rw [p', q'] <;> omega
theorem mx_le {a c x : Int} : mx a c ≤ x ↔ a ≤ x ∧ c ≤ x := by unfold mx; split <;> omega
theorem le_mn {a c x : Int} : x ≤ mn a c ↔ x ≤ a ∧ x ≤ c := by unfold mn; split <;> omega

set_option maxRecDepth 100000 in
set_option maxHeartbeats 4000000 in
theorem law_meets (a b c d n : Int) (w : World) : Calls Try.prog 6 #[.agg #[.int .i64 a, .int .i64 b], .agg #[.int .i64 c, .int .i64 d], .int .i64 n] w fun e w' => e = .returned (.bool true) ∧ Grown w w' := by
  by_cases h : Vd a b ∧ Vd c d
  · obtain ⟨x, hx⟩ : ∃ x, hs a b n = x := ⟨_, rfl⟩
    obtain ⟨y, hy⟩ : ∃ y, hs c d n = y := ⟨_, rfl⟩
    have X := Lib.hid (has_is h.1 hx)
    have Y := Lib.hid (has_is h.2 hy)
    by_cases k : mx a c ≤ mn b d
    · have hz := hs_meet a b c d n
      rw [hx, hy] at hz
      have hv : Vd (mx a c) (mn b d) := by
        obtain ⟨⟨_, _, _⟩, ⟨_, _, _⟩⟩ := h
        refine ⟨?_, k, ?_⟩
        · unfold mx; split <;> omega
        · unfold mn; split <;> omega
      have M := Lib.hid (meet_is h k rfl rfl)
      have Z := Lib.hid (has_is hv hz)
      rw [mx_le, le_mn, le_mn] at k
      obtain ⟨⟨_, k1⟩, ⟨k2, _⟩⟩ := k
      clear h hx hy hz hv
      generalize mx a c = lo at *
      generalize mn b d = hi at *
      cases x <;> cases y
      · go_enter Try.func6, Try.ntmps6
        go_wp2_with fail
        refine (head_any _).mono ?_
        rintro e w1 ⟨rfl, g1⟩
        obtain ⟨c1, f1, z1⟩ := laid g1
        try simp at z1
        have G1 : Grown w w1 := Grown.trans (by go_grown) g1
        clear g1
        have z1_0 : w.heap.size < w1.heap.size := by omega
        have z1_0a : w.heap.size < w1.heap.size + 1 := by omega
        have z1_0b : w.heap.size < w1.heap.size + 1 + 1 := by omega
        have z1_0c : w.heap.size < w1.heap.size + 1 + 1 + 1 := by omega
        have z1_0d : w.heap.size < w1.heap.size + 1 + 1 + 1 + 1 := by omega
        have z1_1 : w.heap.size + 1 < w1.heap.size := by omega
        have z1_1a : w.heap.size + 1 < w1.heap.size + 1 := by omega
        have z1_1b : w.heap.size + 1 < w1.heap.size + 1 + 1 := by omega
        have z1_1c : w.heap.size + 1 < w1.heap.size + 1 + 1 + 1 := by omega
        have z1_1d : w.heap.size + 1 < w1.heap.size + 1 + 1 + 1 + 1 := by omega
        go_wp2_with fail
        refine (M.out _).mono ?_
        rintro e w2 ⟨rfl, g2⟩
        obtain ⟨c2, f2, z2⟩ := laid g2
        try simp at z2
        have d2 := laid2 (w0 := w1) (by go_grown) g2
        have G2 : Grown w w2 := Grown.trans (by go_grown) g2
        clear g2
        have z2_0 : w.heap.size < w2.heap.size := by omega
        have z2_0a : w.heap.size < w2.heap.size + 1 := by omega
        have z2_0b : w.heap.size < w2.heap.size + 1 + 1 := by omega
        have z2_0c : w.heap.size < w2.heap.size + 1 + 1 + 1 := by omega
        have z2_0d : w.heap.size < w2.heap.size + 1 + 1 + 1 + 1 := by omega
        have z2_1 : w.heap.size + 1 < w2.heap.size := by omega
        have z2_1a : w.heap.size + 1 < w2.heap.size + 1 := by omega
        have z2_1b : w.heap.size + 1 < w2.heap.size + 1 + 1 := by omega
        have z2_1c : w.heap.size + 1 < w2.heap.size + 1 + 1 + 1 := by omega
        have z2_1d : w.heap.size + 1 < w2.heap.size + 1 + 1 + 1 + 1 := by omega
        go_wp2_with fail
        refine (X.out _).mono ?_
        rintro e w3 ⟨rfl, g3⟩
        obtain ⟨c3, f3, z3⟩ := laid g3
        try simp at z3
        have d3 := laid2 (w0 := w2) (by go_grown) g3
        have G3 : Grown w w3 := Grown.trans (by go_grown) g3
        clear g3
        have z3_0 : w.heap.size < w3.heap.size := by omega
        have z3_0a : w.heap.size < w3.heap.size + 1 := by omega
        have z3_0b : w.heap.size < w3.heap.size + 1 + 1 := by omega
        have z3_0c : w.heap.size < w3.heap.size + 1 + 1 + 1 := by omega
        have z3_0d : w.heap.size < w3.heap.size + 1 + 1 + 1 + 1 := by omega
        have z3_1 : w.heap.size + 1 < w3.heap.size := by omega
        have z3_1a : w.heap.size + 1 < w3.heap.size + 1 := by omega
        have z3_1b : w.heap.size + 1 < w3.heap.size + 1 + 1 := by omega
        have z3_1c : w.heap.size + 1 < w3.heap.size + 1 + 1 + 1 := by omega
        have z3_1d : w.heap.size + 1 < w3.heap.size + 1 + 1 + 1 + 1 := by omega
        have z3_2 : w2.heap.size < w3.heap.size := by omega
        have z3_2a : w2.heap.size < w3.heap.size + 1 := by omega
        have z3_2b : w2.heap.size < w3.heap.size + 1 + 1 := by omega
        have z3_2c : w2.heap.size < w3.heap.size + 1 + 1 + 1 := by omega
        have z3_2d : w2.heap.size < w3.heap.size + 1 + 1 + 1 + 1 := by omega
        go_wp2_with fail
        refine (Y.out _).mono ?_
        rintro e w4 ⟨rfl, g4⟩
        obtain ⟨c4, f4, z4⟩ := laid g4
        try simp at z4
        have d4 := laid2 (w0 := w3) (by go_grown) g4
        have G4 : Grown w w4 := Grown.trans (by go_grown) g4
        clear g4
        have z4_0 : w.heap.size < w4.heap.size := by omega
        have z4_0a : w.heap.size < w4.heap.size + 1 := by omega
        have z4_0b : w.heap.size < w4.heap.size + 1 + 1 := by omega
        have z4_0c : w.heap.size < w4.heap.size + 1 + 1 + 1 := by omega
        have z4_0d : w.heap.size < w4.heap.size + 1 + 1 + 1 + 1 := by omega
        have z4_1 : w.heap.size + 1 < w4.heap.size := by omega
        have z4_1a : w.heap.size + 1 < w4.heap.size + 1 := by omega
        have z4_1b : w.heap.size + 1 < w4.heap.size + 1 + 1 := by omega
        have z4_1c : w.heap.size + 1 < w4.heap.size + 1 + 1 + 1 := by omega
        have z4_1d : w.heap.size + 1 < w4.heap.size + 1 + 1 + 1 + 1 := by omega
        have z4_2 : w2.heap.size < w4.heap.size := by omega
        have z4_2a : w2.heap.size < w4.heap.size + 1 := by omega
        have z4_2b : w2.heap.size < w4.heap.size + 1 + 1 := by omega
        have z4_2c : w2.heap.size < w4.heap.size + 1 + 1 + 1 := by omega
        have z4_2d : w2.heap.size < w4.heap.size + 1 + 1 + 1 + 1 := by omega
        go_wp2_with fail
        refine (Z.out _).mono ?_
        rintro e w5 ⟨rfl, g5⟩
        obtain ⟨c5, f5, z5⟩ := laid g5
        try simp at z5
        have d5 := laid2 (w0 := w4) (by go_grown) g5
        have G5 : Grown w w5 := Grown.trans (by go_grown) g5
        clear g5
        have z5_0 : w.heap.size < w5.heap.size := by omega
        have z5_0a : w.heap.size < w5.heap.size + 1 := by omega
        have z5_0b : w.heap.size < w5.heap.size + 1 + 1 := by omega
        have z5_0c : w.heap.size < w5.heap.size + 1 + 1 + 1 := by omega
        have z5_0d : w.heap.size < w5.heap.size + 1 + 1 + 1 + 1 := by omega
        have z5_1 : w.heap.size + 1 < w5.heap.size := by omega
        have z5_1a : w.heap.size + 1 < w5.heap.size + 1 := by omega
        have z5_1b : w.heap.size + 1 < w5.heap.size + 1 + 1 := by omega
        have z5_1c : w.heap.size + 1 < w5.heap.size + 1 + 1 + 1 := by omega
        have z5_1d : w.heap.size + 1 < w5.heap.size + 1 + 1 + 1 + 1 := by omega
        have z5_2 : w2.heap.size < w5.heap.size := by omega
        have z5_2a : w2.heap.size < w5.heap.size + 1 := by omega
        have z5_2b : w2.heap.size < w5.heap.size + 1 + 1 := by omega
        have z5_2c : w2.heap.size < w5.heap.size + 1 + 1 + 1 := by omega
        have z5_2d : w2.heap.size < w5.heap.size + 1 + 1 + 1 + 1 := by omega
        go_wp2_with fail
        go_ret
        exact ⟨by first | rfl | (simp; omega), by go_grown⟩
      · go_enter Try.func6, Try.ntmps6
        go_wp2_with fail
        refine (head_any _).mono ?_
        rintro e w1 ⟨rfl, g1⟩
        obtain ⟨c1, f1, z1⟩ := laid g1
        try simp at z1
        have G1 : Grown w w1 := Grown.trans (by go_grown) g1
        clear g1
        have z1_0 : w.heap.size < w1.heap.size := by omega
        have z1_0a : w.heap.size < w1.heap.size + 1 := by omega
        have z1_0b : w.heap.size < w1.heap.size + 1 + 1 := by omega
        have z1_0c : w.heap.size < w1.heap.size + 1 + 1 + 1 := by omega
        have z1_0d : w.heap.size < w1.heap.size + 1 + 1 + 1 + 1 := by omega
        have z1_1 : w.heap.size + 1 < w1.heap.size := by omega
        have z1_1a : w.heap.size + 1 < w1.heap.size + 1 := by omega
        have z1_1b : w.heap.size + 1 < w1.heap.size + 1 + 1 := by omega
        have z1_1c : w.heap.size + 1 < w1.heap.size + 1 + 1 + 1 := by omega
        have z1_1d : w.heap.size + 1 < w1.heap.size + 1 + 1 + 1 + 1 := by omega
        go_wp2_with fail
        refine (M.out _).mono ?_
        rintro e w2 ⟨rfl, g2⟩
        obtain ⟨c2, f2, z2⟩ := laid g2
        try simp at z2
        have d2 := laid2 (w0 := w1) (by go_grown) g2
        have G2 : Grown w w2 := Grown.trans (by go_grown) g2
        clear g2
        have z2_0 : w.heap.size < w2.heap.size := by omega
        have z2_0a : w.heap.size < w2.heap.size + 1 := by omega
        have z2_0b : w.heap.size < w2.heap.size + 1 + 1 := by omega
        have z2_0c : w.heap.size < w2.heap.size + 1 + 1 + 1 := by omega
        have z2_0d : w.heap.size < w2.heap.size + 1 + 1 + 1 + 1 := by omega
        have z2_1 : w.heap.size + 1 < w2.heap.size := by omega
        have z2_1a : w.heap.size + 1 < w2.heap.size + 1 := by omega
        have z2_1b : w.heap.size + 1 < w2.heap.size + 1 + 1 := by omega
        have z2_1c : w.heap.size + 1 < w2.heap.size + 1 + 1 + 1 := by omega
        have z2_1d : w.heap.size + 1 < w2.heap.size + 1 + 1 + 1 + 1 := by omega
        go_wp2_with fail
        refine (X.out _).mono ?_
        rintro e w3 ⟨rfl, g3⟩
        obtain ⟨c3, f3, z3⟩ := laid g3
        try simp at z3
        have d3 := laid2 (w0 := w2) (by go_grown) g3
        have G3 : Grown w w3 := Grown.trans (by go_grown) g3
        clear g3
        have z3_0 : w.heap.size < w3.heap.size := by omega
        have z3_0a : w.heap.size < w3.heap.size + 1 := by omega
        have z3_0b : w.heap.size < w3.heap.size + 1 + 1 := by omega
        have z3_0c : w.heap.size < w3.heap.size + 1 + 1 + 1 := by omega
        have z3_0d : w.heap.size < w3.heap.size + 1 + 1 + 1 + 1 := by omega
        have z3_1 : w.heap.size + 1 < w3.heap.size := by omega
        have z3_1a : w.heap.size + 1 < w3.heap.size + 1 := by omega
        have z3_1b : w.heap.size + 1 < w3.heap.size + 1 + 1 := by omega
        have z3_1c : w.heap.size + 1 < w3.heap.size + 1 + 1 + 1 := by omega
        have z3_1d : w.heap.size + 1 < w3.heap.size + 1 + 1 + 1 + 1 := by omega
        have z3_2 : w2.heap.size < w3.heap.size := by omega
        have z3_2a : w2.heap.size < w3.heap.size + 1 := by omega
        have z3_2b : w2.heap.size < w3.heap.size + 1 + 1 := by omega
        have z3_2c : w2.heap.size < w3.heap.size + 1 + 1 + 1 := by omega
        have z3_2d : w2.heap.size < w3.heap.size + 1 + 1 + 1 + 1 := by omega
        go_wp2_with fail
        refine (Y.out _).mono ?_
        rintro e w4 ⟨rfl, g4⟩
        obtain ⟨c4, f4, z4⟩ := laid g4
        try simp at z4
        have d4 := laid2 (w0 := w3) (by go_grown) g4
        have G4 : Grown w w4 := Grown.trans (by go_grown) g4
        clear g4
        have z4_0 : w.heap.size < w4.heap.size := by omega
        have z4_0a : w.heap.size < w4.heap.size + 1 := by omega
        have z4_0b : w.heap.size < w4.heap.size + 1 + 1 := by omega
        have z4_0c : w.heap.size < w4.heap.size + 1 + 1 + 1 := by omega
        have z4_0d : w.heap.size < w4.heap.size + 1 + 1 + 1 + 1 := by omega
        have z4_1 : w.heap.size + 1 < w4.heap.size := by omega
        have z4_1a : w.heap.size + 1 < w4.heap.size + 1 := by omega
        have z4_1b : w.heap.size + 1 < w4.heap.size + 1 + 1 := by omega
        have z4_1c : w.heap.size + 1 < w4.heap.size + 1 + 1 + 1 := by omega
        have z4_1d : w.heap.size + 1 < w4.heap.size + 1 + 1 + 1 + 1 := by omega
        have z4_2 : w2.heap.size < w4.heap.size := by omega
        have z4_2a : w2.heap.size < w4.heap.size + 1 := by omega
        have z4_2b : w2.heap.size < w4.heap.size + 1 + 1 := by omega
        have z4_2c : w2.heap.size < w4.heap.size + 1 + 1 + 1 := by omega
        have z4_2d : w2.heap.size < w4.heap.size + 1 + 1 + 1 + 1 := by omega
        go_wp2_with fail
        refine (Z.out _).mono ?_
        rintro e w5 ⟨rfl, g5⟩
        obtain ⟨c5, f5, z5⟩ := laid g5
        try simp at z5
        have d5 := laid2 (w0 := w4) (by go_grown) g5
        have G5 : Grown w w5 := Grown.trans (by go_grown) g5
        clear g5
        have z5_0 : w.heap.size < w5.heap.size := by omega
        have z5_0a : w.heap.size < w5.heap.size + 1 := by omega
        have z5_0b : w.heap.size < w5.heap.size + 1 + 1 := by omega
        have z5_0c : w.heap.size < w5.heap.size + 1 + 1 + 1 := by omega
        have z5_0d : w.heap.size < w5.heap.size + 1 + 1 + 1 + 1 := by omega
        have z5_1 : w.heap.size + 1 < w5.heap.size := by omega
        have z5_1a : w.heap.size + 1 < w5.heap.size + 1 := by omega
        have z5_1b : w.heap.size + 1 < w5.heap.size + 1 + 1 := by omega
        have z5_1c : w.heap.size + 1 < w5.heap.size + 1 + 1 + 1 := by omega
        have z5_1d : w.heap.size + 1 < w5.heap.size + 1 + 1 + 1 + 1 := by omega
        have z5_2 : w2.heap.size < w5.heap.size := by omega
        have z5_2a : w2.heap.size < w5.heap.size + 1 := by omega
        have z5_2b : w2.heap.size < w5.heap.size + 1 + 1 := by omega
        have z5_2c : w2.heap.size < w5.heap.size + 1 + 1 + 1 := by omega
        have z5_2d : w2.heap.size < w5.heap.size + 1 + 1 + 1 + 1 := by omega
        go_wp2_with fail
        go_ret
        exact ⟨by first | rfl | (simp; omega), by go_grown⟩
      · go_enter Try.func6, Try.ntmps6
        go_wp2_with fail
        refine (head_any _).mono ?_
        rintro e w1 ⟨rfl, g1⟩
        obtain ⟨c1, f1, z1⟩ := laid g1
        try simp at z1
        have G1 : Grown w w1 := Grown.trans (by go_grown) g1
        clear g1
        have z1_0 : w.heap.size < w1.heap.size := by omega
        have z1_0a : w.heap.size < w1.heap.size + 1 := by omega
        have z1_0b : w.heap.size < w1.heap.size + 1 + 1 := by omega
        have z1_0c : w.heap.size < w1.heap.size + 1 + 1 + 1 := by omega
        have z1_0d : w.heap.size < w1.heap.size + 1 + 1 + 1 + 1 := by omega
        have z1_1 : w.heap.size + 1 < w1.heap.size := by omega
        have z1_1a : w.heap.size + 1 < w1.heap.size + 1 := by omega
        have z1_1b : w.heap.size + 1 < w1.heap.size + 1 + 1 := by omega
        have z1_1c : w.heap.size + 1 < w1.heap.size + 1 + 1 + 1 := by omega
        have z1_1d : w.heap.size + 1 < w1.heap.size + 1 + 1 + 1 + 1 := by omega
        go_wp2_with fail
        refine (M.out _).mono ?_
        rintro e w2 ⟨rfl, g2⟩
        obtain ⟨c2, f2, z2⟩ := laid g2
        try simp at z2
        have d2 := laid2 (w0 := w1) (by go_grown) g2
        have G2 : Grown w w2 := Grown.trans (by go_grown) g2
        clear g2
        have z2_0 : w.heap.size < w2.heap.size := by omega
        have z2_0a : w.heap.size < w2.heap.size + 1 := by omega
        have z2_0b : w.heap.size < w2.heap.size + 1 + 1 := by omega
        have z2_0c : w.heap.size < w2.heap.size + 1 + 1 + 1 := by omega
        have z2_0d : w.heap.size < w2.heap.size + 1 + 1 + 1 + 1 := by omega
        have z2_1 : w.heap.size + 1 < w2.heap.size := by omega
        have z2_1a : w.heap.size + 1 < w2.heap.size + 1 := by omega
        have z2_1b : w.heap.size + 1 < w2.heap.size + 1 + 1 := by omega
        have z2_1c : w.heap.size + 1 < w2.heap.size + 1 + 1 + 1 := by omega
        have z2_1d : w.heap.size + 1 < w2.heap.size + 1 + 1 + 1 + 1 := by omega
        go_wp2_with fail
        refine (X.out _).mono ?_
        rintro e w3 ⟨rfl, g3⟩
        obtain ⟨c3, f3, z3⟩ := laid g3
        try simp at z3
        have d3 := laid2 (w0 := w2) (by go_grown) g3
        have G3 : Grown w w3 := Grown.trans (by go_grown) g3
        clear g3
        have z3_0 : w.heap.size < w3.heap.size := by omega
        have z3_0a : w.heap.size < w3.heap.size + 1 := by omega
        have z3_0b : w.heap.size < w3.heap.size + 1 + 1 := by omega
        have z3_0c : w.heap.size < w3.heap.size + 1 + 1 + 1 := by omega
        have z3_0d : w.heap.size < w3.heap.size + 1 + 1 + 1 + 1 := by omega
        have z3_1 : w.heap.size + 1 < w3.heap.size := by omega
        have z3_1a : w.heap.size + 1 < w3.heap.size + 1 := by omega
        have z3_1b : w.heap.size + 1 < w3.heap.size + 1 + 1 := by omega
        have z3_1c : w.heap.size + 1 < w3.heap.size + 1 + 1 + 1 := by omega
        have z3_1d : w.heap.size + 1 < w3.heap.size + 1 + 1 + 1 + 1 := by omega
        have z3_2 : w2.heap.size < w3.heap.size := by omega
        have z3_2a : w2.heap.size < w3.heap.size + 1 := by omega
        have z3_2b : w2.heap.size < w3.heap.size + 1 + 1 := by omega
        have z3_2c : w2.heap.size < w3.heap.size + 1 + 1 + 1 := by omega
        have z3_2d : w2.heap.size < w3.heap.size + 1 + 1 + 1 + 1 := by omega
        go_wp2_with fail
        refine (Y.out _).mono ?_
        rintro e w4 ⟨rfl, g4⟩
        obtain ⟨c4, f4, z4⟩ := laid g4
        try simp at z4
        have d4 := laid2 (w0 := w3) (by go_grown) g4
        have G4 : Grown w w4 := Grown.trans (by go_grown) g4
        clear g4
        have z4_0 : w.heap.size < w4.heap.size := by omega
        have z4_0a : w.heap.size < w4.heap.size + 1 := by omega
        have z4_0b : w.heap.size < w4.heap.size + 1 + 1 := by omega
        have z4_0c : w.heap.size < w4.heap.size + 1 + 1 + 1 := by omega
        have z4_0d : w.heap.size < w4.heap.size + 1 + 1 + 1 + 1 := by omega
        have z4_1 : w.heap.size + 1 < w4.heap.size := by omega
        have z4_1a : w.heap.size + 1 < w4.heap.size + 1 := by omega
        have z4_1b : w.heap.size + 1 < w4.heap.size + 1 + 1 := by omega
        have z4_1c : w.heap.size + 1 < w4.heap.size + 1 + 1 + 1 := by omega
        have z4_1d : w.heap.size + 1 < w4.heap.size + 1 + 1 + 1 + 1 := by omega
        have z4_2 : w2.heap.size < w4.heap.size := by omega
        have z4_2a : w2.heap.size < w4.heap.size + 1 := by omega
        have z4_2b : w2.heap.size < w4.heap.size + 1 + 1 := by omega
        have z4_2c : w2.heap.size < w4.heap.size + 1 + 1 + 1 := by omega
        have z4_2d : w2.heap.size < w4.heap.size + 1 + 1 + 1 + 1 := by omega
        go_wp2_with fail
        refine (Z.out _).mono ?_
        rintro e w5 ⟨rfl, g5⟩
        obtain ⟨c5, f5, z5⟩ := laid g5
        try simp at z5
        have d5 := laid2 (w0 := w4) (by go_grown) g5
        have G5 : Grown w w5 := Grown.trans (by go_grown) g5
        clear g5
        have z5_0 : w.heap.size < w5.heap.size := by omega
        have z5_0a : w.heap.size < w5.heap.size + 1 := by omega
        have z5_0b : w.heap.size < w5.heap.size + 1 + 1 := by omega
        have z5_0c : w.heap.size < w5.heap.size + 1 + 1 + 1 := by omega
        have z5_0d : w.heap.size < w5.heap.size + 1 + 1 + 1 + 1 := by omega
        have z5_1 : w.heap.size + 1 < w5.heap.size := by omega
        have z5_1a : w.heap.size + 1 < w5.heap.size + 1 := by omega
        have z5_1b : w.heap.size + 1 < w5.heap.size + 1 + 1 := by omega
        have z5_1c : w.heap.size + 1 < w5.heap.size + 1 + 1 + 1 := by omega
        have z5_1d : w.heap.size + 1 < w5.heap.size + 1 + 1 + 1 + 1 := by omega
        have z5_2 : w2.heap.size < w5.heap.size := by omega
        have z5_2a : w2.heap.size < w5.heap.size + 1 := by omega
        have z5_2b : w2.heap.size < w5.heap.size + 1 + 1 := by omega
        have z5_2c : w2.heap.size < w5.heap.size + 1 + 1 + 1 := by omega
        have z5_2d : w2.heap.size < w5.heap.size + 1 + 1 + 1 + 1 := by omega
        go_wp2_with fail
        go_ret
        exact ⟨by first | rfl | (simp; omega), by go_grown⟩
      · go_enter Try.func6, Try.ntmps6
        go_wp2_with fail
        refine (head_any _).mono ?_
        rintro e w1 ⟨rfl, g1⟩
        obtain ⟨c1, f1, z1⟩ := laid g1
        try simp at z1
        have G1 : Grown w w1 := Grown.trans (by go_grown) g1
        clear g1
        have z1_0 : w.heap.size < w1.heap.size := by omega
        have z1_0a : w.heap.size < w1.heap.size + 1 := by omega
        have z1_0b : w.heap.size < w1.heap.size + 1 + 1 := by omega
        have z1_0c : w.heap.size < w1.heap.size + 1 + 1 + 1 := by omega
        have z1_0d : w.heap.size < w1.heap.size + 1 + 1 + 1 + 1 := by omega
        have z1_1 : w.heap.size + 1 < w1.heap.size := by omega
        have z1_1a : w.heap.size + 1 < w1.heap.size + 1 := by omega
        have z1_1b : w.heap.size + 1 < w1.heap.size + 1 + 1 := by omega
        have z1_1c : w.heap.size + 1 < w1.heap.size + 1 + 1 + 1 := by omega
        have z1_1d : w.heap.size + 1 < w1.heap.size + 1 + 1 + 1 + 1 := by omega
        go_wp2_with fail
        refine (M.out _).mono ?_
        rintro e w2 ⟨rfl, g2⟩
        obtain ⟨c2, f2, z2⟩ := laid g2
        try simp at z2
        have d2 := laid2 (w0 := w1) (by go_grown) g2
        have G2 : Grown w w2 := Grown.trans (by go_grown) g2
        clear g2
        have z2_0 : w.heap.size < w2.heap.size := by omega
        have z2_0a : w.heap.size < w2.heap.size + 1 := by omega
        have z2_0b : w.heap.size < w2.heap.size + 1 + 1 := by omega
        have z2_0c : w.heap.size < w2.heap.size + 1 + 1 + 1 := by omega
        have z2_0d : w.heap.size < w2.heap.size + 1 + 1 + 1 + 1 := by omega
        have z2_1 : w.heap.size + 1 < w2.heap.size := by omega
        have z2_1a : w.heap.size + 1 < w2.heap.size + 1 := by omega
        have z2_1b : w.heap.size + 1 < w2.heap.size + 1 + 1 := by omega
        have z2_1c : w.heap.size + 1 < w2.heap.size + 1 + 1 + 1 := by omega
        have z2_1d : w.heap.size + 1 < w2.heap.size + 1 + 1 + 1 + 1 := by omega
        go_wp2_with fail
        refine (X.out _).mono ?_
        rintro e w3 ⟨rfl, g3⟩
        obtain ⟨c3, f3, z3⟩ := laid g3
        try simp at z3
        have d3 := laid2 (w0 := w2) (by go_grown) g3
        have G3 : Grown w w3 := Grown.trans (by go_grown) g3
        clear g3
        have z3_0 : w.heap.size < w3.heap.size := by omega
        have z3_0a : w.heap.size < w3.heap.size + 1 := by omega
        have z3_0b : w.heap.size < w3.heap.size + 1 + 1 := by omega
        have z3_0c : w.heap.size < w3.heap.size + 1 + 1 + 1 := by omega
        have z3_0d : w.heap.size < w3.heap.size + 1 + 1 + 1 + 1 := by omega
        have z3_1 : w.heap.size + 1 < w3.heap.size := by omega
        have z3_1a : w.heap.size + 1 < w3.heap.size + 1 := by omega
        have z3_1b : w.heap.size + 1 < w3.heap.size + 1 + 1 := by omega
        have z3_1c : w.heap.size + 1 < w3.heap.size + 1 + 1 + 1 := by omega
        have z3_1d : w.heap.size + 1 < w3.heap.size + 1 + 1 + 1 + 1 := by omega
        have z3_2 : w2.heap.size < w3.heap.size := by omega
        have z3_2a : w2.heap.size < w3.heap.size + 1 := by omega
        have z3_2b : w2.heap.size < w3.heap.size + 1 + 1 := by omega
        have z3_2c : w2.heap.size < w3.heap.size + 1 + 1 + 1 := by omega
        have z3_2d : w2.heap.size < w3.heap.size + 1 + 1 + 1 + 1 := by omega
        go_wp2_with fail
        refine (Y.out _).mono ?_
        rintro e w4 ⟨rfl, g4⟩
        obtain ⟨c4, f4, z4⟩ := laid g4
        try simp at z4
        have d4 := laid2 (w0 := w3) (by go_grown) g4
        have G4 : Grown w w4 := Grown.trans (by go_grown) g4
        clear g4
        have z4_0 : w.heap.size < w4.heap.size := by omega
        have z4_0a : w.heap.size < w4.heap.size + 1 := by omega
        have z4_0b : w.heap.size < w4.heap.size + 1 + 1 := by omega
        have z4_0c : w.heap.size < w4.heap.size + 1 + 1 + 1 := by omega
        have z4_0d : w.heap.size < w4.heap.size + 1 + 1 + 1 + 1 := by omega
        have z4_1 : w.heap.size + 1 < w4.heap.size := by omega
        have z4_1a : w.heap.size + 1 < w4.heap.size + 1 := by omega
        have z4_1b : w.heap.size + 1 < w4.heap.size + 1 + 1 := by omega
        have z4_1c : w.heap.size + 1 < w4.heap.size + 1 + 1 + 1 := by omega
        have z4_1d : w.heap.size + 1 < w4.heap.size + 1 + 1 + 1 + 1 := by omega
        have z4_2 : w2.heap.size < w4.heap.size := by omega
        have z4_2a : w2.heap.size < w4.heap.size + 1 := by omega
        have z4_2b : w2.heap.size < w4.heap.size + 1 + 1 := by omega
        have z4_2c : w2.heap.size < w4.heap.size + 1 + 1 + 1 := by omega
        have z4_2d : w2.heap.size < w4.heap.size + 1 + 1 + 1 + 1 := by omega
        go_wp2_with fail
        refine (Z.out _).mono ?_
        rintro e w5 ⟨rfl, g5⟩
        obtain ⟨c5, f5, z5⟩ := laid g5
        try simp at z5
        have d5 := laid2 (w0 := w4) (by go_grown) g5
        have G5 : Grown w w5 := Grown.trans (by go_grown) g5
        clear g5
        have z5_0 : w.heap.size < w5.heap.size := by omega
        have z5_0a : w.heap.size < w5.heap.size + 1 := by omega
        have z5_0b : w.heap.size < w5.heap.size + 1 + 1 := by omega
        have z5_0c : w.heap.size < w5.heap.size + 1 + 1 + 1 := by omega
        have z5_0d : w.heap.size < w5.heap.size + 1 + 1 + 1 + 1 := by omega
        have z5_1 : w.heap.size + 1 < w5.heap.size := by omega
        have z5_1a : w.heap.size + 1 < w5.heap.size + 1 := by omega
        have z5_1b : w.heap.size + 1 < w5.heap.size + 1 + 1 := by omega
        have z5_1c : w.heap.size + 1 < w5.heap.size + 1 + 1 + 1 := by omega
        have z5_1d : w.heap.size + 1 < w5.heap.size + 1 + 1 + 1 + 1 := by omega
        have z5_2 : w2.heap.size < w5.heap.size := by omega
        have z5_2a : w2.heap.size < w5.heap.size + 1 := by omega
        have z5_2b : w2.heap.size < w5.heap.size + 1 + 1 := by omega
        have z5_2c : w2.heap.size < w5.heap.size + 1 + 1 + 1 := by omega
        have z5_2d : w2.heap.size < w5.heap.size + 1 + 1 + 1 + 1 := by omega
        go_wp2_with fail
        go_ret
        exact ⟨by first | rfl | (simp; omega), by go_grown⟩
    · have k' : mn b d < mx a c := by omega
      have M := Lib.hid (spMeet_none a b c d · h k')
      have hz : (x && y) = false := by
        rw [← hx, ← hy, ← hs_meet]
        unfold hs; simp; omega
      have hq : b < c ∨ (c ≤ b ∧ d < a) := by
        rcases mx_cases a c with ⟨p, p'⟩ | ⟨p, p'⟩ <;> rcases mn_cases b d with ⟨q, q'⟩ | ⟨q, q'⟩ <;> rw [p', q'] at k' <;> obtain ⟨⟨_, _, _⟩, ⟨_, _, _⟩⟩ := h <;> omega
      clear k k' hx hy h
      rcases hq with q | ⟨q, r⟩ <;> cases x <;> cases y <;> first | cases hz | clear hz
      · go_enter Try.func6, Try.ntmps6
        go_wp2_with fail
        refine (head_any _).mono ?_
        rintro e w1 ⟨rfl, g1⟩
        obtain ⟨c1, f1, z1⟩ := laid g1
        try simp at z1
        have G1 : Grown w w1 := Grown.trans (by go_grown) g1
        clear g1
        have z1_0 : w.heap.size < w1.heap.size := by omega
        have z1_0a : w.heap.size < w1.heap.size + 1 := by omega
        have z1_0b : w.heap.size < w1.heap.size + 1 + 1 := by omega
        have z1_0c : w.heap.size < w1.heap.size + 1 + 1 + 1 := by omega
        have z1_0d : w.heap.size < w1.heap.size + 1 + 1 + 1 + 1 := by omega
        have z1_1 : w.heap.size + 1 < w1.heap.size := by omega
        have z1_1a : w.heap.size + 1 < w1.heap.size + 1 := by omega
        have z1_1b : w.heap.size + 1 < w1.heap.size + 1 + 1 := by omega
        have z1_1c : w.heap.size + 1 < w1.heap.size + 1 + 1 + 1 := by omega
        have z1_1d : w.heap.size + 1 < w1.heap.size + 1 + 1 + 1 + 1 := by omega
        go_wp2_with fail
        refine (M.out _).mono ?_
        rintro e w2 ⟨rfl, g2⟩
        obtain ⟨c2, f2, z2⟩ := laid g2
        try simp at z2
        have d2 := laid2 (w0 := w1) (by go_grown) g2
        have G2 : Grown w w2 := Grown.trans (by go_grown) g2
        clear g2
        have z2_0 : w.heap.size < w2.heap.size := by omega
        have z2_0a : w.heap.size < w2.heap.size + 1 := by omega
        have z2_0b : w.heap.size < w2.heap.size + 1 + 1 := by omega
        have z2_0c : w.heap.size < w2.heap.size + 1 + 1 + 1 := by omega
        have z2_0d : w.heap.size < w2.heap.size + 1 + 1 + 1 + 1 := by omega
        have z2_1 : w.heap.size + 1 < w2.heap.size := by omega
        have z2_1a : w.heap.size + 1 < w2.heap.size + 1 := by omega
        have z2_1b : w.heap.size + 1 < w2.heap.size + 1 + 1 := by omega
        have z2_1c : w.heap.size + 1 < w2.heap.size + 1 + 1 + 1 := by omega
        have z2_1d : w.heap.size + 1 < w2.heap.size + 1 + 1 + 1 + 1 := by omega
        go_wp2_with fail
        refine (X.out _).mono ?_
        rintro e w3 ⟨rfl, g3⟩
        obtain ⟨c3, f3, z3⟩ := laid g3
        try simp at z3
        have d3 := laid2 (w0 := w2) (by go_grown) g3
        have G3 : Grown w w3 := Grown.trans (by go_grown) g3
        clear g3
        have z3_0 : w.heap.size < w3.heap.size := by omega
        have z3_0a : w.heap.size < w3.heap.size + 1 := by omega
        have z3_0b : w.heap.size < w3.heap.size + 1 + 1 := by omega
        have z3_0c : w.heap.size < w3.heap.size + 1 + 1 + 1 := by omega
        have z3_0d : w.heap.size < w3.heap.size + 1 + 1 + 1 + 1 := by omega
        have z3_1 : w.heap.size + 1 < w3.heap.size := by omega
        have z3_1a : w.heap.size + 1 < w3.heap.size + 1 := by omega
        have z3_1b : w.heap.size + 1 < w3.heap.size + 1 + 1 := by omega
        have z3_1c : w.heap.size + 1 < w3.heap.size + 1 + 1 + 1 := by omega
        have z3_1d : w.heap.size + 1 < w3.heap.size + 1 + 1 + 1 + 1 := by omega
        have z3_2 : w2.heap.size < w3.heap.size := by omega
        have z3_2a : w2.heap.size < w3.heap.size + 1 := by omega
        have z3_2b : w2.heap.size < w3.heap.size + 1 + 1 := by omega
        have z3_2c : w2.heap.size < w3.heap.size + 1 + 1 + 1 := by omega
        have z3_2d : w2.heap.size < w3.heap.size + 1 + 1 + 1 + 1 := by omega
        go_wp2_with fail
        refine (Y.out _).mono ?_
        rintro e w4 ⟨rfl, g4⟩
        obtain ⟨c4, f4, z4⟩ := laid g4
        try simp at z4
        have d4 := laid2 (w0 := w3) (by go_grown) g4
        have G4 : Grown w w4 := Grown.trans (by go_grown) g4
        clear g4
        have z4_0 : w.heap.size < w4.heap.size := by omega
        have z4_0a : w.heap.size < w4.heap.size + 1 := by omega
        have z4_0b : w.heap.size < w4.heap.size + 1 + 1 := by omega
        have z4_0c : w.heap.size < w4.heap.size + 1 + 1 + 1 := by omega
        have z4_0d : w.heap.size < w4.heap.size + 1 + 1 + 1 + 1 := by omega
        have z4_1 : w.heap.size + 1 < w4.heap.size := by omega
        have z4_1a : w.heap.size + 1 < w4.heap.size + 1 := by omega
        have z4_1b : w.heap.size + 1 < w4.heap.size + 1 + 1 := by omega
        have z4_1c : w.heap.size + 1 < w4.heap.size + 1 + 1 + 1 := by omega
        have z4_1d : w.heap.size + 1 < w4.heap.size + 1 + 1 + 1 + 1 := by omega
        have z4_2 : w2.heap.size < w4.heap.size := by omega
        have z4_2a : w2.heap.size < w4.heap.size + 1 := by omega
        have z4_2b : w2.heap.size < w4.heap.size + 1 + 1 := by omega
        have z4_2c : w2.heap.size < w4.heap.size + 1 + 1 + 1 := by omega
        have z4_2d : w2.heap.size < w4.heap.size + 1 + 1 + 1 + 1 := by omega
        go_wp2_with fail
        go_ret
        exact ⟨by first | rfl | (simp; omega), by go_grown⟩
      · go_enter Try.func6, Try.ntmps6
        go_wp2_with fail
        refine (head_any _).mono ?_
        rintro e w1 ⟨rfl, g1⟩
        obtain ⟨c1, f1, z1⟩ := laid g1
        try simp at z1
        have G1 : Grown w w1 := Grown.trans (by go_grown) g1
        clear g1
        have z1_0 : w.heap.size < w1.heap.size := by omega
        have z1_0a : w.heap.size < w1.heap.size + 1 := by omega
        have z1_0b : w.heap.size < w1.heap.size + 1 + 1 := by omega
        have z1_0c : w.heap.size < w1.heap.size + 1 + 1 + 1 := by omega
        have z1_0d : w.heap.size < w1.heap.size + 1 + 1 + 1 + 1 := by omega
        have z1_1 : w.heap.size + 1 < w1.heap.size := by omega
        have z1_1a : w.heap.size + 1 < w1.heap.size + 1 := by omega
        have z1_1b : w.heap.size + 1 < w1.heap.size + 1 + 1 := by omega
        have z1_1c : w.heap.size + 1 < w1.heap.size + 1 + 1 + 1 := by omega
        have z1_1d : w.heap.size + 1 < w1.heap.size + 1 + 1 + 1 + 1 := by omega
        go_wp2_with fail
        refine (M.out _).mono ?_
        rintro e w2 ⟨rfl, g2⟩
        obtain ⟨c2, f2, z2⟩ := laid g2
        try simp at z2
        have d2 := laid2 (w0 := w1) (by go_grown) g2
        have G2 : Grown w w2 := Grown.trans (by go_grown) g2
        clear g2
        have z2_0 : w.heap.size < w2.heap.size := by omega
        have z2_0a : w.heap.size < w2.heap.size + 1 := by omega
        have z2_0b : w.heap.size < w2.heap.size + 1 + 1 := by omega
        have z2_0c : w.heap.size < w2.heap.size + 1 + 1 + 1 := by omega
        have z2_0d : w.heap.size < w2.heap.size + 1 + 1 + 1 + 1 := by omega
        have z2_1 : w.heap.size + 1 < w2.heap.size := by omega
        have z2_1a : w.heap.size + 1 < w2.heap.size + 1 := by omega
        have z2_1b : w.heap.size + 1 < w2.heap.size + 1 + 1 := by omega
        have z2_1c : w.heap.size + 1 < w2.heap.size + 1 + 1 + 1 := by omega
        have z2_1d : w.heap.size + 1 < w2.heap.size + 1 + 1 + 1 + 1 := by omega
        go_wp2_with fail
        refine (X.out _).mono ?_
        rintro e w3 ⟨rfl, g3⟩
        obtain ⟨c3, f3, z3⟩ := laid g3
        try simp at z3
        have d3 := laid2 (w0 := w2) (by go_grown) g3
        have G3 : Grown w w3 := Grown.trans (by go_grown) g3
        clear g3
        have z3_0 : w.heap.size < w3.heap.size := by omega
        have z3_0a : w.heap.size < w3.heap.size + 1 := by omega
        have z3_0b : w.heap.size < w3.heap.size + 1 + 1 := by omega
        have z3_0c : w.heap.size < w3.heap.size + 1 + 1 + 1 := by omega
        have z3_0d : w.heap.size < w3.heap.size + 1 + 1 + 1 + 1 := by omega
        have z3_1 : w.heap.size + 1 < w3.heap.size := by omega
        have z3_1a : w.heap.size + 1 < w3.heap.size + 1 := by omega
        have z3_1b : w.heap.size + 1 < w3.heap.size + 1 + 1 := by omega
        have z3_1c : w.heap.size + 1 < w3.heap.size + 1 + 1 + 1 := by omega
        have z3_1d : w.heap.size + 1 < w3.heap.size + 1 + 1 + 1 + 1 := by omega
        have z3_2 : w2.heap.size < w3.heap.size := by omega
        have z3_2a : w2.heap.size < w3.heap.size + 1 := by omega
        have z3_2b : w2.heap.size < w3.heap.size + 1 + 1 := by omega
        have z3_2c : w2.heap.size < w3.heap.size + 1 + 1 + 1 := by omega
        have z3_2d : w2.heap.size < w3.heap.size + 1 + 1 + 1 + 1 := by omega
        go_wp2_with fail
        refine (Y.out _).mono ?_
        rintro e w4 ⟨rfl, g4⟩
        obtain ⟨c4, f4, z4⟩ := laid g4
        try simp at z4
        have d4 := laid2 (w0 := w3) (by go_grown) g4
        have G4 : Grown w w4 := Grown.trans (by go_grown) g4
        clear g4
        have z4_0 : w.heap.size < w4.heap.size := by omega
        have z4_0a : w.heap.size < w4.heap.size + 1 := by omega
        have z4_0b : w.heap.size < w4.heap.size + 1 + 1 := by omega
        have z4_0c : w.heap.size < w4.heap.size + 1 + 1 + 1 := by omega
        have z4_0d : w.heap.size < w4.heap.size + 1 + 1 + 1 + 1 := by omega
        have z4_1 : w.heap.size + 1 < w4.heap.size := by omega
        have z4_1a : w.heap.size + 1 < w4.heap.size + 1 := by omega
        have z4_1b : w.heap.size + 1 < w4.heap.size + 1 + 1 := by omega
        have z4_1c : w.heap.size + 1 < w4.heap.size + 1 + 1 + 1 := by omega
        have z4_1d : w.heap.size + 1 < w4.heap.size + 1 + 1 + 1 + 1 := by omega
        have z4_2 : w2.heap.size < w4.heap.size := by omega
        have z4_2a : w2.heap.size < w4.heap.size + 1 := by omega
        have z4_2b : w2.heap.size < w4.heap.size + 1 + 1 := by omega
        have z4_2c : w2.heap.size < w4.heap.size + 1 + 1 + 1 := by omega
        have z4_2d : w2.heap.size < w4.heap.size + 1 + 1 + 1 + 1 := by omega
        go_wp2_with fail
        go_ret
        exact ⟨by first | rfl | (simp; omega), by go_grown⟩
      · go_enter Try.func6, Try.ntmps6
        go_wp2_with fail
        refine (head_any _).mono ?_
        rintro e w1 ⟨rfl, g1⟩
        obtain ⟨c1, f1, z1⟩ := laid g1
        try simp at z1
        have G1 : Grown w w1 := Grown.trans (by go_grown) g1
        clear g1
        have z1_0 : w.heap.size < w1.heap.size := by omega
        have z1_0a : w.heap.size < w1.heap.size + 1 := by omega
        have z1_0b : w.heap.size < w1.heap.size + 1 + 1 := by omega
        have z1_0c : w.heap.size < w1.heap.size + 1 + 1 + 1 := by omega
        have z1_0d : w.heap.size < w1.heap.size + 1 + 1 + 1 + 1 := by omega
        have z1_1 : w.heap.size + 1 < w1.heap.size := by omega
        have z1_1a : w.heap.size + 1 < w1.heap.size + 1 := by omega
        have z1_1b : w.heap.size + 1 < w1.heap.size + 1 + 1 := by omega
        have z1_1c : w.heap.size + 1 < w1.heap.size + 1 + 1 + 1 := by omega
        have z1_1d : w.heap.size + 1 < w1.heap.size + 1 + 1 + 1 + 1 := by omega
        go_wp2_with fail
        refine (M.out _).mono ?_
        rintro e w2 ⟨rfl, g2⟩
        obtain ⟨c2, f2, z2⟩ := laid g2
        try simp at z2
        have d2 := laid2 (w0 := w1) (by go_grown) g2
        have G2 : Grown w w2 := Grown.trans (by go_grown) g2
        clear g2
        have z2_0 : w.heap.size < w2.heap.size := by omega
        have z2_0a : w.heap.size < w2.heap.size + 1 := by omega
        have z2_0b : w.heap.size < w2.heap.size + 1 + 1 := by omega
        have z2_0c : w.heap.size < w2.heap.size + 1 + 1 + 1 := by omega
        have z2_0d : w.heap.size < w2.heap.size + 1 + 1 + 1 + 1 := by omega
        have z2_1 : w.heap.size + 1 < w2.heap.size := by omega
        have z2_1a : w.heap.size + 1 < w2.heap.size + 1 := by omega
        have z2_1b : w.heap.size + 1 < w2.heap.size + 1 + 1 := by omega
        have z2_1c : w.heap.size + 1 < w2.heap.size + 1 + 1 + 1 := by omega
        have z2_1d : w.heap.size + 1 < w2.heap.size + 1 + 1 + 1 + 1 := by omega
        go_wp2_with fail
        refine (X.out _).mono ?_
        rintro e w3 ⟨rfl, g3⟩
        obtain ⟨c3, f3, z3⟩ := laid g3
        try simp at z3
        have d3 := laid2 (w0 := w2) (by go_grown) g3
        have G3 : Grown w w3 := Grown.trans (by go_grown) g3
        clear g3
        have z3_0 : w.heap.size < w3.heap.size := by omega
        have z3_0a : w.heap.size < w3.heap.size + 1 := by omega
        have z3_0b : w.heap.size < w3.heap.size + 1 + 1 := by omega
        have z3_0c : w.heap.size < w3.heap.size + 1 + 1 + 1 := by omega
        have z3_0d : w.heap.size < w3.heap.size + 1 + 1 + 1 + 1 := by omega
        have z3_1 : w.heap.size + 1 < w3.heap.size := by omega
        have z3_1a : w.heap.size + 1 < w3.heap.size + 1 := by omega
        have z3_1b : w.heap.size + 1 < w3.heap.size + 1 + 1 := by omega
        have z3_1c : w.heap.size + 1 < w3.heap.size + 1 + 1 + 1 := by omega
        have z3_1d : w.heap.size + 1 < w3.heap.size + 1 + 1 + 1 + 1 := by omega
        have z3_2 : w2.heap.size < w3.heap.size := by omega
        have z3_2a : w2.heap.size < w3.heap.size + 1 := by omega
        have z3_2b : w2.heap.size < w3.heap.size + 1 + 1 := by omega
        have z3_2c : w2.heap.size < w3.heap.size + 1 + 1 + 1 := by omega
        have z3_2d : w2.heap.size < w3.heap.size + 1 + 1 + 1 + 1 := by omega
        go_wp2_with fail
        refine (Y.out _).mono ?_
        rintro e w4 ⟨rfl, g4⟩
        obtain ⟨c4, f4, z4⟩ := laid g4
        try simp at z4
        have d4 := laid2 (w0 := w3) (by go_grown) g4
        have G4 : Grown w w4 := Grown.trans (by go_grown) g4
        clear g4
        have z4_0 : w.heap.size < w4.heap.size := by omega
        have z4_0a : w.heap.size < w4.heap.size + 1 := by omega
        have z4_0b : w.heap.size < w4.heap.size + 1 + 1 := by omega
        have z4_0c : w.heap.size < w4.heap.size + 1 + 1 + 1 := by omega
        have z4_0d : w.heap.size < w4.heap.size + 1 + 1 + 1 + 1 := by omega
        have z4_1 : w.heap.size + 1 < w4.heap.size := by omega
        have z4_1a : w.heap.size + 1 < w4.heap.size + 1 := by omega
        have z4_1b : w.heap.size + 1 < w4.heap.size + 1 + 1 := by omega
        have z4_1c : w.heap.size + 1 < w4.heap.size + 1 + 1 + 1 := by omega
        have z4_1d : w.heap.size + 1 < w4.heap.size + 1 + 1 + 1 + 1 := by omega
        have z4_2 : w2.heap.size < w4.heap.size := by omega
        have z4_2a : w2.heap.size < w4.heap.size + 1 := by omega
        have z4_2b : w2.heap.size < w4.heap.size + 1 + 1 := by omega
        have z4_2c : w2.heap.size < w4.heap.size + 1 + 1 + 1 := by omega
        have z4_2d : w2.heap.size < w4.heap.size + 1 + 1 + 1 + 1 := by omega
        go_wp2_with fail
        go_ret
        exact ⟨by first | rfl | (simp; omega), by go_grown⟩
      · go_enter Try.func6, Try.ntmps6
        go_wp2_with fail
        refine (head_any _).mono ?_
        rintro e w1 ⟨rfl, g1⟩
        obtain ⟨c1, f1, z1⟩ := laid g1
        try simp at z1
        have G1 : Grown w w1 := Grown.trans (by go_grown) g1
        clear g1
        have z1_0 : w.heap.size < w1.heap.size := by omega
        have z1_0a : w.heap.size < w1.heap.size + 1 := by omega
        have z1_0b : w.heap.size < w1.heap.size + 1 + 1 := by omega
        have z1_0c : w.heap.size < w1.heap.size + 1 + 1 + 1 := by omega
        have z1_0d : w.heap.size < w1.heap.size + 1 + 1 + 1 + 1 := by omega
        have z1_1 : w.heap.size + 1 < w1.heap.size := by omega
        have z1_1a : w.heap.size + 1 < w1.heap.size + 1 := by omega
        have z1_1b : w.heap.size + 1 < w1.heap.size + 1 + 1 := by omega
        have z1_1c : w.heap.size + 1 < w1.heap.size + 1 + 1 + 1 := by omega
        have z1_1d : w.heap.size + 1 < w1.heap.size + 1 + 1 + 1 + 1 := by omega
        go_wp2_with fail
        refine (M.out _).mono ?_
        rintro e w2 ⟨rfl, g2⟩
        obtain ⟨c2, f2, z2⟩ := laid g2
        try simp at z2
        have d2 := laid2 (w0 := w1) (by go_grown) g2
        have G2 : Grown w w2 := Grown.trans (by go_grown) g2
        clear g2
        have z2_0 : w.heap.size < w2.heap.size := by omega
        have z2_0a : w.heap.size < w2.heap.size + 1 := by omega
        have z2_0b : w.heap.size < w2.heap.size + 1 + 1 := by omega
        have z2_0c : w.heap.size < w2.heap.size + 1 + 1 + 1 := by omega
        have z2_0d : w.heap.size < w2.heap.size + 1 + 1 + 1 + 1 := by omega
        have z2_1 : w.heap.size + 1 < w2.heap.size := by omega
        have z2_1a : w.heap.size + 1 < w2.heap.size + 1 := by omega
        have z2_1b : w.heap.size + 1 < w2.heap.size + 1 + 1 := by omega
        have z2_1c : w.heap.size + 1 < w2.heap.size + 1 + 1 + 1 := by omega
        have z2_1d : w.heap.size + 1 < w2.heap.size + 1 + 1 + 1 + 1 := by omega
        go_wp2_with fail
        refine (X.out _).mono ?_
        rintro e w3 ⟨rfl, g3⟩
        obtain ⟨c3, f3, z3⟩ := laid g3
        try simp at z3
        have d3 := laid2 (w0 := w2) (by go_grown) g3
        have G3 : Grown w w3 := Grown.trans (by go_grown) g3
        clear g3
        have z3_0 : w.heap.size < w3.heap.size := by omega
        have z3_0a : w.heap.size < w3.heap.size + 1 := by omega
        have z3_0b : w.heap.size < w3.heap.size + 1 + 1 := by omega
        have z3_0c : w.heap.size < w3.heap.size + 1 + 1 + 1 := by omega
        have z3_0d : w.heap.size < w3.heap.size + 1 + 1 + 1 + 1 := by omega
        have z3_1 : w.heap.size + 1 < w3.heap.size := by omega
        have z3_1a : w.heap.size + 1 < w3.heap.size + 1 := by omega
        have z3_1b : w.heap.size + 1 < w3.heap.size + 1 + 1 := by omega
        have z3_1c : w.heap.size + 1 < w3.heap.size + 1 + 1 + 1 := by omega
        have z3_1d : w.heap.size + 1 < w3.heap.size + 1 + 1 + 1 + 1 := by omega
        have z3_2 : w2.heap.size < w3.heap.size := by omega
        have z3_2a : w2.heap.size < w3.heap.size + 1 := by omega
        have z3_2b : w2.heap.size < w3.heap.size + 1 + 1 := by omega
        have z3_2c : w2.heap.size < w3.heap.size + 1 + 1 + 1 := by omega
        have z3_2d : w2.heap.size < w3.heap.size + 1 + 1 + 1 + 1 := by omega
        go_wp2_with fail
        refine (Y.out _).mono ?_
        rintro e w4 ⟨rfl, g4⟩
        obtain ⟨c4, f4, z4⟩ := laid g4
        try simp at z4
        have d4 := laid2 (w0 := w3) (by go_grown) g4
        have G4 : Grown w w4 := Grown.trans (by go_grown) g4
        clear g4
        have z4_0 : w.heap.size < w4.heap.size := by omega
        have z4_0a : w.heap.size < w4.heap.size + 1 := by omega
        have z4_0b : w.heap.size < w4.heap.size + 1 + 1 := by omega
        have z4_0c : w.heap.size < w4.heap.size + 1 + 1 + 1 := by omega
        have z4_0d : w.heap.size < w4.heap.size + 1 + 1 + 1 + 1 := by omega
        have z4_1 : w.heap.size + 1 < w4.heap.size := by omega
        have z4_1a : w.heap.size + 1 < w4.heap.size + 1 := by omega
        have z4_1b : w.heap.size + 1 < w4.heap.size + 1 + 1 := by omega
        have z4_1c : w.heap.size + 1 < w4.heap.size + 1 + 1 + 1 := by omega
        have z4_1d : w.heap.size + 1 < w4.heap.size + 1 + 1 + 1 + 1 := by omega
        have z4_2 : w2.heap.size < w4.heap.size := by omega
        have z4_2a : w2.heap.size < w4.heap.size + 1 := by omega
        have z4_2b : w2.heap.size < w4.heap.size + 1 + 1 := by omega
        have z4_2c : w2.heap.size < w4.heap.size + 1 + 1 + 1 := by omega
        have z4_2d : w2.heap.size < w4.heap.size + 1 + 1 + 1 + 1 := by omega
        go_wp2_with fail
        go_ret
        exact ⟨by first | rfl | (simp; omega), by go_grown⟩
      · go_enter Try.func6, Try.ntmps6
        go_wp2_with fail
        refine (head_any _).mono ?_
        rintro e w1 ⟨rfl, g1⟩
        obtain ⟨c1, f1, z1⟩ := laid g1
        try simp at z1
        have G1 : Grown w w1 := Grown.trans (by go_grown) g1
        clear g1
        have z1_0 : w.heap.size < w1.heap.size := by omega
        have z1_0a : w.heap.size < w1.heap.size + 1 := by omega
        have z1_0b : w.heap.size < w1.heap.size + 1 + 1 := by omega
        have z1_0c : w.heap.size < w1.heap.size + 1 + 1 + 1 := by omega
        have z1_0d : w.heap.size < w1.heap.size + 1 + 1 + 1 + 1 := by omega
        have z1_1 : w.heap.size + 1 < w1.heap.size := by omega
        have z1_1a : w.heap.size + 1 < w1.heap.size + 1 := by omega
        have z1_1b : w.heap.size + 1 < w1.heap.size + 1 + 1 := by omega
        have z1_1c : w.heap.size + 1 < w1.heap.size + 1 + 1 + 1 := by omega
        have z1_1d : w.heap.size + 1 < w1.heap.size + 1 + 1 + 1 + 1 := by omega
        go_wp2_with fail
        refine (M.out _).mono ?_
        rintro e w2 ⟨rfl, g2⟩
        obtain ⟨c2, f2, z2⟩ := laid g2
        try simp at z2
        have d2 := laid2 (w0 := w1) (by go_grown) g2
        have G2 : Grown w w2 := Grown.trans (by go_grown) g2
        clear g2
        have z2_0 : w.heap.size < w2.heap.size := by omega
        have z2_0a : w.heap.size < w2.heap.size + 1 := by omega
        have z2_0b : w.heap.size < w2.heap.size + 1 + 1 := by omega
        have z2_0c : w.heap.size < w2.heap.size + 1 + 1 + 1 := by omega
        have z2_0d : w.heap.size < w2.heap.size + 1 + 1 + 1 + 1 := by omega
        have z2_1 : w.heap.size + 1 < w2.heap.size := by omega
        have z2_1a : w.heap.size + 1 < w2.heap.size + 1 := by omega
        have z2_1b : w.heap.size + 1 < w2.heap.size + 1 + 1 := by omega
        have z2_1c : w.heap.size + 1 < w2.heap.size + 1 + 1 + 1 := by omega
        have z2_1d : w.heap.size + 1 < w2.heap.size + 1 + 1 + 1 + 1 := by omega
        go_wp2_with fail
        refine (X.out _).mono ?_
        rintro e w3 ⟨rfl, g3⟩
        obtain ⟨c3, f3, z3⟩ := laid g3
        try simp at z3
        have d3 := laid2 (w0 := w2) (by go_grown) g3
        have G3 : Grown w w3 := Grown.trans (by go_grown) g3
        clear g3
        have z3_0 : w.heap.size < w3.heap.size := by omega
        have z3_0a : w.heap.size < w3.heap.size + 1 := by omega
        have z3_0b : w.heap.size < w3.heap.size + 1 + 1 := by omega
        have z3_0c : w.heap.size < w3.heap.size + 1 + 1 + 1 := by omega
        have z3_0d : w.heap.size < w3.heap.size + 1 + 1 + 1 + 1 := by omega
        have z3_1 : w.heap.size + 1 < w3.heap.size := by omega
        have z3_1a : w.heap.size + 1 < w3.heap.size + 1 := by omega
        have z3_1b : w.heap.size + 1 < w3.heap.size + 1 + 1 := by omega
        have z3_1c : w.heap.size + 1 < w3.heap.size + 1 + 1 + 1 := by omega
        have z3_1d : w.heap.size + 1 < w3.heap.size + 1 + 1 + 1 + 1 := by omega
        have z3_2 : w2.heap.size < w3.heap.size := by omega
        have z3_2a : w2.heap.size < w3.heap.size + 1 := by omega
        have z3_2b : w2.heap.size < w3.heap.size + 1 + 1 := by omega
        have z3_2c : w2.heap.size < w3.heap.size + 1 + 1 + 1 := by omega
        have z3_2d : w2.heap.size < w3.heap.size + 1 + 1 + 1 + 1 := by omega
        go_wp2_with fail
        refine (Y.out _).mono ?_
        rintro e w4 ⟨rfl, g4⟩
        obtain ⟨c4, f4, z4⟩ := laid g4
        try simp at z4
        have d4 := laid2 (w0 := w3) (by go_grown) g4
        have G4 : Grown w w4 := Grown.trans (by go_grown) g4
        clear g4
        have z4_0 : w.heap.size < w4.heap.size := by omega
        have z4_0a : w.heap.size < w4.heap.size + 1 := by omega
        have z4_0b : w.heap.size < w4.heap.size + 1 + 1 := by omega
        have z4_0c : w.heap.size < w4.heap.size + 1 + 1 + 1 := by omega
        have z4_0d : w.heap.size < w4.heap.size + 1 + 1 + 1 + 1 := by omega
        have z4_1 : w.heap.size + 1 < w4.heap.size := by omega
        have z4_1a : w.heap.size + 1 < w4.heap.size + 1 := by omega
        have z4_1b : w.heap.size + 1 < w4.heap.size + 1 + 1 := by omega
        have z4_1c : w.heap.size + 1 < w4.heap.size + 1 + 1 + 1 := by omega
        have z4_1d : w.heap.size + 1 < w4.heap.size + 1 + 1 + 1 + 1 := by omega
        have z4_2 : w2.heap.size < w4.heap.size := by omega
        have z4_2a : w2.heap.size < w4.heap.size + 1 := by omega
        have z4_2b : w2.heap.size < w4.heap.size + 1 + 1 := by omega
        have z4_2c : w2.heap.size < w4.heap.size + 1 + 1 + 1 := by omega
        have z4_2d : w2.heap.size < w4.heap.size + 1 + 1 + 1 + 1 := by omega
        go_wp2_with fail
        go_ret
        exact ⟨by first | rfl | (simp; omega), by go_grown⟩
      · go_enter Try.func6, Try.ntmps6
        go_wp2_with fail
        refine (head_any _).mono ?_
        rintro e w1 ⟨rfl, g1⟩
        obtain ⟨c1, f1, z1⟩ := laid g1
        try simp at z1
        have G1 : Grown w w1 := Grown.trans (by go_grown) g1
        clear g1
        have z1_0 : w.heap.size < w1.heap.size := by omega
        have z1_0a : w.heap.size < w1.heap.size + 1 := by omega
        have z1_0b : w.heap.size < w1.heap.size + 1 + 1 := by omega
        have z1_0c : w.heap.size < w1.heap.size + 1 + 1 + 1 := by omega
        have z1_0d : w.heap.size < w1.heap.size + 1 + 1 + 1 + 1 := by omega
        have z1_1 : w.heap.size + 1 < w1.heap.size := by omega
        have z1_1a : w.heap.size + 1 < w1.heap.size + 1 := by omega
        have z1_1b : w.heap.size + 1 < w1.heap.size + 1 + 1 := by omega
        have z1_1c : w.heap.size + 1 < w1.heap.size + 1 + 1 + 1 := by omega
        have z1_1d : w.heap.size + 1 < w1.heap.size + 1 + 1 + 1 + 1 := by omega
        go_wp2_with fail
        refine (M.out _).mono ?_
        rintro e w2 ⟨rfl, g2⟩
        obtain ⟨c2, f2, z2⟩ := laid g2
        try simp at z2
        have d2 := laid2 (w0 := w1) (by go_grown) g2
        have G2 : Grown w w2 := Grown.trans (by go_grown) g2
        clear g2
        have z2_0 : w.heap.size < w2.heap.size := by omega
        have z2_0a : w.heap.size < w2.heap.size + 1 := by omega
        have z2_0b : w.heap.size < w2.heap.size + 1 + 1 := by omega
        have z2_0c : w.heap.size < w2.heap.size + 1 + 1 + 1 := by omega
        have z2_0d : w.heap.size < w2.heap.size + 1 + 1 + 1 + 1 := by omega
        have z2_1 : w.heap.size + 1 < w2.heap.size := by omega
        have z2_1a : w.heap.size + 1 < w2.heap.size + 1 := by omega
        have z2_1b : w.heap.size + 1 < w2.heap.size + 1 + 1 := by omega
        have z2_1c : w.heap.size + 1 < w2.heap.size + 1 + 1 + 1 := by omega
        have z2_1d : w.heap.size + 1 < w2.heap.size + 1 + 1 + 1 + 1 := by omega
        go_wp2_with fail
        refine (X.out _).mono ?_
        rintro e w3 ⟨rfl, g3⟩
        obtain ⟨c3, f3, z3⟩ := laid g3
        try simp at z3
        have d3 := laid2 (w0 := w2) (by go_grown) g3
        have G3 : Grown w w3 := Grown.trans (by go_grown) g3
        clear g3
        have z3_0 : w.heap.size < w3.heap.size := by omega
        have z3_0a : w.heap.size < w3.heap.size + 1 := by omega
        have z3_0b : w.heap.size < w3.heap.size + 1 + 1 := by omega
        have z3_0c : w.heap.size < w3.heap.size + 1 + 1 + 1 := by omega
        have z3_0d : w.heap.size < w3.heap.size + 1 + 1 + 1 + 1 := by omega
        have z3_1 : w.heap.size + 1 < w3.heap.size := by omega
        have z3_1a : w.heap.size + 1 < w3.heap.size + 1 := by omega
        have z3_1b : w.heap.size + 1 < w3.heap.size + 1 + 1 := by omega
        have z3_1c : w.heap.size + 1 < w3.heap.size + 1 + 1 + 1 := by omega
        have z3_1d : w.heap.size + 1 < w3.heap.size + 1 + 1 + 1 + 1 := by omega
        have z3_2 : w2.heap.size < w3.heap.size := by omega
        have z3_2a : w2.heap.size < w3.heap.size + 1 := by omega
        have z3_2b : w2.heap.size < w3.heap.size + 1 + 1 := by omega
        have z3_2c : w2.heap.size < w3.heap.size + 1 + 1 + 1 := by omega
        have z3_2d : w2.heap.size < w3.heap.size + 1 + 1 + 1 + 1 := by omega
        go_wp2_with fail
        refine (Y.out _).mono ?_
        rintro e w4 ⟨rfl, g4⟩
        obtain ⟨c4, f4, z4⟩ := laid g4
        try simp at z4
        have d4 := laid2 (w0 := w3) (by go_grown) g4
        have G4 : Grown w w4 := Grown.trans (by go_grown) g4
        clear g4
        have z4_0 : w.heap.size < w4.heap.size := by omega
        have z4_0a : w.heap.size < w4.heap.size + 1 := by omega
        have z4_0b : w.heap.size < w4.heap.size + 1 + 1 := by omega
        have z4_0c : w.heap.size < w4.heap.size + 1 + 1 + 1 := by omega
        have z4_0d : w.heap.size < w4.heap.size + 1 + 1 + 1 + 1 := by omega
        have z4_1 : w.heap.size + 1 < w4.heap.size := by omega
        have z4_1a : w.heap.size + 1 < w4.heap.size + 1 := by omega
        have z4_1b : w.heap.size + 1 < w4.heap.size + 1 + 1 := by omega
        have z4_1c : w.heap.size + 1 < w4.heap.size + 1 + 1 + 1 := by omega
        have z4_1d : w.heap.size + 1 < w4.heap.size + 1 + 1 + 1 + 1 := by omega
        have z4_2 : w2.heap.size < w4.heap.size := by omega
        have z4_2a : w2.heap.size < w4.heap.size + 1 := by omega
        have z4_2b : w2.heap.size < w4.heap.size + 1 + 1 := by omega
        have z4_2c : w2.heap.size < w4.heap.size + 1 + 1 + 1 := by omega
        have z4_2d : w2.heap.size < w4.heap.size + 1 + 1 + 1 + 1 := by omega
        go_wp2_with fail
        go_ret
        exact ⟨by first | rfl | (simp; omega), by go_grown⟩
  · have M := Lib.hid (spMeet_bad a b c d · h)
    by_cases h1 : Vd a b
    · have V1 := Lib.hid h1
      have V2 : Hid (¬ Vd c d) := Lib.hid (fun k => h ⟨h1, k⟩)
      clear h h1
      go_enter Try.func6, Try.ntmps6
      go_wp2_with fail
      refine (head_any _).mono ?_
      rintro e w1 ⟨rfl, g1⟩
      obtain ⟨c1, f1, z1⟩ := laid g1
      try simp at z1
      have G1 : Grown w w1 := Grown.trans (by go_grown) g1
      clear g1
      have z1_0 : w.heap.size < w1.heap.size := by omega
      have z1_0a : w.heap.size < w1.heap.size + 1 := by omega
      have z1_0b : w.heap.size < w1.heap.size + 1 + 1 := by omega
      have z1_0c : w.heap.size < w1.heap.size + 1 + 1 + 1 := by omega
      have z1_0d : w.heap.size < w1.heap.size + 1 + 1 + 1 + 1 := by omega
      have z1_1 : w.heap.size + 1 < w1.heap.size := by omega
      have z1_1a : w.heap.size + 1 < w1.heap.size + 1 := by omega
      have z1_1b : w.heap.size + 1 < w1.heap.size + 1 + 1 := by omega
      have z1_1c : w.heap.size + 1 < w1.heap.size + 1 + 1 + 1 := by omega
      have z1_1d : w.heap.size + 1 < w1.heap.size + 1 + 1 + 1 + 1 := by omega
      go_wp2_with fail
      refine (M.out _).mono ?_
      rintro e w2 ⟨rfl, g2⟩
      obtain ⟨c2, f2, z2⟩ := laid g2
      try simp at z2
      have d2 := laid2 (w0 := w1) (by go_grown) g2
      have G2 : Grown w w2 := Grown.trans (by go_grown) g2
      clear g2
      have z2_0 : w.heap.size < w2.heap.size := by omega
      have z2_0a : w.heap.size < w2.heap.size + 1 := by omega
      have z2_0b : w.heap.size < w2.heap.size + 1 + 1 := by omega
      have z2_0c : w.heap.size < w2.heap.size + 1 + 1 + 1 := by omega
      have z2_0d : w.heap.size < w2.heap.size + 1 + 1 + 1 + 1 := by omega
      have z2_1 : w.heap.size + 1 < w2.heap.size := by omega
      have z2_1a : w.heap.size + 1 < w2.heap.size + 1 := by omega
      have z2_1b : w.heap.size + 1 < w2.heap.size + 1 + 1 := by omega
      have z2_1c : w.heap.size + 1 < w2.heap.size + 1 + 1 + 1 := by omega
      have z2_1d : w.heap.size + 1 < w2.heap.size + 1 + 1 + 1 + 1 := by omega
      go_wp2_with fail
      refine (spValid_yes _ _ _ V1.out).mono ?_
      rintro e w3 ⟨rfl, g3⟩
      obtain ⟨c3, f3, z3⟩ := laid g3
      try simp at z3
      have d3 := laid2 (w0 := w2) (by go_grown) g3
      have G3 : Grown w w3 := Grown.trans (by go_grown) g3
      clear g3
      have z3_0 : w.heap.size < w3.heap.size := by omega
      have z3_0a : w.heap.size < w3.heap.size + 1 := by omega
      have z3_0b : w.heap.size < w3.heap.size + 1 + 1 := by omega
      have z3_0c : w.heap.size < w3.heap.size + 1 + 1 + 1 := by omega
      have z3_0d : w.heap.size < w3.heap.size + 1 + 1 + 1 + 1 := by omega
      have z3_1 : w.heap.size + 1 < w3.heap.size := by omega
      have z3_1a : w.heap.size + 1 < w3.heap.size + 1 := by omega
      have z3_1b : w.heap.size + 1 < w3.heap.size + 1 + 1 := by omega
      have z3_1c : w.heap.size + 1 < w3.heap.size + 1 + 1 + 1 := by omega
      have z3_1d : w.heap.size + 1 < w3.heap.size + 1 + 1 + 1 + 1 := by omega
      have z3_2 : w2.heap.size < w3.heap.size := by omega
      have z3_2a : w2.heap.size < w3.heap.size + 1 := by omega
      have z3_2b : w2.heap.size < w3.heap.size + 1 + 1 := by omega
      have z3_2c : w2.heap.size < w3.heap.size + 1 + 1 + 1 := by omega
      have z3_2d : w2.heap.size < w3.heap.size + 1 + 1 + 1 + 1 := by omega
      go_wp2_with fail
      refine (spValid_no _ _ _ V2.out).mono ?_
      rintro e w4 ⟨rfl, g4⟩
      obtain ⟨c4, f4, z4⟩ := laid g4
      try simp at z4
      have d4 := laid2 (w0 := w3) (by go_grown) g4
      have G4 : Grown w w4 := Grown.trans (by go_grown) g4
      clear g4
      have z4_0 : w.heap.size < w4.heap.size := by omega
      have z4_0a : w.heap.size < w4.heap.size + 1 := by omega
      have z4_0b : w.heap.size < w4.heap.size + 1 + 1 := by omega
      have z4_0c : w.heap.size < w4.heap.size + 1 + 1 + 1 := by omega
      have z4_0d : w.heap.size < w4.heap.size + 1 + 1 + 1 + 1 := by omega
      have z4_1 : w.heap.size + 1 < w4.heap.size := by omega
      have z4_1a : w.heap.size + 1 < w4.heap.size + 1 := by omega
      have z4_1b : w.heap.size + 1 < w4.heap.size + 1 + 1 := by omega
      have z4_1c : w.heap.size + 1 < w4.heap.size + 1 + 1 + 1 := by omega
      have z4_1d : w.heap.size + 1 < w4.heap.size + 1 + 1 + 1 + 1 := by omega
      have z4_2 : w2.heap.size < w4.heap.size := by omega
      have z4_2a : w2.heap.size < w4.heap.size + 1 := by omega
      have z4_2b : w2.heap.size < w4.heap.size + 1 + 1 := by omega
      have z4_2c : w2.heap.size < w4.heap.size + 1 + 1 + 1 := by omega
      have z4_2d : w2.heap.size < w4.heap.size + 1 + 1 + 1 + 1 := by omega
      go_wp2_with fail
      go_ret
      exact ⟨by first | rfl | (simp; omega), by go_grown⟩

    · have V1 := Lib.hid h1
      clear h h1
      go_enter Try.func6, Try.ntmps6
      go_wp2_with fail
      refine (head_any _).mono ?_
      rintro e w1 ⟨rfl, g1⟩
      obtain ⟨c1, f1, z1⟩ := laid g1
      try simp at z1
      have G1 : Grown w w1 := Grown.trans (by go_grown) g1
      clear g1
      have z1_0 : w.heap.size < w1.heap.size := by omega
      have z1_0a : w.heap.size < w1.heap.size + 1 := by omega
      have z1_0b : w.heap.size < w1.heap.size + 1 + 1 := by omega
      have z1_0c : w.heap.size < w1.heap.size + 1 + 1 + 1 := by omega
      have z1_0d : w.heap.size < w1.heap.size + 1 + 1 + 1 + 1 := by omega
      have z1_1 : w.heap.size + 1 < w1.heap.size := by omega
      have z1_1a : w.heap.size + 1 < w1.heap.size + 1 := by omega
      have z1_1b : w.heap.size + 1 < w1.heap.size + 1 + 1 := by omega
      have z1_1c : w.heap.size + 1 < w1.heap.size + 1 + 1 + 1 := by omega
      have z1_1d : w.heap.size + 1 < w1.heap.size + 1 + 1 + 1 + 1 := by omega
      go_wp2_with fail
      refine (M.out _).mono ?_
      rintro e w2 ⟨rfl, g2⟩
      obtain ⟨c2, f2, z2⟩ := laid g2
      try simp at z2
      have d2 := laid2 (w0 := w1) (by go_grown) g2
      have G2 : Grown w w2 := Grown.trans (by go_grown) g2
      clear g2
      have z2_0 : w.heap.size < w2.heap.size := by omega
      have z2_0a : w.heap.size < w2.heap.size + 1 := by omega
      have z2_0b : w.heap.size < w2.heap.size + 1 + 1 := by omega
      have z2_0c : w.heap.size < w2.heap.size + 1 + 1 + 1 := by omega
      have z2_0d : w.heap.size < w2.heap.size + 1 + 1 + 1 + 1 := by omega
      have z2_1 : w.heap.size + 1 < w2.heap.size := by omega
      have z2_1a : w.heap.size + 1 < w2.heap.size + 1 := by omega
      have z2_1b : w.heap.size + 1 < w2.heap.size + 1 + 1 := by omega
      have z2_1c : w.heap.size + 1 < w2.heap.size + 1 + 1 + 1 := by omega
      have z2_1d : w.heap.size + 1 < w2.heap.size + 1 + 1 + 1 + 1 := by omega
      go_wp2_with fail
      refine (spValid_no _ _ _ V1.out).mono ?_
      rintro e w3 ⟨rfl, g3⟩
      obtain ⟨c3, f3, z3⟩ := laid g3
      try simp at z3
      have d3 := laid2 (w0 := w2) (by go_grown) g3
      have G3 : Grown w w3 := Grown.trans (by go_grown) g3
      clear g3
      have z3_0 : w.heap.size < w3.heap.size := by omega
      have z3_0a : w.heap.size < w3.heap.size + 1 := by omega
      have z3_0b : w.heap.size < w3.heap.size + 1 + 1 := by omega
      have z3_0c : w.heap.size < w3.heap.size + 1 + 1 + 1 := by omega
      have z3_0d : w.heap.size < w3.heap.size + 1 + 1 + 1 + 1 := by omega
      have z3_1 : w.heap.size + 1 < w3.heap.size := by omega
      have z3_1a : w.heap.size + 1 < w3.heap.size + 1 := by omega
      have z3_1b : w.heap.size + 1 < w3.heap.size + 1 + 1 := by omega
      have z3_1c : w.heap.size + 1 < w3.heap.size + 1 + 1 + 1 := by omega
      have z3_1d : w.heap.size + 1 < w3.heap.size + 1 + 1 + 1 + 1 := by omega
      have z3_2 : w2.heap.size < w3.heap.size := by omega
      have z3_2a : w2.heap.size < w3.heap.size + 1 := by omega
      have z3_2b : w2.heap.size < w3.heap.size + 1 + 1 := by omega
      have z3_2c : w2.heap.size < w3.heap.size + 1 + 1 + 1 := by omega
      have z3_2d : w2.heap.size < w3.heap.size + 1 + 1 + 1 + 1 := by omega
      go_wp2_with fail
      go_ret
      exact ⟨by first | rfl | (simp; omega), by go_grown⟩


end Sn
end Go.Proofs.Ytpendmjfmhjibaa
