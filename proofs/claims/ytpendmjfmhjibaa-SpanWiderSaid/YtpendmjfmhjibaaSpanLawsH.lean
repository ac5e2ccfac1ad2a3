/-
  The walk of the law SpanWider: it returns true.
-/
import Derived.Test.YtpendmjfmhjibaaSpanLawsA
namespace Go.Proofs.Ytpendmjfmhjibaa
open Go.RowKit
namespace Sn

theorem wideAdd {a b c d L U : Int} (V : Vd a b) (W : Vd L U) (hL : L ≤ a) (hU : b ≤ U) : ∃ x1 x2 g y1 y2 h : Int, (∀ w, Calls Try.prog 15 #[.agg #[.int .i64 a, .int .i64 b], .agg #[.int .i64 c, .int .i64 d]] w fun e w' => e = .returned (.tuple #[.agg #[.int .i64 x1, .int .i64 x2], .int .i64 g]) ∧ Grown w w') ∧ (∀ w, Calls Try.prog 15 #[.agg #[.int .i64 L, .int .i64 U], .agg #[.int .i64 c, .int .i64 d]] w fun e w' => e = .returned (.tuple #[.agg #[.int .i64 y1, .int .i64 y2], .int .i64 h]) ∧ Grown w w') ∧ ((h = 0 ∧ g = 0 ∧ y1 ≤ x1 ∧ x2 ≤ y2) ∨ (h == 0) = false ∧ (h != 0) = true) := by
  by_cases v : Vd c d
  · by_cases k : Vd (L + c) (U + d)
    · have k1 : Vd (a + c) (b + d) := by
        obtain ⟨_, _, _⟩ := V
        obtain ⟨_, _, _⟩ := v
        obtain ⟨_, _, _⟩ := k
        exact ⟨by omega, by omega, by omega⟩
      exact ⟨_, _, _, _, _, _, (spAdd_ok a b c d · ⟨V, v⟩ k1), (spAdd_ok L U c d · ⟨W, v⟩ k), Or.inl ⟨rfl, rfl, by omega, by omega⟩⟩
    · by_cases k1 : Vd (a + c) (b + d)
      · exact ⟨_, _, _, _, _, _, (spAdd_ok a b c d · ⟨V, v⟩ k1), (spAdd_range L U c d · ⟨W, v⟩ k), Or.inr ⟨rfl, rfl⟩⟩
      · exact ⟨_, _, _, _, _, _, (spAdd_range a b c d · ⟨V, v⟩ k1), (spAdd_range L U c d · ⟨W, v⟩ k), Or.inr ⟨rfl, rfl⟩⟩
  · exact ⟨_, _, _, _, _, _, (spAdd_bad a b c d · (fun h => v h.2)), (spAdd_bad L U c d · (fun h => v h.2)), Or.inr ⟨rfl, rfl⟩⟩

theorem wideSub {a b c d L U : Int} (V : Vd a b) (W : Vd L U) (hL : L ≤ a) (hU : b ≤ U) : ∃ x1 x2 g y1 y2 h : Int, (∀ w, Calls Try.prog 17 #[.agg #[.int .i64 a, .int .i64 b], .agg #[.int .i64 c, .int .i64 d]] w fun e w' => e = .returned (.tuple #[.agg #[.int .i64 x1, .int .i64 x2], .int .i64 g]) ∧ Grown w w') ∧ (∀ w, Calls Try.prog 17 #[.agg #[.int .i64 L, .int .i64 U], .agg #[.int .i64 c, .int .i64 d]] w fun e w' => e = .returned (.tuple #[.agg #[.int .i64 y1, .int .i64 y2], .int .i64 h]) ∧ Grown w w') ∧ ((h = 0 ∧ g = 0 ∧ y1 ≤ x1 ∧ x2 ≤ y2) ∨ (h == 0) = false ∧ (h != 0) = true) := by
  by_cases v : Vd c d
  · by_cases k : Vd (L - d) (U - c)
    · have k1 : Vd (a - d) (b - c) := by
        obtain ⟨_, _, _⟩ := V
        obtain ⟨_, _, _⟩ := v
        obtain ⟨_, _, _⟩ := k
        exact ⟨by omega, by omega, by omega⟩
      exact ⟨_, _, _, _, _, _, (spSub_ok a b c d · ⟨V, v⟩ k1), (spSub_ok L U c d · ⟨W, v⟩ k), Or.inl ⟨rfl, rfl, by omega, by omega⟩⟩
    · by_cases k1 : Vd (a - d) (b - c)
      · exact ⟨_, _, _, _, _, _, (spSub_ok a b c d · ⟨V, v⟩ k1), (spSub_range L U c d · ⟨W, v⟩ k), Or.inr ⟨rfl, rfl⟩⟩
      · exact ⟨_, _, _, _, _, _, (spSub_range a b c d · ⟨V, v⟩ k1), (spSub_range L U c d · ⟨W, v⟩ k), Or.inr ⟨rfl, rfl⟩⟩
  · exact ⟨_, _, _, _, _, _, (spSub_bad a b c d · (fun h => v h.2)), (spSub_bad L U c d · (fun h => v h.2)), Or.inr ⟨rfl, rfl⟩⟩

theorem wideJoin {a b c d L U : Int} (V : Vd a b) (W : Vd L U) (hL : L ≤ a) (hU : b ≤ U) : ∃ x1 x2 g y1 y2 h : Int, (∀ w, Calls Try.prog 21 #[.agg #[.int .i64 a, .int .i64 b], .agg #[.int .i64 c, .int .i64 d]] w fun e w' => e = .returned (.tuple #[.agg #[.int .i64 x1, .int .i64 x2], .int .i64 g]) ∧ Grown w w') ∧ (∀ w, Calls Try.prog 21 #[.agg #[.int .i64 L, .int .i64 U], .agg #[.int .i64 c, .int .i64 d]] w fun e w' => e = .returned (.tuple #[.agg #[.int .i64 y1, .int .i64 y2], .int .i64 h]) ∧ Grown w w') ∧ ((h = 0 ∧ g = 0 ∧ y1 ≤ x1 ∧ x2 ≤ y2) ∨ (h == 0) = false ∧ (h != 0) = true) := by
  by_cases v : Vd c d
  · refine ⟨_, _, _, _, _, _, (spJoin_ok a b c d · ⟨V, v⟩), (spJoin_ok L U c d · ⟨W, v⟩), Or.inl ⟨rfl, rfl, ?_, ?_⟩⟩
    · unfold mn; split <;> split <;> omega
    · unfold mx; split <;> split <;> omega
  · exact ⟨_, _, _, _, _, _, (spJoin_bad a b c d · (fun h => v h.2)), (spJoin_bad L U c d · (fun h => v h.2)), Or.inr ⟨rfl, rfl⟩⟩

theorem d_mono' {x y : Int} (h : x ≤ y) : d1000 x ≤ d1000 y := by unfold d1000; omega
theorem u_mono' {x y : Int} (h : x ≤ y) : u1000 x ≤ u1000 y := by unfold u1000 d1000; omega
theorem mn_mono {x y x' y' : Int} (h : x ≤ x') (k : y ≤ y') : mn x y ≤ mn x' y' := by unfold mn; split <;> split <;> omega
theorem mx_mono {x y x' y' : Int} (h : x ≤ x') (k : y ≤ y') : mx x y ≤ mx x' y' := by unfold mx; split <;> split <;> omega
theorem times_le {a b c d : Int} (V : Vd a b) (hc : 0 ≤ c) (_hd : c ≤ d) : d1000 (mn (a * c) (a * d)) ≤ u1000 (mx (b * c) (b * d)) := by
  obtain ⟨_, h, _⟩ := V
  have h1 : a * c ≤ b * c := Int.mul_le_mul_of_nonneg_right h hc
  have e1 := d_mono' (show mn (a * c) (a * d) ≤ a * c by unfold mn; split <;> omega)
  have e2 := d_mono' h1
  have e3 : d1000 (b * c) ≤ u1000 (b * c) := by unfold u1000 d1000; omega
  have e4 := u_mono' (show b * c ≤ mx (b * c) (b * d) by unfold mx; split <;> omega)
  omega

theorem wideTimes {a b c d L U : Int} (V : Vd a b) (W : Vd L U) (hL : L ≤ a) (hU : b ≤ U) : ∃ x1 x2 g y1 y2 h : Int, (∀ w, Calls Try.prog 23 #[.agg #[.int .i64 a, .int .i64 b], .agg #[.int .i64 c, .int .i64 d]] w fun e w' => e = .returned (.tuple #[.agg #[.int .i64 x1, .int .i64 x2], .int .i64 g]) ∧ Grown w w') ∧ (∀ w, Calls Try.prog 23 #[.agg #[.int .i64 L, .int .i64 U], .agg #[.int .i64 c, .int .i64 d]] w fun e w' => e = .returned (.tuple #[.agg #[.int .i64 y1, .int .i64 y2], .int .i64 h]) ∧ Grown w w') ∧ ((h = 0 ∧ g = 0 ∧ y1 ≤ x1 ∧ x2 ≤ y2) ∨ (h == 0) = false ∧ (h != 0) = true) := by
  by_cases v : Pa c d
  · have hc := v.2.1
    have hd := v.1.2.1
    have e1 := d_mono' (mn_mono (Int.mul_le_mul_of_nonneg_right hL hc) (Int.mul_le_mul_of_nonneg_right hL (show 0 ≤ d by omega)))
    have e2 := u_mono' (mx_mono (Int.mul_le_mul_of_nonneg_right hU hc) (Int.mul_le_mul_of_nonneg_right hU (show 0 ≤ d by omega)))
    have e3 := times_le V hc hd
    by_cases k : Vd (d1000 (mn (L * c) (L * d))) (u1000 (mx (U * c) (U * d)))
    · have k1 : Vd (d1000 (mn (a * c) (a * d))) (u1000 (mx (b * c) (b * d))) := by
        obtain ⟨_, _, _⟩ := k
        exact ⟨by omega, by omega, by omega⟩
      exact ⟨_, _, _, _, _, _, (spTimes_ok a b c d · ⟨V, v⟩ k1), (spTimes_ok L U c d · ⟨W, v⟩ k), Or.inl ⟨rfl, rfl, by omega, by omega⟩⟩
    · by_cases k1 : Vd (d1000 (mn (a * c) (a * d))) (u1000 (mx (b * c) (b * d)))
      · exact ⟨_, _, _, _, _, _, (spTimes_ok a b c d · ⟨V, v⟩ k1), (spTimes_range L U c d · ⟨W, v⟩ k), Or.inr ⟨rfl, rfl⟩⟩
      · exact ⟨_, _, _, _, _, _, (spTimes_range a b c d · ⟨V, v⟩ k1), (spTimes_range L U c d · ⟨W, v⟩ k), Or.inr ⟨rfl, rfl⟩⟩
  · exact ⟨_, _, _, _, _, _, (spTimes_bad a b c d · (fun h => v h.2)), (spTimes_bad L U c d · (fun h => v h.2)), Or.inr ⟨rfl, rfl⟩⟩

set_option maxRecDepth 100000 in
set_option maxHeartbeats 8000000 in
theorem law_wider (a b c d p q : Int) (w : World) : Calls Try.prog 9 #[.agg #[.int .i64 a, .int .i64 b], .agg #[.int .i64 c, .int .i64 d], .agg #[.int .i64 p, .int .i64 q]] w fun e w' => e = .returned (.bool true) ∧ Grown w w' := by
  by_cases v1 : Vd a b
  · have V1 := Lib.hid v1
    by_cases v2 : Vd p q
    · have V2 := Lib.hid v2
      have J := Lib.hid (spJoin_ok a b p q · ⟨v1, v2⟩)
      have vj := vd_join ⟨v1, v2⟩
      have hL : mn a p ≤ a := by unfold mn; split <;> omega
      have hU : b ≤ mx b q := by unfold mx; split <;> omega
      generalize mn a p = lo at *
      generalize mx b q = hi at *
      obtain ⟨x1, x2, g1, y1, y2, h1, FA0, GA0, HA⟩ := wideAdd (c := c) (d := d) v1 vj hL hU
      obtain ⟨x3, x4, g2, y3, y4, h2, FB0, GB0, HB⟩ := wideSub (c := c) (d := d) v1 vj hL hU
      obtain ⟨x5, x6, g3, y5, y6, h3, FJ0, GJ0, HJ⟩ := wideJoin (c := c) (d := d) v1 vj hL hU
      obtain ⟨x7, x8, g4, y7, y8, h4, FT0, GT0, HT⟩ := wideTimes (c := c) (d := d) v1 vj hL hU
      have FA := Lib.hid FA0
      have GA := Lib.hid GA0
      have FB := Lib.hid FB0
      have GB := Lib.hid GB0
      have FJ := Lib.hid FJ0
      have GJ := Lib.hid GJ0
      have FT := Lib.hid FT0
      have GT := Lib.hid GT0
      clear FA0 GA0 FB0 GB0 FJ0 GJ0 FT0 GT0 v1 v2 vj hL hU
      have HA := Lib.hid HA
      have HB := Lib.hid HB
      have HJ := Lib.hid HJ
      have HT := Lib.hid HT
      go_enter Try.func9, Try.ntmps9
      go_wp2_with fail
      refine (head_any _).mono ?_
      rintro e w1 ⟨rfl, g1⟩
      obtain ⟨c1, f1, z1⟩ := laid g1
      try simp at z1
      have G1 : Grown w w1 := Grown.trans (by go_grown) g1
      clear g1
      have z1_0 : w.heap.size < w1.heap.size := by omega
      have z1_0a : w.heap.size < w1.heap.size + 1 := by omega
      have z1_0b : w.heap.size < w1.heap.size + 1 + 1 := by omega
      have z1_1 : w.heap.size + 1 < w1.heap.size := by omega
      have z1_1a : w.heap.size + 1 < w1.heap.size + 1 := by omega
      have z1_1b : w.heap.size + 1 < w1.heap.size + 1 + 1 := by omega
      have z1_2 : w.heap.size + 1 + 1 < w1.heap.size := by omega
      have z1_2a : w.heap.size + 1 + 1 < w1.heap.size + 1 := by omega
      have z1_2b : w.heap.size + 1 + 1 < w1.heap.size + 1 + 1 := by omega
      go_wp2_with fail
      refine (spValid_yes _ _ _ V1.out).mono ?_
      rintro e w2 ⟨rfl, g2⟩
      obtain ⟨c2, f2, z2⟩ := laid g2
      try simp at z2
      have G2 : Grown w w2 := Grown.trans (by go_grown) g2
      clear g2
      have z2_0 : w.heap.size < w2.heap.size := by omega
      have z2_0a : w.heap.size < w2.heap.size + 1 := by omega
      have z2_0b : w.heap.size < w2.heap.size + 1 + 1 := by omega
      have z2_1 : w.heap.size + 1 < w2.heap.size := by omega
      have z2_1a : w.heap.size + 1 < w2.heap.size + 1 := by omega
      have z2_1b : w.heap.size + 1 < w2.heap.size + 1 + 1 := by omega
      have z2_2 : w.heap.size + 1 + 1 < w2.heap.size := by omega
      have z2_2a : w.heap.size + 1 + 1 < w2.heap.size + 1 := by omega
      have z2_2b : w.heap.size + 1 + 1 < w2.heap.size + 1 + 1 := by omega
      go_wp2_with fail
      refine (spValid_yes _ _ _ V2.out).mono ?_
      rintro e w3 ⟨rfl, g3⟩
      obtain ⟨c3, f3, z3⟩ := laid g3
      try simp at z3
      have G3 : Grown w w3 := Grown.trans (by go_grown) g3
      clear g3
      have z3_0 : w.heap.size < w3.heap.size := by omega
      have z3_0a : w.heap.size < w3.heap.size + 1 := by omega
      have z3_0b : w.heap.size < w3.heap.size + 1 + 1 := by omega
      have z3_1 : w.heap.size + 1 < w3.heap.size := by omega
      have z3_1a : w.heap.size + 1 < w3.heap.size + 1 := by omega
      have z3_1b : w.heap.size + 1 < w3.heap.size + 1 + 1 := by omega
      have z3_2 : w.heap.size + 1 + 1 < w3.heap.size := by omega
      have z3_2a : w.heap.size + 1 + 1 < w3.heap.size + 1 := by omega
      have z3_2b : w.heap.size + 1 + 1 < w3.heap.size + 1 + 1 := by omega
      go_wp2_with fail
      refine (J.out _).mono ?_
      rintro e w4 ⟨rfl, g4⟩
      obtain ⟨c4, f4, z4⟩ := laid g4
      try simp at z4
      have G4 : Grown w w4 := Grown.trans (by go_grown) g4
      clear g4
      have z4_0 : w.heap.size < w4.heap.size := by omega
      have z4_0a : w.heap.size < w4.heap.size + 1 := by omega
      have z4_0b : w.heap.size < w4.heap.size + 1 + 1 := by omega
      have z4_1 : w.heap.size + 1 < w4.heap.size := by omega
      have z4_1a : w.heap.size + 1 < w4.heap.size + 1 := by omega
      have z4_1b : w.heap.size + 1 < w4.heap.size + 1 + 1 := by omega
      have z4_2 : w.heap.size + 1 + 1 < w4.heap.size := by omega
      have z4_2a : w.heap.size + 1 + 1 < w4.heap.size + 1 := by omega
      have z4_2b : w.heap.size + 1 + 1 < w4.heap.size + 1 + 1 := by omega
      have lastz := z4
      have q4_0_0 : w4.cell? ⟨w.heap.size, 0, none⟩ = some (.int .i64 a) := by simp [go_sem, *]
      have q4_0_1 : w4.cell? ⟨w.heap.size, 1, none⟩ = some (.int .i64 b) := by simp [go_sem, *]
      have q4_1_0 : w4.cell? ⟨w.heap.size + 1, 0, none⟩ = some (.int .i64 c) := by simp [go_sem, *]
      have q4_1_1 : w4.cell? ⟨w.heap.size + 1, 1, none⟩ = some (.int .i64 d) := by simp [go_sem, *]
      clear c1 f1 c2 f2 c3 f3 c4 f4
      clear z1 G1 z2 G2 z3 G3
      go_wp2_with fail
      go_loopw [7, 34] (fun u i wr => ∃ k : Nat, k ≤ 4 ∧ i = .int .i64 k ∧ u = .bool true ∧ Grown w wr ∧ (w.heap.size < wr.heap.size ∧ w.heap.size + 1 < wr.heap.size ∧ w4.heap.size < wr.heap.size) ∧ (wr.cell? ⟨w.heap.size, 0, none⟩ = some (.int .i64 a) ∧ wr.cell? ⟨w.heap.size, 1, none⟩ = some (.int .i64 b)) ∧ (wr.cell? ⟨w.heap.size + 1, 0, none⟩ = some (.int .i64 c) ∧ wr.cell? ⟨w.heap.size + 1, 1, none⟩ = some (.int .i64 d)) ∧ (wr.cell? ⟨w4.heap.size, 0, none⟩ = some (.int .i64 lo) ∧ wr.cell? ⟨w4.heap.size, 1, none⟩ = some (.int .i64 hi))) (fun _ i _ => 4 - (intOf i).toNat)
      case atStart => exact ⟨0, by omega, rfl, rfl, by go_grown, by first | omega | (simp; omega), ⟨by simp [go_sem, *], by simp [go_sem, *]⟩, ⟨by simp [go_sem, *], by simp [go_sem, *]⟩, ⟨by simp [go_sem, *], by simp [go_sem, *]⟩⟩
      case round =>
        obtain ⟨k, hk, rfl, rfl, G, ⟨s0, s1, s2⟩, ⟨u0, u1⟩, ⟨u2, u3⟩, ⟨u4, u5⟩⟩ := hrel
        clear lastz z4 G4 q4_0_0 q4_0_1 q4_1_0 q4_1_1
        have hk' : k = 0 ∨ k = 1 ∨ k = 2 ∨ k = 3 ∨ k = 4 := by omega
        rcases hk' with rfl | rfl | rfl | rfl | rfl
        · rcases HA.out with ⟨rfl, rfl, l1, l2⟩ | ⟨n1, n2⟩
          · go_wp2_with fail
            refine (FA.out _).mono ?_
            rintro e m1 ⟨rfl, g1⟩
            obtain ⟨c1, f1, z1⟩ := laid g1
            try simp at z1
            have G1 : Grown w m1 := Grown.trans (by go_grown) g1
            clear g1
            have z1_0 : w.heap.size < m1.heap.size := by omega
            have z1_0a : w.heap.size < m1.heap.size + 1 := by omega
            have z1_0b : w.heap.size < m1.heap.size + 1 + 1 := by omega
            have z1_0c : w.heap.size < m1.heap.size + 1 + 1 + 1 := by omega
            have z1_1 : w.heap.size + 1 < m1.heap.size := by omega
            have z1_1a : w.heap.size + 1 < m1.heap.size + 1 := by omega
            have z1_1b : w.heap.size + 1 < m1.heap.size + 1 + 1 := by omega
            have z1_1c : w.heap.size + 1 < m1.heap.size + 1 + 1 + 1 := by omega
            have z1_2 : w4.heap.size < m1.heap.size := by omega
            have z1_2a : w4.heap.size < m1.heap.size + 1 := by omega
            have z1_2b : w4.heap.size < m1.heap.size + 1 + 1 := by omega
            have z1_2c : w4.heap.size < m1.heap.size + 1 + 1 + 1 := by omega
            go_wp2_with fail
            refine (GA.out _).mono ?_
            rintro e m2 ⟨rfl, g2⟩
            obtain ⟨c2, f2, z2⟩ := laid g2
            try simp at z2
            have G2 : Grown w m2 := Grown.trans (by go_grown) g2
            clear g2
            have z2_0 : w.heap.size < m2.heap.size := by omega
            have z2_0a : w.heap.size < m2.heap.size + 1 := by omega
            have z2_0b : w.heap.size < m2.heap.size + 1 + 1 := by omega
            have z2_0c : w.heap.size < m2.heap.size + 1 + 1 + 1 := by omega
            have z2_1 : w.heap.size + 1 < m2.heap.size := by omega
            have z2_1a : w.heap.size + 1 < m2.heap.size + 1 := by omega
            have z2_1b : w.heap.size + 1 < m2.heap.size + 1 + 1 := by omega
            have z2_1c : w.heap.size + 1 < m2.heap.size + 1 + 1 + 1 := by omega
            have z2_2 : w4.heap.size < m2.heap.size := by omega
            have z2_2a : w4.heap.size < m2.heap.size + 1 := by omega
            have z2_2b : w4.heap.size < m2.heap.size + 1 + 1 := by omega
            have z2_2c : w4.heap.size < m2.heap.size + 1 + 1 + 1 := by omega
            have z2_3 : m1.heap.size < m2.heap.size := by omega
            have z2_3a : m1.heap.size < m2.heap.size + 1 := by omega
            have z2_3b : m1.heap.size < m2.heap.size + 1 + 1 := by omega
            have z2_3c : m1.heap.size < m2.heap.size + 1 + 1 + 1 := by omega
            go_wp2_with fail
            refine (refWithin_yes _ _ _ _ _ ⟨l1, l2⟩).mono ?_
            rintro e m3 ⟨rfl, g3⟩
            obtain ⟨c3, f3, z3⟩ := laid g3
            try simp at z3
            have G3 : Grown w m3 := Grown.trans (by go_grown) g3
            clear g3
            have z3_0 : w.heap.size < m3.heap.size := by omega
            have z3_0a : w.heap.size < m3.heap.size + 1 := by omega
            have z3_0b : w.heap.size < m3.heap.size + 1 + 1 := by omega
            have z3_0c : w.heap.size < m3.heap.size + 1 + 1 + 1 := by omega
            have z3_1 : w.heap.size + 1 < m3.heap.size := by omega
            have z3_1a : w.heap.size + 1 < m3.heap.size + 1 := by omega
            have z3_1b : w.heap.size + 1 < m3.heap.size + 1 + 1 := by omega
            have z3_1c : w.heap.size + 1 < m3.heap.size + 1 + 1 + 1 := by omega
            have z3_2 : w4.heap.size < m3.heap.size := by omega
            have z3_2a : w4.heap.size < m3.heap.size + 1 := by omega
            have z3_2b : w4.heap.size < m3.heap.size + 1 + 1 := by omega
            have z3_2c : w4.heap.size < m3.heap.size + 1 + 1 + 1 := by omega
            have z3_3 : m1.heap.size < m3.heap.size := by omega
            have z3_3a : m1.heap.size < m3.heap.size + 1 := by omega
            have z3_3b : m1.heap.size < m3.heap.size + 1 + 1 := by omega
            have z3_3c : m1.heap.size < m3.heap.size + 1 + 1 + 1 := by omega
            have z3_4 : m2.heap.size < m3.heap.size := by omega
            have z3_4a : m2.heap.size < m3.heap.size + 1 := by omega
            have z3_4b : m2.heap.size < m3.heap.size + 1 + 1 := by omega
            have z3_4c : m2.heap.size < m3.heap.size + 1 + 1 + 1 := by omega
            go_wp2_with fail
            go_roundw
            case rel => exact ⟨1, by omega, by go_num, rfl, by go_grown, by first | omega | (simp; omega), ⟨by simp [go_sem, *], by simp [go_sem, *]⟩, ⟨by simp [go_sem, *], by simp [go_sem, *]⟩, ⟨by simp [go_sem, *], by simp [go_sem, *]⟩⟩
            case measure => simp [intOf]
          · go_wp2_with fail
            refine (FA.out _).mono ?_
            rintro e m1 ⟨rfl, g1⟩
            obtain ⟨c1, f1, z1⟩ := laid g1
            try simp at z1
            have G1 : Grown w m1 := Grown.trans (by go_grown) g1
            clear g1
            have z1_0 : w.heap.size < m1.heap.size := by omega
            have z1_0a : w.heap.size < m1.heap.size + 1 := by omega
            have z1_0b : w.heap.size < m1.heap.size + 1 + 1 := by omega
            have z1_0c : w.heap.size < m1.heap.size + 1 + 1 + 1 := by omega
            have z1_1 : w.heap.size + 1 < m1.heap.size := by omega
            have z1_1a : w.heap.size + 1 < m1.heap.size + 1 := by omega
            have z1_1b : w.heap.size + 1 < m1.heap.size + 1 + 1 := by omega
            have z1_1c : w.heap.size + 1 < m1.heap.size + 1 + 1 + 1 := by omega
            have z1_2 : w4.heap.size < m1.heap.size := by omega
            have z1_2a : w4.heap.size < m1.heap.size + 1 := by omega
            have z1_2b : w4.heap.size < m1.heap.size + 1 + 1 := by omega
            have z1_2c : w4.heap.size < m1.heap.size + 1 + 1 + 1 := by omega
            go_wp2_with fail
            refine (GA.out _).mono ?_
            rintro e m2 ⟨rfl, g2⟩
            obtain ⟨c2, f2, z2⟩ := laid g2
            try simp at z2
            have G2 : Grown w m2 := Grown.trans (by go_grown) g2
            clear g2
            have z2_0 : w.heap.size < m2.heap.size := by omega
            have z2_0a : w.heap.size < m2.heap.size + 1 := by omega
            have z2_0b : w.heap.size < m2.heap.size + 1 + 1 := by omega
            have z2_0c : w.heap.size < m2.heap.size + 1 + 1 + 1 := by omega
            have z2_1 : w.heap.size + 1 < m2.heap.size := by omega
            have z2_1a : w.heap.size + 1 < m2.heap.size + 1 := by omega
            have z2_1b : w.heap.size + 1 < m2.heap.size + 1 + 1 := by omega
            have z2_1c : w.heap.size + 1 < m2.heap.size + 1 + 1 + 1 := by omega
            have z2_2 : w4.heap.size < m2.heap.size := by omega
            have z2_2a : w4.heap.size < m2.heap.size + 1 := by omega
            have z2_2b : w4.heap.size < m2.heap.size + 1 + 1 := by omega
            have z2_2c : w4.heap.size < m2.heap.size + 1 + 1 + 1 := by omega
            have z2_3 : m1.heap.size < m2.heap.size := by omega
            have z2_3a : m1.heap.size < m2.heap.size + 1 := by omega
            have z2_3b : m1.heap.size < m2.heap.size + 1 + 1 := by omega
            have z2_3c : m1.heap.size < m2.heap.size + 1 + 1 + 1 := by omega
            go_wp2_with fail
            go_roundw
            case rel => exact ⟨1, by omega, by go_num, rfl, by go_grown, by first | omega | (simp; omega), ⟨by simp [go_sem, *], by simp [go_sem, *]⟩, ⟨by simp [go_sem, *], by simp [go_sem, *]⟩, ⟨by simp [go_sem, *], by simp [go_sem, *]⟩⟩
            case measure => simp [intOf]
        · rcases HB.out with ⟨rfl, rfl, l1, l2⟩ | ⟨n1, n2⟩
          · go_wp2_with fail
            refine (FB.out _).mono ?_
            rintro e m1 ⟨rfl, g1⟩
            obtain ⟨c1, f1, z1⟩ := laid g1
            try simp at z1
            have G1 : Grown w m1 := Grown.trans (by go_grown) g1
            clear g1
            have z1_0 : w.heap.size < m1.heap.size := by omega
            have z1_0a : w.heap.size < m1.heap.size + 1 := by omega
            have z1_0b : w.heap.size < m1.heap.size + 1 + 1 := by omega
            have z1_0c : w.heap.size < m1.heap.size + 1 + 1 + 1 := by omega
            have z1_1 : w.heap.size + 1 < m1.heap.size := by omega
            have z1_1a : w.heap.size + 1 < m1.heap.size + 1 := by omega
            have z1_1b : w.heap.size + 1 < m1.heap.size + 1 + 1 := by omega
            have z1_1c : w.heap.size + 1 < m1.heap.size + 1 + 1 + 1 := by omega
            have z1_2 : w4.heap.size < m1.heap.size := by omega
            have z1_2a : w4.heap.size < m1.heap.size + 1 := by omega
            have z1_2b : w4.heap.size < m1.heap.size + 1 + 1 := by omega
            have z1_2c : w4.heap.size < m1.heap.size + 1 + 1 + 1 := by omega
            go_wp2_with fail
            refine (GB.out _).mono ?_
            rintro e m2 ⟨rfl, g2⟩
            obtain ⟨c2, f2, z2⟩ := laid g2
            try simp at z2
            have G2 : Grown w m2 := Grown.trans (by go_grown) g2
            clear g2
            have z2_0 : w.heap.size < m2.heap.size := by omega
            have z2_0a : w.heap.size < m2.heap.size + 1 := by omega
            have z2_0b : w.heap.size < m2.heap.size + 1 + 1 := by omega
            have z2_0c : w.heap.size < m2.heap.size + 1 + 1 + 1 := by omega
            have z2_1 : w.heap.size + 1 < m2.heap.size := by omega
            have z2_1a : w.heap.size + 1 < m2.heap.size + 1 := by omega
            have z2_1b : w.heap.size + 1 < m2.heap.size + 1 + 1 := by omega
            have z2_1c : w.heap.size + 1 < m2.heap.size + 1 + 1 + 1 := by omega
            have z2_2 : w4.heap.size < m2.heap.size := by omega
            have z2_2a : w4.heap.size < m2.heap.size + 1 := by omega
            have z2_2b : w4.heap.size < m2.heap.size + 1 + 1 := by omega
            have z2_2c : w4.heap.size < m2.heap.size + 1 + 1 + 1 := by omega
            have z2_3 : m1.heap.size < m2.heap.size := by omega
            have z2_3a : m1.heap.size < m2.heap.size + 1 := by omega
            have z2_3b : m1.heap.size < m2.heap.size + 1 + 1 := by omega
            have z2_3c : m1.heap.size < m2.heap.size + 1 + 1 + 1 := by omega
            go_wp2_with fail
            refine (refWithin_yes _ _ _ _ _ ⟨l1, l2⟩).mono ?_
            rintro e m3 ⟨rfl, g3⟩
            obtain ⟨c3, f3, z3⟩ := laid g3
            try simp at z3
            have G3 : Grown w m3 := Grown.trans (by go_grown) g3
            clear g3
            have z3_0 : w.heap.size < m3.heap.size := by omega
            have z3_0a : w.heap.size < m3.heap.size + 1 := by omega
            have z3_0b : w.heap.size < m3.heap.size + 1 + 1 := by omega
            have z3_0c : w.heap.size < m3.heap.size + 1 + 1 + 1 := by omega
            have z3_1 : w.heap.size + 1 < m3.heap.size := by omega
            have z3_1a : w.heap.size + 1 < m3.heap.size + 1 := by omega
            have z3_1b : w.heap.size + 1 < m3.heap.size + 1 + 1 := by omega
            have z3_1c : w.heap.size + 1 < m3.heap.size + 1 + 1 + 1 := by omega
            have z3_2 : w4.heap.size < m3.heap.size := by omega
            have z3_2a : w4.heap.size < m3.heap.size + 1 := by omega
            have z3_2b : w4.heap.size < m3.heap.size + 1 + 1 := by omega
            have z3_2c : w4.heap.size < m3.heap.size + 1 + 1 + 1 := by omega
            have z3_3 : m1.heap.size < m3.heap.size := by omega
            have z3_3a : m1.heap.size < m3.heap.size + 1 := by omega
            have z3_3b : m1.heap.size < m3.heap.size + 1 + 1 := by omega
            have z3_3c : m1.heap.size < m3.heap.size + 1 + 1 + 1 := by omega
            have z3_4 : m2.heap.size < m3.heap.size := by omega
            have z3_4a : m2.heap.size < m3.heap.size + 1 := by omega
            have z3_4b : m2.heap.size < m3.heap.size + 1 + 1 := by omega
            have z3_4c : m2.heap.size < m3.heap.size + 1 + 1 + 1 := by omega
            go_wp2_with fail
            go_roundw
            case rel => exact ⟨2, by omega, by go_num, rfl, by go_grown, by first | omega | (simp; omega), ⟨by simp [go_sem, *], by simp [go_sem, *]⟩, ⟨by simp [go_sem, *], by simp [go_sem, *]⟩, ⟨by simp [go_sem, *], by simp [go_sem, *]⟩⟩
            case measure => simp [intOf]
          · go_wp2_with fail
            refine (FB.out _).mono ?_
            rintro e m1 ⟨rfl, g1⟩
            obtain ⟨c1, f1, z1⟩ := laid g1
            try simp at z1
            have G1 : Grown w m1 := Grown.trans (by go_grown) g1
            clear g1
            have z1_0 : w.heap.size < m1.heap.size := by omega
            have z1_0a : w.heap.size < m1.heap.size + 1 := by omega
            have z1_0b : w.heap.size < m1.heap.size + 1 + 1 := by omega
            have z1_0c : w.heap.size < m1.heap.size + 1 + 1 + 1 := by omega
            have z1_1 : w.heap.size + 1 < m1.heap.size := by omega
            have z1_1a : w.heap.size + 1 < m1.heap.size + 1 := by omega
            have z1_1b : w.heap.size + 1 < m1.heap.size + 1 + 1 := by omega
            have z1_1c : w.heap.size + 1 < m1.heap.size + 1 + 1 + 1 := by omega
            have z1_2 : w4.heap.size < m1.heap.size := by omega
            have z1_2a : w4.heap.size < m1.heap.size + 1 := by omega
            have z1_2b : w4.heap.size < m1.heap.size + 1 + 1 := by omega
            have z1_2c : w4.heap.size < m1.heap.size + 1 + 1 + 1 := by omega
            go_wp2_with fail
            refine (GB.out _).mono ?_
            rintro e m2 ⟨rfl, g2⟩
            obtain ⟨c2, f2, z2⟩ := laid g2
            try simp at z2
            have G2 : Grown w m2 := Grown.trans (by go_grown) g2
            clear g2
            have z2_0 : w.heap.size < m2.heap.size := by omega
            have z2_0a : w.heap.size < m2.heap.size + 1 := by omega
            have z2_0b : w.heap.size < m2.heap.size + 1 + 1 := by omega
            have z2_0c : w.heap.size < m2.heap.size + 1 + 1 + 1 := by omega
            have z2_1 : w.heap.size + 1 < m2.heap.size := by omega
            have z2_1a : w.heap.size + 1 < m2.heap.size + 1 := by omega
            have z2_1b : w.heap.size + 1 < m2.heap.size + 1 + 1 := by omega
            have z2_1c : w.heap.size + 1 < m2.heap.size + 1 + 1 + 1 := by omega
            have z2_2 : w4.heap.size < m2.heap.size := by omega
            have z2_2a : w4.heap.size < m2.heap.size + 1 := by omega
            have z2_2b : w4.heap.size < m2.heap.size + 1 + 1 := by omega
            have z2_2c : w4.heap.size < m2.heap.size + 1 + 1 + 1 := by omega
            have z2_3 : m1.heap.size < m2.heap.size := by omega
            have z2_3a : m1.heap.size < m2.heap.size + 1 := by omega
            have z2_3b : m1.heap.size < m2.heap.size + 1 + 1 := by omega
            have z2_3c : m1.heap.size < m2.heap.size + 1 + 1 + 1 := by omega
            go_wp2_with fail
            go_roundw
            case rel => exact ⟨2, by omega, by go_num, rfl, by go_grown, by first | omega | (simp; omega), ⟨by simp [go_sem, *], by simp [go_sem, *]⟩, ⟨by simp [go_sem, *], by simp [go_sem, *]⟩, ⟨by simp [go_sem, *], by simp [go_sem, *]⟩⟩
            case measure => simp [intOf]
        · rcases HJ.out with ⟨rfl, rfl, l1, l2⟩ | ⟨n1, n2⟩
          · go_wp2_with fail
            refine (FJ.out _).mono ?_
            rintro e m1 ⟨rfl, g1⟩
            obtain ⟨c1, f1, z1⟩ := laid g1
            try simp at z1
            have G1 : Grown w m1 := Grown.trans (by go_grown) g1
            clear g1
            have z1_0 : w.heap.size < m1.heap.size := by omega
            have z1_0a : w.heap.size < m1.heap.size + 1 := by omega
            have z1_0b : w.heap.size < m1.heap.size + 1 + 1 := by omega
            have z1_0c : w.heap.size < m1.heap.size + 1 + 1 + 1 := by omega
            have z1_1 : w.heap.size + 1 < m1.heap.size := by omega
            have z1_1a : w.heap.size + 1 < m1.heap.size + 1 := by omega
            have z1_1b : w.heap.size + 1 < m1.heap.size + 1 + 1 := by omega
            have z1_1c : w.heap.size + 1 < m1.heap.size + 1 + 1 + 1 := by omega
            have z1_2 : w4.heap.size < m1.heap.size := by omega
            have z1_2a : w4.heap.size < m1.heap.size + 1 := by omega
            have z1_2b : w4.heap.size < m1.heap.size + 1 + 1 := by omega
            have z1_2c : w4.heap.size < m1.heap.size + 1 + 1 + 1 := by omega
            go_wp2_with fail
            refine (GJ.out _).mono ?_
            rintro e m2 ⟨rfl, g2⟩
            obtain ⟨c2, f2, z2⟩ := laid g2
            try simp at z2
            have G2 : Grown w m2 := Grown.trans (by go_grown) g2
            clear g2
            have z2_0 : w.heap.size < m2.heap.size := by omega
            have z2_0a : w.heap.size < m2.heap.size + 1 := by omega
            have z2_0b : w.heap.size < m2.heap.size + 1 + 1 := by omega
            have z2_0c : w.heap.size < m2.heap.size + 1 + 1 + 1 := by omega
            have z2_1 : w.heap.size + 1 < m2.heap.size := by omega
            have z2_1a : w.heap.size + 1 < m2.heap.size + 1 := by omega
            have z2_1b : w.heap.size + 1 < m2.heap.size + 1 + 1 := by omega
            have z2_1c : w.heap.size + 1 < m2.heap.size + 1 + 1 + 1 := by omega
            have z2_2 : w4.heap.size < m2.heap.size := by omega
            have z2_2a : w4.heap.size < m2.heap.size + 1 := by omega
            have z2_2b : w4.heap.size < m2.heap.size + 1 + 1 := by omega
            have z2_2c : w4.heap.size < m2.heap.size + 1 + 1 + 1 := by omega
            have z2_3 : m1.heap.size < m2.heap.size := by omega
            have z2_3a : m1.heap.size < m2.heap.size + 1 := by omega
            have z2_3b : m1.heap.size < m2.heap.size + 1 + 1 := by omega
            have z2_3c : m1.heap.size < m2.heap.size + 1 + 1 + 1 := by omega
            go_wp2_with fail
            refine (refWithin_yes _ _ _ _ _ ⟨l1, l2⟩).mono ?_
            rintro e m3 ⟨rfl, g3⟩
            obtain ⟨c3, f3, z3⟩ := laid g3
            try simp at z3
            have G3 : Grown w m3 := Grown.trans (by go_grown) g3
            clear g3
            have z3_0 : w.heap.size < m3.heap.size := by omega
            have z3_0a : w.heap.size < m3.heap.size + 1 := by omega
            have z3_0b : w.heap.size < m3.heap.size + 1 + 1 := by omega
            have z3_0c : w.heap.size < m3.heap.size + 1 + 1 + 1 := by omega
            have z3_1 : w.heap.size + 1 < m3.heap.size := by omega
            have z3_1a : w.heap.size + 1 < m3.heap.size + 1 := by omega
            have z3_1b : w.heap.size + 1 < m3.heap.size + 1 + 1 := by omega
            have z3_1c : w.heap.size + 1 < m3.heap.size + 1 + 1 + 1 := by omega
            have z3_2 : w4.heap.size < m3.heap.size := by omega
            have z3_2a : w4.heap.size < m3.heap.size + 1 := by omega
            have z3_2b : w4.heap.size < m3.heap.size + 1 + 1 := by omega
            have z3_2c : w4.heap.size < m3.heap.size + 1 + 1 + 1 := by omega
            have z3_3 : m1.heap.size < m3.heap.size := by omega
            have z3_3a : m1.heap.size < m3.heap.size + 1 := by omega
            have z3_3b : m1.heap.size < m3.heap.size + 1 + 1 := by omega
            have z3_3c : m1.heap.size < m3.heap.size + 1 + 1 + 1 := by omega
            have z3_4 : m2.heap.size < m3.heap.size := by omega
            have z3_4a : m2.heap.size < m3.heap.size + 1 := by omega
            have z3_4b : m2.heap.size < m3.heap.size + 1 + 1 := by omega
            have z3_4c : m2.heap.size < m3.heap.size + 1 + 1 + 1 := by omega
            go_wp2_with fail
            go_roundw
            case rel => exact ⟨3, by omega, by go_num, rfl, by go_grown, by first | omega | (simp; omega), ⟨by simp [go_sem, *], by simp [go_sem, *]⟩, ⟨by simp [go_sem, *], by simp [go_sem, *]⟩, ⟨by simp [go_sem, *], by simp [go_sem, *]⟩⟩
            case measure => simp [intOf]
          · go_wp2_with fail
            refine (FJ.out _).mono ?_
            rintro e m1 ⟨rfl, g1⟩
            obtain ⟨c1, f1, z1⟩ := laid g1
            try simp at z1
            have G1 : Grown w m1 := Grown.trans (by go_grown) g1
            clear g1
            have z1_0 : w.heap.size < m1.heap.size := by omega
            have z1_0a : w.heap.size < m1.heap.size + 1 := by omega
            have z1_0b : w.heap.size < m1.heap.size + 1 + 1 := by omega
            have z1_0c : w.heap.size < m1.heap.size + 1 + 1 + 1 := by omega
            have z1_1 : w.heap.size + 1 < m1.heap.size := by omega
            have z1_1a : w.heap.size + 1 < m1.heap.size + 1 := by omega
            have z1_1b : w.heap.size + 1 < m1.heap.size + 1 + 1 := by omega
            have z1_1c : w.heap.size + 1 < m1.heap.size + 1 + 1 + 1 := by omega
            have z1_2 : w4.heap.size < m1.heap.size := by omega
            have z1_2a : w4.heap.size < m1.heap.size + 1 := by omega
            have z1_2b : w4.heap.size < m1.heap.size + 1 + 1 := by omega
            have z1_2c : w4.heap.size < m1.heap.size + 1 + 1 + 1 := by omega
            go_wp2_with fail
            refine (GJ.out _).mono ?_
            rintro e m2 ⟨rfl, g2⟩
            obtain ⟨c2, f2, z2⟩ := laid g2
            try simp at z2
            have G2 : Grown w m2 := Grown.trans (by go_grown) g2
            clear g2
            have z2_0 : w.heap.size < m2.heap.size := by omega
            have z2_0a : w.heap.size < m2.heap.size + 1 := by omega
            have z2_0b : w.heap.size < m2.heap.size + 1 + 1 := by omega
            have z2_0c : w.heap.size < m2.heap.size + 1 + 1 + 1 := by omega
            have z2_1 : w.heap.size + 1 < m2.heap.size := by omega
            have z2_1a : w.heap.size + 1 < m2.heap.size + 1 := by omega
            have z2_1b : w.heap.size + 1 < m2.heap.size + 1 + 1 := by omega
            have z2_1c : w.heap.size + 1 < m2.heap.size + 1 + 1 + 1 := by omega
            have z2_2 : w4.heap.size < m2.heap.size := by omega
            have z2_2a : w4.heap.size < m2.heap.size + 1 := by omega
            have z2_2b : w4.heap.size < m2.heap.size + 1 + 1 := by omega
            have z2_2c : w4.heap.size < m2.heap.size + 1 + 1 + 1 := by omega
            have z2_3 : m1.heap.size < m2.heap.size := by omega
            have z2_3a : m1.heap.size < m2.heap.size + 1 := by omega
            have z2_3b : m1.heap.size < m2.heap.size + 1 + 1 := by omega
            have z2_3c : m1.heap.size < m2.heap.size + 1 + 1 + 1 := by omega
            go_wp2_with fail
            go_roundw
            case rel => exact ⟨3, by omega, by go_num, rfl, by go_grown, by first | omega | (simp; omega), ⟨by simp [go_sem, *], by simp [go_sem, *]⟩, ⟨by simp [go_sem, *], by simp [go_sem, *]⟩, ⟨by simp [go_sem, *], by simp [go_sem, *]⟩⟩
            case measure => simp [intOf]
        · rcases HT.out with ⟨rfl, rfl, l1, l2⟩ | ⟨n1, n2⟩
          · go_wp2_with fail
            refine (FT.out _).mono ?_
            rintro e m1 ⟨rfl, g1⟩
            obtain ⟨c1, f1, z1⟩ := laid g1
            try simp at z1
            have G1 : Grown w m1 := Grown.trans (by go_grown) g1
            clear g1
            have z1_0 : w.heap.size < m1.heap.size := by omega
            have z1_0a : w.heap.size < m1.heap.size + 1 := by omega
            have z1_0b : w.heap.size < m1.heap.size + 1 + 1 := by omega
            have z1_0c : w.heap.size < m1.heap.size + 1 + 1 + 1 := by omega
            have z1_1 : w.heap.size + 1 < m1.heap.size := by omega
            have z1_1a : w.heap.size + 1 < m1.heap.size + 1 := by omega
            have z1_1b : w.heap.size + 1 < m1.heap.size + 1 + 1 := by omega
            have z1_1c : w.heap.size + 1 < m1.heap.size + 1 + 1 + 1 := by omega
            have z1_2 : w4.heap.size < m1.heap.size := by omega
            have z1_2a : w4.heap.size < m1.heap.size + 1 := by omega
            have z1_2b : w4.heap.size < m1.heap.size + 1 + 1 := by omega
            have z1_2c : w4.heap.size < m1.heap.size + 1 + 1 + 1 := by omega
            go_wp2_with fail
            refine (GT.out _).mono ?_
            rintro e m2 ⟨rfl, g2⟩
            obtain ⟨c2, f2, z2⟩ := laid g2
            try simp at z2
            have G2 : Grown w m2 := Grown.trans (by go_grown) g2
            clear g2
            have z2_0 : w.heap.size < m2.heap.size := by omega
            have z2_0a : w.heap.size < m2.heap.size + 1 := by omega
            have z2_0b : w.heap.size < m2.heap.size + 1 + 1 := by omega
            have z2_0c : w.heap.size < m2.heap.size + 1 + 1 + 1 := by omega
            have z2_1 : w.heap.size + 1 < m2.heap.size := by omega
            have z2_1a : w.heap.size + 1 < m2.heap.size + 1 := by omega
            have z2_1b : w.heap.size + 1 < m2.heap.size + 1 + 1 := by omega
            have z2_1c : w.heap.size + 1 < m2.heap.size + 1 + 1 + 1 := by omega
            have z2_2 : w4.heap.size < m2.heap.size := by omega
            have z2_2a : w4.heap.size < m2.heap.size + 1 := by omega
            have z2_2b : w4.heap.size < m2.heap.size + 1 + 1 := by omega
            have z2_2c : w4.heap.size < m2.heap.size + 1 + 1 + 1 := by omega
            have z2_3 : m1.heap.size < m2.heap.size := by omega
            have z2_3a : m1.heap.size < m2.heap.size + 1 := by omega
            have z2_3b : m1.heap.size < m2.heap.size + 1 + 1 := by omega
            have z2_3c : m1.heap.size < m2.heap.size + 1 + 1 + 1 := by omega
            go_wp2_with fail
            refine (refWithin_yes _ _ _ _ _ ⟨l1, l2⟩).mono ?_
            rintro e m3 ⟨rfl, g3⟩
            obtain ⟨c3, f3, z3⟩ := laid g3
            try simp at z3
            have G3 : Grown w m3 := Grown.trans (by go_grown) g3
            clear g3
            have z3_0 : w.heap.size < m3.heap.size := by omega
            have z3_0a : w.heap.size < m3.heap.size + 1 := by omega
            have z3_0b : w.heap.size < m3.heap.size + 1 + 1 := by omega
            have z3_0c : w.heap.size < m3.heap.size + 1 + 1 + 1 := by omega
            have z3_1 : w.heap.size + 1 < m3.heap.size := by omega
            have z3_1a : w.heap.size + 1 < m3.heap.size + 1 := by omega
            have z3_1b : w.heap.size + 1 < m3.heap.size + 1 + 1 := by omega
            have z3_1c : w.heap.size + 1 < m3.heap.size + 1 + 1 + 1 := by omega
            have z3_2 : w4.heap.size < m3.heap.size := by omega
            have z3_2a : w4.heap.size < m3.heap.size + 1 := by omega
            have z3_2b : w4.heap.size < m3.heap.size + 1 + 1 := by omega
            have z3_2c : w4.heap.size < m3.heap.size + 1 + 1 + 1 := by omega
            have z3_3 : m1.heap.size < m3.heap.size := by omega
            have z3_3a : m1.heap.size < m3.heap.size + 1 := by omega
            have z3_3b : m1.heap.size < m3.heap.size + 1 + 1 := by omega
            have z3_3c : m1.heap.size < m3.heap.size + 1 + 1 + 1 := by omega
            have z3_4 : m2.heap.size < m3.heap.size := by omega
            have z3_4a : m2.heap.size < m3.heap.size + 1 := by omega
            have z3_4b : m2.heap.size < m3.heap.size + 1 + 1 := by omega
            have z3_4c : m2.heap.size < m3.heap.size + 1 + 1 + 1 := by omega
            go_wp2_with fail
            go_roundw
            case rel => exact ⟨4, by omega, by go_num, rfl, by go_grown, by first | omega | (simp; omega), ⟨by simp [go_sem, *], by simp [go_sem, *]⟩, ⟨by simp [go_sem, *], by simp [go_sem, *]⟩, ⟨by simp [go_sem, *], by simp [go_sem, *]⟩⟩
            case measure => simp [intOf]
          · go_wp2_with fail
            refine (FT.out _).mono ?_
            rintro e m1 ⟨rfl, g1⟩
            obtain ⟨c1, f1, z1⟩ := laid g1
            try simp at z1
            have G1 : Grown w m1 := Grown.trans (by go_grown) g1
            clear g1
            have z1_0 : w.heap.size < m1.heap.size := by omega
            have z1_0a : w.heap.size < m1.heap.size + 1 := by omega
            have z1_0b : w.heap.size < m1.heap.size + 1 + 1 := by omega
            have z1_0c : w.heap.size < m1.heap.size + 1 + 1 + 1 := by omega
            have z1_1 : w.heap.size + 1 < m1.heap.size := by omega
            have z1_1a : w.heap.size + 1 < m1.heap.size + 1 := by omega
            have z1_1b : w.heap.size + 1 < m1.heap.size + 1 + 1 := by omega
            have z1_1c : w.heap.size + 1 < m1.heap.size + 1 + 1 + 1 := by omega
            have z1_2 : w4.heap.size < m1.heap.size := by omega
            have z1_2a : w4.heap.size < m1.heap.size + 1 := by omega
            have z1_2b : w4.heap.size < m1.heap.size + 1 + 1 := by omega
            have z1_2c : w4.heap.size < m1.heap.size + 1 + 1 + 1 := by omega
            go_wp2_with fail
            refine (GT.out _).mono ?_
            rintro e m2 ⟨rfl, g2⟩
            obtain ⟨c2, f2, z2⟩ := laid g2
            try simp at z2
            have G2 : Grown w m2 := Grown.trans (by go_grown) g2
            clear g2
            have z2_0 : w.heap.size < m2.heap.size := by omega
            have z2_0a : w.heap.size < m2.heap.size + 1 := by omega
            have z2_0b : w.heap.size < m2.heap.size + 1 + 1 := by omega
            have z2_0c : w.heap.size < m2.heap.size + 1 + 1 + 1 := by omega
            have z2_1 : w.heap.size + 1 < m2.heap.size := by omega
            have z2_1a : w.heap.size + 1 < m2.heap.size + 1 := by omega
            have z2_1b : w.heap.size + 1 < m2.heap.size + 1 + 1 := by omega
            have z2_1c : w.heap.size + 1 < m2.heap.size + 1 + 1 + 1 := by omega
            have z2_2 : w4.heap.size < m2.heap.size := by omega
            have z2_2a : w4.heap.size < m2.heap.size + 1 := by omega
            have z2_2b : w4.heap.size < m2.heap.size + 1 + 1 := by omega
            have z2_2c : w4.heap.size < m2.heap.size + 1 + 1 + 1 := by omega
            have z2_3 : m1.heap.size < m2.heap.size := by omega
            have z2_3a : m1.heap.size < m2.heap.size + 1 := by omega
            have z2_3b : m1.heap.size < m2.heap.size + 1 + 1 := by omega
            have z2_3c : m1.heap.size < m2.heap.size + 1 + 1 + 1 := by omega
            go_wp2_with fail
            go_roundw
            case rel => exact ⟨4, by omega, by go_num, rfl, by go_grown, by first | omega | (simp; omega), ⟨by simp [go_sem, *], by simp [go_sem, *]⟩, ⟨by simp [go_sem, *], by simp [go_sem, *]⟩, ⟨by simp [go_sem, *], by simp [go_sem, *]⟩⟩
            case measure => simp [intOf]
        · go_wp2_with fail
          go_ret
          exact ⟨rfl, by go_grown⟩

    · have V2 := Lib.hid v2
      clear v1 v2
      go_enter Try.func9, Try.ntmps9
      go_wp2_with fail
      refine (head_any _).mono ?_
      rintro e w1 ⟨rfl, g1⟩
      obtain ⟨c1, f1, z1⟩ := laid g1
      try simp at z1
      have G1 : Grown w w1 := Grown.trans (by go_grown) g1
      clear g1
      have z1_0 : w.heap.size < w1.heap.size := by omega
      have z1_0a : w.heap.size < w1.heap.size + 1 := by omega
      have z1_0b : w.heap.size < w1.heap.size + 1 + 1 := by omega
      have z1_1 : w.heap.size + 1 < w1.heap.size := by omega
      have z1_1a : w.heap.size + 1 < w1.heap.size + 1 := by omega
      have z1_1b : w.heap.size + 1 < w1.heap.size + 1 + 1 := by omega
      have z1_2 : w.heap.size + 1 + 1 < w1.heap.size := by omega
      have z1_2a : w.heap.size + 1 + 1 < w1.heap.size + 1 := by omega
      have z1_2b : w.heap.size + 1 + 1 < w1.heap.size + 1 + 1 := by omega
      go_wp2_with fail
      refine (spValid_yes _ _ _ V1.out).mono ?_
      rintro e w2 ⟨rfl, g2⟩
      obtain ⟨c2, f2, z2⟩ := laid g2
      try simp at z2
      have G2 : Grown w w2 := Grown.trans (by go_grown) g2
      clear g2
      have z2_0 : w.heap.size < w2.heap.size := by omega
      have z2_0a : w.heap.size < w2.heap.size + 1 := by omega
      have z2_0b : w.heap.size < w2.heap.size + 1 + 1 := by omega
      have z2_1 : w.heap.size + 1 < w2.heap.size := by omega
      have z2_1a : w.heap.size + 1 < w2.heap.size + 1 := by omega
      have z2_1b : w.heap.size + 1 < w2.heap.size + 1 + 1 := by omega
      have z2_2 : w.heap.size + 1 + 1 < w2.heap.size := by omega
      have z2_2a : w.heap.size + 1 + 1 < w2.heap.size + 1 := by omega
      have z2_2b : w.heap.size + 1 + 1 < w2.heap.size + 1 + 1 := by omega
      go_wp2_with fail
      refine (spValid_no _ _ _ V2.out).mono ?_
      rintro e w3 ⟨rfl, g3⟩
      obtain ⟨c3, f3, z3⟩ := laid g3
      try simp at z3
      have G3 : Grown w w3 := Grown.trans (by go_grown) g3
      clear g3
      have z3_0 : w.heap.size < w3.heap.size := by omega
      have z3_0a : w.heap.size < w3.heap.size + 1 := by omega
      have z3_0b : w.heap.size < w3.heap.size + 1 + 1 := by omega
      have z3_1 : w.heap.size + 1 < w3.heap.size := by omega
      have z3_1a : w.heap.size + 1 < w3.heap.size + 1 := by omega
      have z3_1b : w.heap.size + 1 < w3.heap.size + 1 + 1 := by omega
      have z3_2 : w.heap.size + 1 + 1 < w3.heap.size := by omega
      have z3_2a : w.heap.size + 1 + 1 < w3.heap.size + 1 := by omega
      have z3_2b : w.heap.size + 1 + 1 < w3.heap.size + 1 + 1 := by omega
      go_wp2_with fail
      go_ret
      exact ⟨by first | rfl | (simp; omega), by go_grown⟩

  · have V1 := Lib.hid v1
    clear v1
    go_enter Try.func9, Try.ntmps9
    go_wp2_with fail
    refine (head_any _).mono ?_
    rintro e w1 ⟨rfl, g1⟩
    obtain ⟨c1, f1, z1⟩ := laid g1
    try simp at z1
    have G1 : Grown w w1 := Grown.trans (by go_grown) g1
    clear g1
    have z1_0 : w.heap.size < w1.heap.size := by omega
    have z1_0a : w.heap.size < w1.heap.size + 1 := by omega
    have z1_0b : w.heap.size < w1.heap.size + 1 + 1 := by omega
    have z1_1 : w.heap.size + 1 < w1.heap.size := by omega
    have z1_1a : w.heap.size + 1 < w1.heap.size + 1 := by omega
    have z1_1b : w.heap.size + 1 < w1.heap.size + 1 + 1 := by omega
    have z1_2 : w.heap.size + 1 + 1 < w1.heap.size := by omega
    have z1_2a : w.heap.size + 1 + 1 < w1.heap.size + 1 := by omega
    have z1_2b : w.heap.size + 1 + 1 < w1.heap.size + 1 + 1 := by omega
    go_wp2_with fail
    refine (spValid_no _ _ _ V1.out).mono ?_
    rintro e w2 ⟨rfl, g2⟩
    obtain ⟨c2, f2, z2⟩ := laid g2
    try simp at z2
    have G2 : Grown w w2 := Grown.trans (by go_grown) g2
    clear g2
    have z2_0 : w.heap.size < w2.heap.size := by omega
    have z2_0a : w.heap.size < w2.heap.size + 1 := by omega
    have z2_0b : w.heap.size < w2.heap.size + 1 + 1 := by omega
    have z2_1 : w.heap.size + 1 < w2.heap.size := by omega
    have z2_1a : w.heap.size + 1 < w2.heap.size + 1 := by omega
    have z2_1b : w.heap.size + 1 < w2.heap.size + 1 + 1 := by omega
    have z2_2 : w.heap.size + 1 + 1 < w2.heap.size := by omega
    have z2_2a : w.heap.size + 1 + 1 < w2.heap.size + 1 := by omega
    have z2_2b : w.heap.size + 1 + 1 < w2.heap.size + 1 + 1 := by omega
    go_wp2_with fail
    go_ret
    exact ⟨by first | rfl | (simp; omega), by go_grown⟩


end Sn
end Go.Proofs.Ytpendmjfmhjibaa
