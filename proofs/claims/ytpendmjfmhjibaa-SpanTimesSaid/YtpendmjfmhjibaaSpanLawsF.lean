/-
  The walk of the law SpanTimes: it returns true.
-/
import Derived.Test.YtpendmjfmhjibaaSpanLawsC
namespace Go.Proofs.Ytpendmjfmhjibaa
open Go.RowKit
namespace Sn

theorem refIn_yes (lo hi n : Int) (w : World) (h : hs lo hi n = true) : Calls Try.prog 30 #[.agg #[.int .i64 lo, .int .i64 hi], .int .i64 n] w fun e w' => e = .returned (.bool true) ∧ w.alloc (.cells #[.int .i64 lo, .int .i64 hi] 23) = w' := by
  have g : lo ≤ n ∧ n ≤ hi := by simpa [hs] using h
  obtain ⟨h0, h1⟩ := g
  clear h
  go_enter Try.func30, Try.ntmps30
  go_wp2
  go_ret
  exact ⟨rfl, rfl⟩
theorem d_mono {x y : Int} (h : x ≤ y) : d1000 x ≤ d1000 y := by unfold d1000; omega
theorem u_mono {x y : Int} (h : x ≤ y) : u1000 x ≤ u1000 y := by unfold u1000 d1000; omega
theorem d_le_u (x : Int) : d1000 x ≤ u1000 x := by unfold u1000 d1000; omega
theorem d_mn (x y : Int) : d1000 (mn x y) = mn (d1000 x) (d1000 y) := by
  unfold mn d1000; split <;> split <;> omega
theorem u_mx (x y : Int) : u1000 (mx x y) = mx (u1000 x) (u1000 y) := by
  unfold mx u1000 d1000; split <;> split <;> omega
theorem prod_lo {a x c y d : Int} (hx : a ≤ x) (hc : 0 ≤ c) (h1 : c ≤ y) (h2 : y ≤ d) : mn (a * c) (a * d) ≤ x * y := by
  have h3 : a * y ≤ x * y := Int.mul_le_mul_of_nonneg_right hx (by omega)
  by_cases h : 0 ≤ a
  · have := Int.mul_le_mul_of_nonneg_left h1 h
    unfold mn; split <;> omega
  · have : a * d ≤ a * y := Int.mul_le_mul_of_nonpos_left (by omega) h2
    unfold mn; split <;> omega
theorem prod_hi {b x c y d : Int} (hx : x ≤ b) (hc : 0 ≤ c) (h1 : c ≤ y) (h2 : y ≤ d) : x * y ≤ mx (b * c) (b * d) := by
  have h3 : x * y ≤ b * y := Int.mul_le_mul_of_nonneg_right hx (by omega)
  by_cases h : 0 ≤ b
  · have := Int.mul_le_mul_of_nonneg_left h2 h
    unfold mx; split <;> omega
  · have : b * y ≤ b * c := Int.mul_le_mul_of_nonpos_left (by omega) h1
    unfold mx; split <;> omega
theorem times_is {a b c d X Y : Int} (h : Vd a b ∧ Pa c d) (hX : d1000 (mn (a * c) (a * d)) = X) (hY : u1000 (mx (b * c) (b * d)) = Y) (k : Vd X Y) : ∀ w, Calls Try.prog 23 #[.agg #[.int .i64 a, .int .i64 b], .agg #[.int .i64 c, .int .i64 d]] w fun e w' => e = .returned (.tuple #[.agg #[.int .i64 X, .int .i64 Y], .int .i64 0]) ∧ Grown w w' := by
  intro w
  rw [← hX, ← hY] at k ⊢
  exact spTimes_ok a b c d w h k

set_option maxRecDepth 100000 in
set_option maxHeartbeats 4000000 in
theorem times_in (a b c d i k X Y : Int) (w : World) (hi : 0 ≤ i ∧ i ≤ 18446744073709551615) (hk : 0 ≤ k ∧ k ≤ 18446744073709551615) (V1 : Vd a b) (V2 : Pa c d) (hX : d1000 (mn (a * c) (a * d)) = X) (hY : u1000 (mx (b * c) (b * d)) = Y) (kv : Vd X Y) : Calls Try.prog 8 #[.agg #[.int .i64 a, .int .i64 b], .agg #[.int .i64 c, .int .i64 d], .int .u64 i, .int .u64 k] w fun e w' => e = .returned (.bool true) ∧ Grown w w' := by
  have A := Lib.hid (times_is ⟨V1, V2⟩ hX hY kv)
  have V3 : Vd c d := V2.1
  obtain ⟨i0, i1⟩ := inn_in i V1
  obtain ⟨k0, k1⟩ := inn_in k V3
  have VV := V1
  obtain ⟨v1, v2, v3⟩ := VV
  obtain ⟨v4, v5⟩ := V2.2
  have v6 : c ≤ d := V3.2.1
  have b1 := prod_lo i0 v4 k0 k1
  have b2 := prod_hi i1 v4 k0 k1
  obtain ⟨n0, n1⟩ := mul_bd (n := inn a b i) (a := inn c d k) ⟨by omega, by omega⟩ ⟨by omega, by omega⟩
  obtain ⟨N, hN⟩ : ∃ N, inn a b i * inn c d k = N := ⟨_, rfl⟩
  rw [hN] at b1 b2 n0 n1
  have s1 : hs X Y (d1000 N) = true := by
    have e1 := d_mono b1
    have e2 := d_le_u N
    have e3 := u_mono b2
    unfold hs; simp; omega
  have s2 : hs X Y (u1000 N) = true := by
    have e1 := d_mono b1
    have e2 := d_le_u N
    have e3 := u_mono b2
    unfold hs; simp; omega
  have WS : Hid (IntKind.i64.wrap (inn a b i * inn c d k) = N) := Lib.hid (by rw [hN]; exact IntWalk.i64_in _ ⟨by omega, by omega⟩)
  obtain ⟨p0, p1⟩ := mul_bd (n := a) (a := c) ⟨by omega, by omega⟩ ⟨by omega, by omega⟩
  obtain ⟨p2, p3⟩ := mul_bd (n := a) (a := d) ⟨by omega, by omega⟩ ⟨by omega, by omega⟩
  obtain ⟨p4, p5⟩ := mul_bd (n := b) (a := c) ⟨by omega, by omega⟩ ⟨by omega, by omega⟩
  obtain ⟨p6, p7⟩ := mul_bd (n := b) (a := d) ⟨by omega, by omega⟩ ⟨by omega, by omega⟩
  have W1 : Hid (IntKind.i64.wrap (a * c) = a * c) := Lib.hid (IntWalk.i64_in _ ⟨by omega, by omega⟩)
  have W2 : Hid (IntKind.i64.wrap (a * d) = a * d) := Lib.hid (IntWalk.i64_in _ ⟨by omega, by omega⟩)
  have W3 : Hid (IntKind.i64.wrap (b * c) = b * c) := Lib.hid (IntWalk.i64_in _ ⟨by omega, by omega⟩)
  have W4 : Hid (IntKind.i64.wrap (b * d) = b * d) := Lib.hid (IntWalk.i64_in _ ⟨by omega, by omega⟩)
  obtain ⟨hi0, hi1⟩ := hi
  obtain ⟨hk0, hk1⟩ := hk
  clear hN b1 b2 kv
  rw [d_mn] at hX
  rw [u_mx] at hY
  rcases mn_cases (d1000 (a * c)) (d1000 (a * d)) with ⟨p, p'⟩ | ⟨p, p'⟩ <;> rcases mx_cases (u1000 (b * c)) (u1000 (b * d)) with ⟨q, q'⟩ | ⟨q, q'⟩ <;> rw [p'] at hX <;> rw [q'] at hY <;> clear p' q' <;> subst hX <;> subst hY
  · go_enter Try.func8, Try.ntmps8
    go_wp2_with fail
    refine (head_any _).mono ?_
    rintro e w1 ⟨rfl, g1⟩
    obtain ⟨c1, f1, z1⟩ := laid g1
    try simp at z1
    have G1 : Grown w w1 := Grown.trans (by repeat (first | (with_reducible assumption) | exact Grown.refl _ | (with_reducible refine Grown.drewN ?_ _) | (with_reducible refine Grown.drew ?_) | (with_reducible refine Grown.alloc ?_ _ _))) g1
    clear g1
    have z1_0 : w.heap.size < w1.heap.size := by omega
    have z1_0a : w.heap.size < w1.heap.size + 1 := by omega
    have z1_0b : w.heap.size < w1.heap.size + 1 + 1 := by omega
    have z1_0c : w.heap.size < w1.heap.size + 1 + 1 + 1 := by omega
    have z1_0d : w.heap.size < w1.heap.size + 1 + 1 + 1 + 1 := by omega
    have z1_1 : w.heap.size + 1 < w1.heap.size := by omega
    have z1_1a : w.heap.size + 1 < w1.heap.size + 1 := by omega
    have z1_1b : w.heap.size + 1 < w1.heap.size + 1 + 1 := by omega
    have z1_1c : w.heap.size + 1 < w1.heap.size + 1 + 1 + 1 := by omega
    have z1_1d : w.heap.size + 1 < w1.heap.size + 1 + 1 + 1 + 1 := by omega
    go_wp2_with fail
    refine (A.out _).mono ?_
    rintro e w2 ⟨rfl, g2⟩
    obtain ⟨c2, f2, z2⟩ := laid g2
    try simp [size_drewN] at z2
    have d2 := laid2 (w0 := w1) (by repeat (first | (with_reducible assumption) | exact Grown.refl _ | (with_reducible refine Grown.drewN ?_ _) | (with_reducible refine Grown.drew ?_) | (with_reducible refine Grown.alloc ?_ _ _))) g2
    have G2 : Grown w w2 := Grown.trans (by repeat (first | (with_reducible assumption) | exact Grown.refl _ | (with_reducible refine Grown.drewN ?_ _) | (with_reducible refine Grown.drew ?_) | (with_reducible refine Grown.alloc ?_ _ _))) g2
    clear g2
    have z2_0 : w.heap.size < w2.heap.size := by omega
    have z2_0a : w.heap.size < w2.heap.size + 1 := by omega
    have z2_0b : w.heap.size < w2.heap.size + 1 + 1 := by omega
    have z2_0c : w.heap.size < w2.heap.size + 1 + 1 + 1 := by omega
    have z2_0d : w.heap.size < w2.heap.size + 1 + 1 + 1 + 1 := by omega
    have z2_1 : w.heap.size + 1 < w2.heap.size := by omega
    have z2_1a : w.heap.size + 1 < w2.heap.size + 1 := by omega
    have z2_1b : w.heap.size + 1 < w2.heap.size + 1 + 1 := by omega
    have z2_1c : w.heap.size + 1 < w2.heap.size + 1 + 1 + 1 := by omega
    have z2_1d : w.heap.size + 1 < w2.heap.size + 1 + 1 + 1 + 1 := by omega
    go_wp2_with fail
    refine (refValid_yes _ _ _ V1).mono ?_
    rintro e w3 ⟨rfl, g3⟩
    obtain ⟨c3, f3, z3⟩ := laid g3
    try simp at z3
    have d3 := laid2 (w0 := w2) (by repeat (first | (with_reducible assumption) | exact Grown.refl _ | (with_reducible refine Grown.drewN ?_ _) | (with_reducible refine Grown.drew ?_) | (with_reducible refine Grown.alloc ?_ _ _))) g3
    have G3 : Grown w w3 := Grown.trans (by repeat (first | (with_reducible assumption) | exact Grown.refl _ | (with_reducible refine Grown.drewN ?_ _) | (with_reducible refine Grown.drew ?_) | (with_reducible refine Grown.alloc ?_ _ _))) g3
    clear g3
    have z3_0 : w.heap.size < w3.heap.size := by omega
    have z3_0a : w.heap.size < w3.heap.size + 1 := by omega
    have z3_0b : w.heap.size < w3.heap.size + 1 + 1 := by omega
    have z3_0c : w.heap.size < w3.heap.size + 1 + 1 + 1 := by omega
    have z3_0d : w.heap.size < w3.heap.size + 1 + 1 + 1 + 1 := by omega
    have z3_1 : w.heap.size + 1 < w3.heap.size := by omega
    have z3_1a : w.heap.size + 1 < w3.heap.size + 1 := by omega
    have z3_1b : w.heap.size + 1 < w3.heap.size + 1 + 1 := by omega
    have z3_1c : w.heap.size + 1 < w3.heap.size + 1 + 1 + 1 := by omega
    have z3_1d : w.heap.size + 1 < w3.heap.size + 1 + 1 + 1 + 1 := by omega
    have z3_2 : w2.heap.size < w3.heap.size := by omega
    have z3_2a : w2.heap.size < w3.heap.size + 1 := by omega
    have z3_2b : w2.heap.size < w3.heap.size + 1 + 1 := by omega
    have z3_2c : w2.heap.size < w3.heap.size + 1 + 1 + 1 := by omega
    have z3_2d : w2.heap.size < w3.heap.size + 1 + 1 + 1 + 1 := by omega
    go_wp2_with fail
    refine (refParts_yes _ _ _ V2).mono ?_
    rintro e w4 ⟨rfl, g4⟩
    obtain ⟨c4, f4, z4⟩ := laid g4
    try simp [size_drewN] at z4
    have d4 := laid2 (w0 := w3) (by repeat (first | (with_reducible assumption) | exact Grown.refl _ | (with_reducible refine Grown.drewN ?_ _) | (with_reducible refine Grown.drew ?_) | (with_reducible refine Grown.alloc ?_ _ _))) g4
    have G4 : Grown w w4 := Grown.trans (by repeat (first | (with_reducible assumption) | exact Grown.refl _ | (with_reducible refine Grown.drewN ?_ _) | (with_reducible refine Grown.drew ?_) | (with_reducible refine Grown.alloc ?_ _ _))) g4
    clear g4
    have z4_0 : w.heap.size < w4.heap.size := by omega
    have z4_0a : w.heap.size < w4.heap.size + 1 := by omega
    have z4_0b : w.heap.size < w4.heap.size + 1 + 1 := by omega
    have z4_0c : w.heap.size < w4.heap.size + 1 + 1 + 1 := by omega
    have z4_0d : w.heap.size < w4.heap.size + 1 + 1 + 1 + 1 := by omega
    have z4_1 : w.heap.size + 1 < w4.heap.size := by omega
    have z4_1a : w.heap.size + 1 < w4.heap.size + 1 := by omega
    have z4_1b : w.heap.size + 1 < w4.heap.size + 1 + 1 := by omega
    have z4_1c : w.heap.size + 1 < w4.heap.size + 1 + 1 + 1 := by omega
    have z4_1d : w.heap.size + 1 < w4.heap.size + 1 + 1 + 1 + 1 := by omega
    have z4_2 : w2.heap.size < w4.heap.size := by omega
    have z4_2a : w2.heap.size < w4.heap.size + 1 := by omega
    have z4_2b : w2.heap.size < w4.heap.size + 1 + 1 := by omega
    have z4_2c : w2.heap.size < w4.heap.size + 1 + 1 + 1 := by omega
    have z4_2d : w2.heap.size < w4.heap.size + 1 + 1 + 1 + 1 := by omega
    go_wp2_with fail
    have q4_0_0 : w4.cell? ⟨w.heap.size, 0, none⟩ = some (.int .i64 a) := by simp [go_sem, *]
    have q4_0_1 : w4.cell? ⟨w.heap.size, 1, none⟩ = some (.int .i64 b) := by simp [go_sem, *]
    have q4_1_0 : w4.cell? ⟨w.heap.size + 1, 0, none⟩ = some (.int .i64 c) := by simp [go_sem, *]
    have q4_1_1 : w4.cell? ⟨w.heap.size + 1, 1, none⟩ = some (.int .i64 d) := by simp [go_sem, *]
    have q4_2_0 : w4.cell? ⟨w2.heap.size, 0, none⟩ = some (.int .i64 (d1000 (a * d))) := by simp [go_sem, *]
    have q4_2_1 : w4.cell? ⟨w2.heap.size, 1, none⟩ = some (.int .i64 (u1000 (b * d))) := by simp [go_sem, *]
    clear c1 f1 c2 f2 c3 f3 c4 f4 d2 d3 d4
    clear z1 G1 z2 G2 z3 G3
    have ws := WS.out
    go_region_held3 (fun w' => w'.cell? ⟨w.heap.size, 0, none⟩ = some (.int .i64 a) ∧ w'.cell? ⟨w.heap.size, 1, none⟩ = some (.int .i64 b) ∧ w'.cell? ⟨w.heap.size + 1, 0, none⟩ = some (.int .i64 c) ∧ w'.cell? ⟨w.heap.size + 1, 1, none⟩ = some (.int .i64 d) ∧ w'.cell? ⟨w2.heap.size, 0, none⟩ = some (.int .i64 (d1000 (a * d))) ∧ w'.cell? ⟨w2.heap.size, 1, none⟩ = some (.int .i64 (u1000 (b * d)))) (simp [go_sem, *])
      (first | (go_at_call 25; refine (in_any _ _ _ _ ?_ ?_).mono ?_; (assumption); (exact ⟨by assumption, by assumption⟩); rintro e w' ⟨rfl, n', rfl⟩))
    clear ws
    go_wp2_with fail
    have ws1 := W1.out
    have ws2 := W2.out
    go_region_held3 (fun w' => w'.cell? ⟨w.heap.size, 0, none⟩ = some (.int .i64 a) ∧ w'.cell? ⟨w.heap.size, 1, none⟩ = some (.int .i64 b) ∧ w'.cell? ⟨w.heap.size + 1, 0, none⟩ = some (.int .i64 c) ∧ w'.cell? ⟨w.heap.size + 1, 1, none⟩ = some (.int .i64 d) ∧ w'.cell? ⟨w2.heap.size, 0, none⟩ = some (.int .i64 (d1000 (a * d))) ∧ w'.cell? ⟨w2.heap.size, 1, none⟩ = some (.int .i64 (u1000 (b * d)))) (simp [go_sem, *])
      (first | (go_at_call 28; refine (refFloor_any _ _ ⟨?_, ?_⟩).mono ?_; (assumption); (assumption); rintro e w' ⟨rfl, rfl⟩))
    clear ws1 ws2
    go_wp2_with fail
    have ws1 := W3.out
    have ws2 := W4.out
    go_region_held3 (fun w' => w'.cell? ⟨w.heap.size, 0, none⟩ = some (.int .i64 a) ∧ w'.cell? ⟨w.heap.size, 1, none⟩ = some (.int .i64 b) ∧ w'.cell? ⟨w.heap.size + 1, 0, none⟩ = some (.int .i64 c) ∧ w'.cell? ⟨w.heap.size + 1, 1, none⟩ = some (.int .i64 d) ∧ w'.cell? ⟨w2.heap.size, 0, none⟩ = some (.int .i64 (d1000 (a * d))) ∧ w'.cell? ⟨w2.heap.size, 1, none⟩ = some (.int .i64 (u1000 (b * d)))) (simp [go_sem, *])
      (first | (go_at_call 29; refine (refCeil_any _ _ ⟨?_, ?_⟩).mono ?_; (assumption); (assumption); rintro e w' ⟨rfl, rfl⟩))
    clear ws1 ws2
    go_wp2_with fail
    go_region_held3 (fun w' => w'.cell? ⟨w2.heap.size, 0, none⟩ = some (.int .i64 (d1000 (a * d))) ∧ w'.cell? ⟨w2.heap.size, 1, none⟩ = some (.int .i64 (u1000 (b * d)))) (simp [go_sem, *])
      (first | (go_at_call 28; refine (refFloor_any _ _ ⟨?_, ?_⟩).mono ?_; (assumption); (assumption); rintro e w' ⟨rfl, rfl⟩) | (go_at_call 29; refine (refCeil_any _ _ ⟨?_, ?_⟩).mono ?_; (assumption); (assumption); rintro e w' ⟨rfl, rfl⟩) | (go_at_call 30; refine (refIn_yes _ _ _ _ ?_).mono ?_; (assumption); rintro e w' ⟨rfl, rfl⟩) | (go_at_call 31; refine (of_any _ _ _).mono ?_; rintro e w' ⟨rfl, rfl⟩))
    go_wp2_with fail
    go_ret
    exact ⟨by first | rfl | (simp; omega), by repeat (first | (with_reducible assumption) | exact Grown.refl _ | (with_reducible refine Grown.drewN ?_ _) | (with_reducible refine Grown.drew ?_) | (with_reducible refine Grown.alloc ?_ _ _))⟩
  · go_enter Try.func8, Try.ntmps8
    go_wp2_with fail
    refine (head_any _).mono ?_
    rintro e w1 ⟨rfl, g1⟩
    obtain ⟨c1, f1, z1⟩ := laid g1
    try simp at z1
    have G1 : Grown w w1 := Grown.trans (by repeat (first | (with_reducible assumption) | exact Grown.refl _ | (with_reducible refine Grown.drewN ?_ _) | (with_reducible refine Grown.drew ?_) | (with_reducible refine Grown.alloc ?_ _ _))) g1
    clear g1
    have z1_0 : w.heap.size < w1.heap.size := by omega
    have z1_0a : w.heap.size < w1.heap.size + 1 := by omega
    have z1_0b : w.heap.size < w1.heap.size + 1 + 1 := by omega
    have z1_0c : w.heap.size < w1.heap.size + 1 + 1 + 1 := by omega
    have z1_0d : w.heap.size < w1.heap.size + 1 + 1 + 1 + 1 := by omega
    have z1_1 : w.heap.size + 1 < w1.heap.size := by omega
    have z1_1a : w.heap.size + 1 < w1.heap.size + 1 := by omega
    have z1_1b : w.heap.size + 1 < w1.heap.size + 1 + 1 := by omega
    have z1_1c : w.heap.size + 1 < w1.heap.size + 1 + 1 + 1 := by omega
    have z1_1d : w.heap.size + 1 < w1.heap.size + 1 + 1 + 1 + 1 := by omega
    go_wp2_with fail
    refine (A.out _).mono ?_
    rintro e w2 ⟨rfl, g2⟩
    obtain ⟨c2, f2, z2⟩ := laid g2
    try simp [size_drewN] at z2
    have d2 := laid2 (w0 := w1) (by repeat (first | (with_reducible assumption) | exact Grown.refl _ | (with_reducible refine Grown.drewN ?_ _) | (with_reducible refine Grown.drew ?_) | (with_reducible refine Grown.alloc ?_ _ _))) g2
    have G2 : Grown w w2 := Grown.trans (by repeat (first | (with_reducible assumption) | exact Grown.refl _ | (with_reducible refine Grown.drewN ?_ _) | (with_reducible refine Grown.drew ?_) | (with_reducible refine Grown.alloc ?_ _ _))) g2
    clear g2
    have z2_0 : w.heap.size < w2.heap.size := by omega
    have z2_0a : w.heap.size < w2.heap.size + 1 := by omega
    have z2_0b : w.heap.size < w2.heap.size + 1 + 1 := by omega
    have z2_0c : w.heap.size < w2.heap.size + 1 + 1 + 1 := by omega
    have z2_0d : w.heap.size < w2.heap.size + 1 + 1 + 1 + 1 := by omega
    have z2_1 : w.heap.size + 1 < w2.heap.size := by omega
    have z2_1a : w.heap.size + 1 < w2.heap.size + 1 := by omega
    have z2_1b : w.heap.size + 1 < w2.heap.size + 1 + 1 := by omega
    have z2_1c : w.heap.size + 1 < w2.heap.size + 1 + 1 + 1 := by omega
    have z2_1d : w.heap.size + 1 < w2.heap.size + 1 + 1 + 1 + 1 := by omega
    go_wp2_with fail
    refine (refValid_yes _ _ _ V1).mono ?_
    rintro e w3 ⟨rfl, g3⟩
    obtain ⟨c3, f3, z3⟩ := laid g3
    try simp at z3
    have d3 := laid2 (w0 := w2) (by repeat (first | (with_reducible assumption) | exact Grown.refl _ | (with_reducible refine Grown.drewN ?_ _) | (with_reducible refine Grown.drew ?_) | (with_reducible refine Grown.alloc ?_ _ _))) g3
    have G3 : Grown w w3 := Grown.trans (by repeat (first | (with_reducible assumption) | exact Grown.refl _ | (with_reducible refine Grown.drewN ?_ _) | (with_reducible refine Grown.drew ?_) | (with_reducible refine Grown.alloc ?_ _ _))) g3
    clear g3
    have z3_0 : w.heap.size < w3.heap.size := by omega
    have z3_0a : w.heap.size < w3.heap.size + 1 := by omega
    have z3_0b : w.heap.size < w3.heap.size + 1 + 1 := by omega
    have z3_0c : w.heap.size < w3.heap.size + 1 + 1 + 1 := by omega
    have z3_0d : w.heap.size < w3.heap.size + 1 + 1 + 1 + 1 := by omega
    have z3_1 : w.heap.size + 1 < w3.heap.size := by omega
    have z3_1a : w.heap.size + 1 < w3.heap.size + 1 := by omega
    have z3_1b : w.heap.size + 1 < w3.heap.size + 1 + 1 := by omega
    have z3_1c : w.heap.size + 1 < w3.heap.size + 1 + 1 + 1 := by omega
    have z3_1d : w.heap.size + 1 < w3.heap.size + 1 + 1 + 1 + 1 := by omega
    have z3_2 : w2.heap.size < w3.heap.size := by omega
    have z3_2a : w2.heap.size < w3.heap.size + 1 := by omega
    have z3_2b : w2.heap.size < w3.heap.size + 1 + 1 := by omega
    have z3_2c : w2.heap.size < w3.heap.size + 1 + 1 + 1 := by omega
    have z3_2d : w2.heap.size < w3.heap.size + 1 + 1 + 1 + 1 := by omega
    go_wp2_with fail
    refine (refParts_yes _ _ _ V2).mono ?_
    rintro e w4 ⟨rfl, g4⟩
    obtain ⟨c4, f4, z4⟩ := laid g4
    try simp [size_drewN] at z4
    have d4 := laid2 (w0 := w3) (by repeat (first | (with_reducible assumption) | exact Grown.refl _ | (with_reducible refine Grown.drewN ?_ _) | (with_reducible refine Grown.drew ?_) | (with_reducible refine Grown.alloc ?_ _ _))) g4
    have G4 : Grown w w4 := Grown.trans (by repeat (first | (with_reducible assumption) | exact Grown.refl _ | (with_reducible refine Grown.drewN ?_ _) | (with_reducible refine Grown.drew ?_) | (with_reducible refine Grown.alloc ?_ _ _))) g4
    clear g4
    have z4_0 : w.heap.size < w4.heap.size := by omega
    have z4_0a : w.heap.size < w4.heap.size + 1 := by omega
    have z4_0b : w.heap.size < w4.heap.size + 1 + 1 := by omega
    have z4_0c : w.heap.size < w4.heap.size + 1 + 1 + 1 := by omega
    have z4_0d : w.heap.size < w4.heap.size + 1 + 1 + 1 + 1 := by omega
    have z4_1 : w.heap.size + 1 < w4.heap.size := by omega
    have z4_1a : w.heap.size + 1 < w4.heap.size + 1 := by omega
    have z4_1b : w.heap.size + 1 < w4.heap.size + 1 + 1 := by omega
    have z4_1c : w.heap.size + 1 < w4.heap.size + 1 + 1 + 1 := by omega
    have z4_1d : w.heap.size + 1 < w4.heap.size + 1 + 1 + 1 + 1 := by omega
    have z4_2 : w2.heap.size < w4.heap.size := by omega
    have z4_2a : w2.heap.size < w4.heap.size + 1 := by omega
    have z4_2b : w2.heap.size < w4.heap.size + 1 + 1 := by omega
    have z4_2c : w2.heap.size < w4.heap.size + 1 + 1 + 1 := by omega
    have z4_2d : w2.heap.size < w4.heap.size + 1 + 1 + 1 + 1 := by omega
    go_wp2_with fail
    have q4_0_0 : w4.cell? ⟨w.heap.size, 0, none⟩ = some (.int .i64 a) := by simp [go_sem, *]
    have q4_0_1 : w4.cell? ⟨w.heap.size, 1, none⟩ = some (.int .i64 b) := by simp [go_sem, *]
    have q4_1_0 : w4.cell? ⟨w.heap.size + 1, 0, none⟩ = some (.int .i64 c) := by simp [go_sem, *]
    have q4_1_1 : w4.cell? ⟨w.heap.size + 1, 1, none⟩ = some (.int .i64 d) := by simp [go_sem, *]
    have q4_2_0 : w4.cell? ⟨w2.heap.size, 0, none⟩ = some (.int .i64 (d1000 (a * d))) := by simp [go_sem, *]
    have q4_2_1 : w4.cell? ⟨w2.heap.size, 1, none⟩ = some (.int .i64 (u1000 (b * c))) := by simp [go_sem, *]
    clear c1 f1 c2 f2 c3 f3 c4 f4 d2 d3 d4
    clear z1 G1 z2 G2 z3 G3
    have ws := WS.out
    go_region_held3 (fun w' => w'.cell? ⟨w.heap.size, 0, none⟩ = some (.int .i64 a) ∧ w'.cell? ⟨w.heap.size, 1, none⟩ = some (.int .i64 b) ∧ w'.cell? ⟨w.heap.size + 1, 0, none⟩ = some (.int .i64 c) ∧ w'.cell? ⟨w.heap.size + 1, 1, none⟩ = some (.int .i64 d) ∧ w'.cell? ⟨w2.heap.size, 0, none⟩ = some (.int .i64 (d1000 (a * d))) ∧ w'.cell? ⟨w2.heap.size, 1, none⟩ = some (.int .i64 (u1000 (b * c)))) (simp [go_sem, *])
      (first | (go_at_call 25; refine (in_any _ _ _ _ ?_ ?_).mono ?_; (assumption); (exact ⟨by assumption, by assumption⟩); rintro e w' ⟨rfl, n', rfl⟩))
    clear ws
    go_wp2_with fail
    have ws1 := W1.out
    have ws2 := W2.out
    go_region_held3 (fun w' => w'.cell? ⟨w.heap.size, 0, none⟩ = some (.int .i64 a) ∧ w'.cell? ⟨w.heap.size, 1, none⟩ = some (.int .i64 b) ∧ w'.cell? ⟨w.heap.size + 1, 0, none⟩ = some (.int .i64 c) ∧ w'.cell? ⟨w.heap.size + 1, 1, none⟩ = some (.int .i64 d) ∧ w'.cell? ⟨w2.heap.size, 0, none⟩ = some (.int .i64 (d1000 (a * d))) ∧ w'.cell? ⟨w2.heap.size, 1, none⟩ = some (.int .i64 (u1000 (b * c)))) (simp [go_sem, *])
      (first | (go_at_call 28; refine (refFloor_any _ _ ⟨?_, ?_⟩).mono ?_; (assumption); (assumption); rintro e w' ⟨rfl, rfl⟩))
    clear ws1 ws2
    go_wp2_with fail
    have ws1 := W3.out
    have ws2 := W4.out
    go_region_held3 (fun w' => w'.cell? ⟨w.heap.size, 0, none⟩ = some (.int .i64 a) ∧ w'.cell? ⟨w.heap.size, 1, none⟩ = some (.int .i64 b) ∧ w'.cell? ⟨w.heap.size + 1, 0, none⟩ = some (.int .i64 c) ∧ w'.cell? ⟨w.heap.size + 1, 1, none⟩ = some (.int .i64 d) ∧ w'.cell? ⟨w2.heap.size, 0, none⟩ = some (.int .i64 (d1000 (a * d))) ∧ w'.cell? ⟨w2.heap.size, 1, none⟩ = some (.int .i64 (u1000 (b * c)))) (simp [go_sem, *])
      (first | (go_at_call 29; refine (refCeil_any _ _ ⟨?_, ?_⟩).mono ?_; (assumption); (assumption); rintro e w' ⟨rfl, rfl⟩))
    clear ws1 ws2
    go_wp2_with fail
    go_region_held3 (fun w' => w'.cell? ⟨w2.heap.size, 0, none⟩ = some (.int .i64 (d1000 (a * d))) ∧ w'.cell? ⟨w2.heap.size, 1, none⟩ = some (.int .i64 (u1000 (b * c)))) (simp [go_sem, *])
      (first | (go_at_call 28; refine (refFloor_any _ _ ⟨?_, ?_⟩).mono ?_; (assumption); (assumption); rintro e w' ⟨rfl, rfl⟩) | (go_at_call 29; refine (refCeil_any _ _ ⟨?_, ?_⟩).mono ?_; (assumption); (assumption); rintro e w' ⟨rfl, rfl⟩) | (go_at_call 30; refine (refIn_yes _ _ _ _ ?_).mono ?_; (assumption); rintro e w' ⟨rfl, rfl⟩) | (go_at_call 31; refine (of_any _ _ _).mono ?_; rintro e w' ⟨rfl, rfl⟩))
    go_wp2_with fail
    go_ret
    exact ⟨by first | rfl | (simp; omega), by repeat (first | (with_reducible assumption) | exact Grown.refl _ | (with_reducible refine Grown.drewN ?_ _) | (with_reducible refine Grown.drew ?_) | (with_reducible refine Grown.alloc ?_ _ _))⟩
  · go_enter Try.func8, Try.ntmps8
    go_wp2_with fail
    refine (head_any _).mono ?_
    rintro e w1 ⟨rfl, g1⟩
    obtain ⟨c1, f1, z1⟩ := laid g1
    try simp at z1
    have G1 : Grown w w1 := Grown.trans (by repeat (first | (with_reducible assumption) | exact Grown.refl _ | (with_reducible refine Grown.drewN ?_ _) | (with_reducible refine Grown.drew ?_) | (with_reducible refine Grown.alloc ?_ _ _))) g1
    clear g1
    have z1_0 : w.heap.size < w1.heap.size := by omega
    have z1_0a : w.heap.size < w1.heap.size + 1 := by omega
    have z1_0b : w.heap.size < w1.heap.size + 1 + 1 := by omega
    have z1_0c : w.heap.size < w1.heap.size + 1 + 1 + 1 := by omega
    have z1_0d : w.heap.size < w1.heap.size + 1 + 1 + 1 + 1 := by omega
    have z1_1 : w.heap.size + 1 < w1.heap.size := by omega
    have z1_1a : w.heap.size + 1 < w1.heap.size + 1 := by omega
    have z1_1b : w.heap.size + 1 < w1.heap.size + 1 + 1 := by omega
    have z1_1c : w.heap.size + 1 < w1.heap.size + 1 + 1 + 1 := by omega
    have z1_1d : w.heap.size + 1 < w1.heap.size + 1 + 1 + 1 + 1 := by omega
    go_wp2_with fail
    refine (A.out _).mono ?_
    rintro e w2 ⟨rfl, g2⟩
    obtain ⟨c2, f2, z2⟩ := laid g2
    try simp [size_drewN] at z2
    have d2 := laid2 (w0 := w1) (by repeat (first | (with_reducible assumption) | exact Grown.refl _ | (with_reducible refine Grown.drewN ?_ _) | (with_reducible refine Grown.drew ?_) | (with_reducible refine Grown.alloc ?_ _ _))) g2
    have G2 : Grown w w2 := Grown.trans (by repeat (first | (with_reducible assumption) | exact Grown.refl _ | (with_reducible refine Grown.drewN ?_ _) | (with_reducible refine Grown.drew ?_) | (with_reducible refine Grown.alloc ?_ _ _))) g2
    clear g2
    have z2_0 : w.heap.size < w2.heap.size := by omega
    have z2_0a : w.heap.size < w2.heap.size + 1 := by omega
    have z2_0b : w.heap.size < w2.heap.size + 1 + 1 := by omega
    have z2_0c : w.heap.size < w2.heap.size + 1 + 1 + 1 := by omega
    have z2_0d : w.heap.size < w2.heap.size + 1 + 1 + 1 + 1 := by omega
    have z2_1 : w.heap.size + 1 < w2.heap.size := by omega
    have z2_1a : w.heap.size + 1 < w2.heap.size + 1 := by omega
    have z2_1b : w.heap.size + 1 < w2.heap.size + 1 + 1 := by omega
    have z2_1c : w.heap.size + 1 < w2.heap.size + 1 + 1 + 1 := by omega
    have z2_1d : w.heap.size + 1 < w2.heap.size + 1 + 1 + 1 + 1 := by omega
    go_wp2_with fail
    refine (refValid_yes _ _ _ V1).mono ?_
    rintro e w3 ⟨rfl, g3⟩
    obtain ⟨c3, f3, z3⟩ := laid g3
    try simp at z3
    have d3 := laid2 (w0 := w2) (by repeat (first | (with_reducible assumption) | exact Grown.refl _ | (with_reducible refine Grown.drewN ?_ _) | (with_reducible refine Grown.drew ?_) | (with_reducible refine Grown.alloc ?_ _ _))) g3
    have G3 : Grown w w3 := Grown.trans (by repeat (first | (with_reducible assumption) | exact Grown.refl _ | (with_reducible refine Grown.drewN ?_ _) | (with_reducible refine Grown.drew ?_) | (with_reducible refine Grown.alloc ?_ _ _))) g3
    clear g3
    have z3_0 : w.heap.size < w3.heap.size := by omega
    have z3_0a : w.heap.size < w3.heap.size + 1 := by omega
    have z3_0b : w.heap.size < w3.heap.size + 1 + 1 := by omega
    have z3_0c : w.heap.size < w3.heap.size + 1 + 1 + 1 := by omega
    have z3_0d : w.heap.size < w3.heap.size + 1 + 1 + 1 + 1 := by omega
    have z3_1 : w.heap.size + 1 < w3.heap.size := by omega
    have z3_1a : w.heap.size + 1 < w3.heap.size + 1 := by omega
    have z3_1b : w.heap.size + 1 < w3.heap.size + 1 + 1 := by omega
    have z3_1c : w.heap.size + 1 < w3.heap.size + 1 + 1 + 1 := by omega
    have z3_1d : w.heap.size + 1 < w3.heap.size + 1 + 1 + 1 + 1 := by omega
    have z3_2 : w2.heap.size < w3.heap.size := by omega
    have z3_2a : w2.heap.size < w3.heap.size + 1 := by omega
    have z3_2b : w2.heap.size < w3.heap.size + 1 + 1 := by omega
    have z3_2c : w2.heap.size < w3.heap.size + 1 + 1 + 1 := by omega
    have z3_2d : w2.heap.size < w3.heap.size + 1 + 1 + 1 + 1 := by omega
    go_wp2_with fail
    refine (refParts_yes _ _ _ V2).mono ?_
    rintro e w4 ⟨rfl, g4⟩
    obtain ⟨c4, f4, z4⟩ := laid g4
    try simp [size_drewN] at z4
    have d4 := laid2 (w0 := w3) (by repeat (first | (with_reducible assumption) | exact Grown.refl _ | (with_reducible refine Grown.drewN ?_ _) | (with_reducible refine Grown.drew ?_) | (with_reducible refine Grown.alloc ?_ _ _))) g4
    have G4 : Grown w w4 := Grown.trans (by repeat (first | (with_reducible assumption) | exact Grown.refl _ | (with_reducible refine Grown.drewN ?_ _) | (with_reducible refine Grown.drew ?_) | (with_reducible refine Grown.alloc ?_ _ _))) g4
    clear g4
    have z4_0 : w.heap.size < w4.heap.size := by omega
    have z4_0a : w.heap.size < w4.heap.size + 1 := by omega
    have z4_0b : w.heap.size < w4.heap.size + 1 + 1 := by omega
    have z4_0c : w.heap.size < w4.heap.size + 1 + 1 + 1 := by omega
    have z4_0d : w.heap.size < w4.heap.size + 1 + 1 + 1 + 1 := by omega
    have z4_1 : w.heap.size + 1 < w4.heap.size := by omega
    have z4_1a : w.heap.size + 1 < w4.heap.size + 1 := by omega
    have z4_1b : w.heap.size + 1 < w4.heap.size + 1 + 1 := by omega
    have z4_1c : w.heap.size + 1 < w4.heap.size + 1 + 1 + 1 := by omega
    have z4_1d : w.heap.size + 1 < w4.heap.size + 1 + 1 + 1 + 1 := by omega
    have z4_2 : w2.heap.size < w4.heap.size := by omega
    have z4_2a : w2.heap.size < w4.heap.size + 1 := by omega
    have z4_2b : w2.heap.size < w4.heap.size + 1 + 1 := by omega
    have z4_2c : w2.heap.size < w4.heap.size + 1 + 1 + 1 := by omega
    have z4_2d : w2.heap.size < w4.heap.size + 1 + 1 + 1 + 1 := by omega
    go_wp2_with fail
    have q4_0_0 : w4.cell? ⟨w.heap.size, 0, none⟩ = some (.int .i64 a) := by simp [go_sem, *]
    have q4_0_1 : w4.cell? ⟨w.heap.size, 1, none⟩ = some (.int .i64 b) := by simp [go_sem, *]
    have q4_1_0 : w4.cell? ⟨w.heap.size + 1, 0, none⟩ = some (.int .i64 c) := by simp [go_sem, *]
    have q4_1_1 : w4.cell? ⟨w.heap.size + 1, 1, none⟩ = some (.int .i64 d) := by simp [go_sem, *]
    have q4_2_0 : w4.cell? ⟨w2.heap.size, 0, none⟩ = some (.int .i64 (d1000 (a * c))) := by simp [go_sem, *]
    have q4_2_1 : w4.cell? ⟨w2.heap.size, 1, none⟩ = some (.int .i64 (u1000 (b * d))) := by simp [go_sem, *]
    clear c1 f1 c2 f2 c3 f3 c4 f4 d2 d3 d4
    clear z1 G1 z2 G2 z3 G3
    have ws := WS.out
    go_region_held3 (fun w' => w'.cell? ⟨w.heap.size, 0, none⟩ = some (.int .i64 a) ∧ w'.cell? ⟨w.heap.size, 1, none⟩ = some (.int .i64 b) ∧ w'.cell? ⟨w.heap.size + 1, 0, none⟩ = some (.int .i64 c) ∧ w'.cell? ⟨w.heap.size + 1, 1, none⟩ = some (.int .i64 d) ∧ w'.cell? ⟨w2.heap.size, 0, none⟩ = some (.int .i64 (d1000 (a * c))) ∧ w'.cell? ⟨w2.heap.size, 1, none⟩ = some (.int .i64 (u1000 (b * d)))) (simp [go_sem, *])
      (first | (go_at_call 25; refine (in_any _ _ _ _ ?_ ?_).mono ?_; (assumption); (exact ⟨by assumption, by assumption⟩); rintro e w' ⟨rfl, n', rfl⟩))
    clear ws
    go_wp2_with fail
    have ws1 := W1.out
    have ws2 := W2.out
    go_region_held3 (fun w' => w'.cell? ⟨w.heap.size, 0, none⟩ = some (.int .i64 a) ∧ w'.cell? ⟨w.heap.size, 1, none⟩ = some (.int .i64 b) ∧ w'.cell? ⟨w.heap.size + 1, 0, none⟩ = some (.int .i64 c) ∧ w'.cell? ⟨w.heap.size + 1, 1, none⟩ = some (.int .i64 d) ∧ w'.cell? ⟨w2.heap.size, 0, none⟩ = some (.int .i64 (d1000 (a * c))) ∧ w'.cell? ⟨w2.heap.size, 1, none⟩ = some (.int .i64 (u1000 (b * d)))) (simp [go_sem, *])
      (first | (go_at_call 28; refine (refFloor_any _ _ ⟨?_, ?_⟩).mono ?_; (assumption); (assumption); rintro e w' ⟨rfl, rfl⟩))
    clear ws1 ws2
    go_wp2_with fail
    have ws1 := W3.out
    have ws2 := W4.out
    go_region_held3 (fun w' => w'.cell? ⟨w.heap.size, 0, none⟩ = some (.int .i64 a) ∧ w'.cell? ⟨w.heap.size, 1, none⟩ = some (.int .i64 b) ∧ w'.cell? ⟨w.heap.size + 1, 0, none⟩ = some (.int .i64 c) ∧ w'.cell? ⟨w.heap.size + 1, 1, none⟩ = some (.int .i64 d) ∧ w'.cell? ⟨w2.heap.size, 0, none⟩ = some (.int .i64 (d1000 (a * c))) ∧ w'.cell? ⟨w2.heap.size, 1, none⟩ = some (.int .i64 (u1000 (b * d)))) (simp [go_sem, *])
      (first | (go_at_call 29; refine (refCeil_any _ _ ⟨?_, ?_⟩).mono ?_; (assumption); (assumption); rintro e w' ⟨rfl, rfl⟩))
    clear ws1 ws2
    go_wp2_with fail
    go_region_held3 (fun w' => w'.cell? ⟨w2.heap.size, 0, none⟩ = some (.int .i64 (d1000 (a * c))) ∧ w'.cell? ⟨w2.heap.size, 1, none⟩ = some (.int .i64 (u1000 (b * d)))) (simp [go_sem, *])
      (first | (go_at_call 28; refine (refFloor_any _ _ ⟨?_, ?_⟩).mono ?_; (assumption); (assumption); rintro e w' ⟨rfl, rfl⟩) | (go_at_call 29; refine (refCeil_any _ _ ⟨?_, ?_⟩).mono ?_; (assumption); (assumption); rintro e w' ⟨rfl, rfl⟩) | (go_at_call 30; refine (refIn_yes _ _ _ _ ?_).mono ?_; (assumption); rintro e w' ⟨rfl, rfl⟩) | (go_at_call 31; refine (of_any _ _ _).mono ?_; rintro e w' ⟨rfl, rfl⟩))
    go_wp2_with fail
    go_ret
    exact ⟨by first | rfl | (simp; omega), by repeat (first | (with_reducible assumption) | exact Grown.refl _ | (with_reducible refine Grown.drewN ?_ _) | (with_reducible refine Grown.drew ?_) | (with_reducible refine Grown.alloc ?_ _ _))⟩
  · go_enter Try.func8, Try.ntmps8
    go_wp2_with fail
    refine (head_any _).mono ?_
    rintro e w1 ⟨rfl, g1⟩
    obtain ⟨c1, f1, z1⟩ := laid g1
    try simp at z1
    have G1 : Grown w w1 := Grown.trans (by repeat (first | (with_reducible assumption) | exact Grown.refl _ | (with_reducible refine Grown.drewN ?_ _) | (with_reducible refine Grown.drew ?_) | (with_reducible refine Grown.alloc ?_ _ _))) g1
    clear g1
    have z1_0 : w.heap.size < w1.heap.size := by omega
    have z1_0a : w.heap.size < w1.heap.size + 1 := by omega
    have z1_0b : w.heap.size < w1.heap.size + 1 + 1 := by omega
    have z1_0c : w.heap.size < w1.heap.size + 1 + 1 + 1 := by omega
    have z1_0d : w.heap.size < w1.heap.size + 1 + 1 + 1 + 1 := by omega
    have z1_1 : w.heap.size + 1 < w1.heap.size := by omega
    have z1_1a : w.heap.size + 1 < w1.heap.size + 1 := by omega
    have z1_1b : w.heap.size + 1 < w1.heap.size + 1 + 1 := by omega
    have z1_1c : w.heap.size + 1 < w1.heap.size + 1 + 1 + 1 := by omega
    have z1_1d : w.heap.size + 1 < w1.heap.size + 1 + 1 + 1 + 1 := by omega
    go_wp2_with fail
    refine (A.out _).mono ?_
    rintro e w2 ⟨rfl, g2⟩
    obtain ⟨c2, f2, z2⟩ := laid g2
    try simp [size_drewN] at z2
    have d2 := laid2 (w0 := w1) (by repeat (first | (with_reducible assumption) | exact Grown.refl _ | (with_reducible refine Grown.drewN ?_ _) | (with_reducible refine Grown.drew ?_) | (with_reducible refine Grown.alloc ?_ _ _))) g2
    have G2 : Grown w w2 := Grown.trans (by repeat (first | (with_reducible assumption) | exact Grown.refl _ | (with_reducible refine Grown.drewN ?_ _) | (with_reducible refine Grown.drew ?_) | (with_reducible refine Grown.alloc ?_ _ _))) g2
    clear g2
    have z2_0 : w.heap.size < w2.heap.size := by omega
    have z2_0a : w.heap.size < w2.heap.size + 1 := by omega
    have z2_0b : w.heap.size < w2.heap.size + 1 + 1 := by omega
    have z2_0c : w.heap.size < w2.heap.size + 1 + 1 + 1 := by omega
    have z2_0d : w.heap.size < w2.heap.size + 1 + 1 + 1 + 1 := by omega
    have z2_1 : w.heap.size + 1 < w2.heap.size := by omega
    have z2_1a : w.heap.size + 1 < w2.heap.size + 1 := by omega
    have z2_1b : w.heap.size + 1 < w2.heap.size + 1 + 1 := by omega
    have z2_1c : w.heap.size + 1 < w2.heap.size + 1 + 1 + 1 := by omega
    have z2_1d : w.heap.size + 1 < w2.heap.size + 1 + 1 + 1 + 1 := by omega
    go_wp2_with fail
    refine (refValid_yes _ _ _ V1).mono ?_
    rintro e w3 ⟨rfl, g3⟩
    obtain ⟨c3, f3, z3⟩ := laid g3
    try simp at z3
    have d3 := laid2 (w0 := w2) (by repeat (first | (with_reducible assumption) | exact Grown.refl _ | (with_reducible refine Grown.drewN ?_ _) | (with_reducible refine Grown.drew ?_) | (with_reducible refine Grown.alloc ?_ _ _))) g3
    have G3 : Grown w w3 := Grown.trans (by repeat (first | (with_reducible assumption) | exact Grown.refl _ | (with_reducible refine Grown.drewN ?_ _) | (with_reducible refine Grown.drew ?_) | (with_reducible refine Grown.alloc ?_ _ _))) g3
    clear g3
    have z3_0 : w.heap.size < w3.heap.size := by omega
    have z3_0a : w.heap.size < w3.heap.size + 1 := by omega
    have z3_0b : w.heap.size < w3.heap.size + 1 + 1 := by omega
    have z3_0c : w.heap.size < w3.heap.size + 1 + 1 + 1 := by omega
    have z3_0d : w.heap.size < w3.heap.size + 1 + 1 + 1 + 1 := by omega
    have z3_1 : w.heap.size + 1 < w3.heap.size := by omega
    have z3_1a : w.heap.size + 1 < w3.heap.size + 1 := by omega
    have z3_1b : w.heap.size + 1 < w3.heap.size + 1 + 1 := by omega
    have z3_1c : w.heap.size + 1 < w3.heap.size + 1 + 1 + 1 := by omega
    have z3_1d : w.heap.size + 1 < w3.heap.size + 1 + 1 + 1 + 1 := by omega
    have z3_2 : w2.heap.size < w3.heap.size := by omega
    have z3_2a : w2.heap.size < w3.heap.size + 1 := by omega
    have z3_2b : w2.heap.size < w3.heap.size + 1 + 1 := by omega
    have z3_2c : w2.heap.size < w3.heap.size + 1 + 1 + 1 := by omega
    have z3_2d : w2.heap.size < w3.heap.size + 1 + 1 + 1 + 1 := by omega
    go_wp2_with fail
    refine (refParts_yes _ _ _ V2).mono ?_
    rintro e w4 ⟨rfl, g4⟩
    obtain ⟨c4, f4, z4⟩ := laid g4
    try simp [size_drewN] at z4
    have d4 := laid2 (w0 := w3) (by repeat (first | (with_reducible assumption) | exact Grown.refl _ | (with_reducible refine Grown.drewN ?_ _) | (with_reducible refine Grown.drew ?_) | (with_reducible refine Grown.alloc ?_ _ _))) g4
    have G4 : Grown w w4 := Grown.trans (by repeat (first | (with_reducible assumption) | exact Grown.refl _ | (with_reducible refine Grown.drewN ?_ _) | (with_reducible refine Grown.drew ?_) | (with_reducible refine Grown.alloc ?_ _ _))) g4
    clear g4
    have z4_0 : w.heap.size < w4.heap.size := by omega
    have z4_0a : w.heap.size < w4.heap.size + 1 := by omega
    have z4_0b : w.heap.size < w4.heap.size + 1 + 1 := by omega
    have z4_0c : w.heap.size < w4.heap.size + 1 + 1 + 1 := by omega
    have z4_0d : w.heap.size < w4.heap.size + 1 + 1 + 1 + 1 := by omega
    have z4_1 : w.heap.size + 1 < w4.heap.size := by omega
    have z4_1a : w.heap.size + 1 < w4.heap.size + 1 := by omega
    have z4_1b : w.heap.size + 1 < w4.heap.size + 1 + 1 := by omega
    have z4_1c : w.heap.size + 1 < w4.heap.size + 1 + 1 + 1 := by omega
    have z4_1d : w.heap.size + 1 < w4.heap.size + 1 + 1 + 1 + 1 := by omega
    have z4_2 : w2.heap.size < w4.heap.size := by omega
    have z4_2a : w2.heap.size < w4.heap.size + 1 := by omega
    have z4_2b : w2.heap.size < w4.heap.size + 1 + 1 := by omega
    have z4_2c : w2.heap.size < w4.heap.size + 1 + 1 + 1 := by omega
    have z4_2d : w2.heap.size < w4.heap.size + 1 + 1 + 1 + 1 := by omega
    go_wp2_with fail
    have q4_0_0 : w4.cell? ⟨w.heap.size, 0, none⟩ = some (.int .i64 a) := by simp [go_sem, *]
    have q4_0_1 : w4.cell? ⟨w.heap.size, 1, none⟩ = some (.int .i64 b) := by simp [go_sem, *]
    have q4_1_0 : w4.cell? ⟨w.heap.size + 1, 0, none⟩ = some (.int .i64 c) := by simp [go_sem, *]
    have q4_1_1 : w4.cell? ⟨w.heap.size + 1, 1, none⟩ = some (.int .i64 d) := by simp [go_sem, *]
    have q4_2_0 : w4.cell? ⟨w2.heap.size, 0, none⟩ = some (.int .i64 (d1000 (a * c))) := by simp [go_sem, *]
    have q4_2_1 : w4.cell? ⟨w2.heap.size, 1, none⟩ = some (.int .i64 (u1000 (b * c))) := by simp [go_sem, *]
    clear c1 f1 c2 f2 c3 f3 c4 f4 d2 d3 d4
    clear z1 G1 z2 G2 z3 G3
    have ws := WS.out
    go_region_held3 (fun w' => w'.cell? ⟨w.heap.size, 0, none⟩ = some (.int .i64 a) ∧ w'.cell? ⟨w.heap.size, 1, none⟩ = some (.int .i64 b) ∧ w'.cell? ⟨w.heap.size + 1, 0, none⟩ = some (.int .i64 c) ∧ w'.cell? ⟨w.heap.size + 1, 1, none⟩ = some (.int .i64 d) ∧ w'.cell? ⟨w2.heap.size, 0, none⟩ = some (.int .i64 (d1000 (a * c))) ∧ w'.cell? ⟨w2.heap.size, 1, none⟩ = some (.int .i64 (u1000 (b * c)))) (simp [go_sem, *])
      (first | (go_at_call 25; refine (in_any _ _ _ _ ?_ ?_).mono ?_; (assumption); (exact ⟨by assumption, by assumption⟩); rintro e w' ⟨rfl, n', rfl⟩))
    clear ws
    go_wp2_with fail
    have ws1 := W1.out
    have ws2 := W2.out
    go_region_held3 (fun w' => w'.cell? ⟨w.heap.size, 0, none⟩ = some (.int .i64 a) ∧ w'.cell? ⟨w.heap.size, 1, none⟩ = some (.int .i64 b) ∧ w'.cell? ⟨w.heap.size + 1, 0, none⟩ = some (.int .i64 c) ∧ w'.cell? ⟨w.heap.size + 1, 1, none⟩ = some (.int .i64 d) ∧ w'.cell? ⟨w2.heap.size, 0, none⟩ = some (.int .i64 (d1000 (a * c))) ∧ w'.cell? ⟨w2.heap.size, 1, none⟩ = some (.int .i64 (u1000 (b * c)))) (simp [go_sem, *])
      (first | (go_at_call 28; refine (refFloor_any _ _ ⟨?_, ?_⟩).mono ?_; (assumption); (assumption); rintro e w' ⟨rfl, rfl⟩))
    clear ws1 ws2
    go_wp2_with fail
    have ws1 := W3.out
    have ws2 := W4.out
    go_region_held3 (fun w' => w'.cell? ⟨w.heap.size, 0, none⟩ = some (.int .i64 a) ∧ w'.cell? ⟨w.heap.size, 1, none⟩ = some (.int .i64 b) ∧ w'.cell? ⟨w.heap.size + 1, 0, none⟩ = some (.int .i64 c) ∧ w'.cell? ⟨w.heap.size + 1, 1, none⟩ = some (.int .i64 d) ∧ w'.cell? ⟨w2.heap.size, 0, none⟩ = some (.int .i64 (d1000 (a * c))) ∧ w'.cell? ⟨w2.heap.size, 1, none⟩ = some (.int .i64 (u1000 (b * c)))) (simp [go_sem, *])
      (first | (go_at_call 29; refine (refCeil_any _ _ ⟨?_, ?_⟩).mono ?_; (assumption); (assumption); rintro e w' ⟨rfl, rfl⟩))
    clear ws1 ws2
    go_wp2_with fail
    go_region_held3 (fun w' => w'.cell? ⟨w2.heap.size, 0, none⟩ = some (.int .i64 (d1000 (a * c))) ∧ w'.cell? ⟨w2.heap.size, 1, none⟩ = some (.int .i64 (u1000 (b * c)))) (simp [go_sem, *])
      (first | (go_at_call 28; refine (refFloor_any _ _ ⟨?_, ?_⟩).mono ?_; (assumption); (assumption); rintro e w' ⟨rfl, rfl⟩) | (go_at_call 29; refine (refCeil_any _ _ ⟨?_, ?_⟩).mono ?_; (assumption); (assumption); rintro e w' ⟨rfl, rfl⟩) | (go_at_call 30; refine (refIn_yes _ _ _ _ ?_).mono ?_; (assumption); rintro e w' ⟨rfl, rfl⟩) | (go_at_call 31; refine (of_any _ _ _).mono ?_; rintro e w' ⟨rfl, rfl⟩))
    go_wp2_with fail
    go_ret
    exact ⟨by first | rfl | (simp; omega), by repeat (first | (with_reducible assumption) | exact Grown.refl _ | (with_reducible refine Grown.drewN ?_ _) | (with_reducible refine Grown.drew ?_) | (with_reducible refine Grown.alloc ?_ _ _))⟩

set_option maxRecDepth 100000 in
set_option maxHeartbeats 4000000 in
theorem law_times (a b c d i k : Int) (w : World) (hi : 0 ≤ i ∧ i ≤ 18446744073709551615) (hk : 0 ≤ k ∧ k ≤ 18446744073709551615) : Calls Try.prog 8 #[.agg #[.int .i64 a, .int .i64 b], .agg #[.int .i64 c, .int .i64 d], .int .u64 i, .int .u64 k] w fun e w' => e = .returned (.bool true) ∧ Grown w w' := by
  by_cases h : Vd a b ∧ Pa c d
  · obtain ⟨V1, V2⟩ := h
    by_cases hv : Vd (d1000 (mn (a * c) (a * d))) (u1000 (mx (b * c) (b * d)))
    · exact times_in a b c d i k _ _ w hi hk V1 V2 rfl rfl hv
    · have A := Lib.hid (spTimes_range a b c d · ⟨V1, V2⟩ hv)
      have W1 := Lib.hid V1
      have W2 := Lib.hid V2
      clear hv V1 V2 hi hk
      go_enter Try.func8, Try.ntmps8
      go_wp2_with fail
      refine (head_any _).mono ?_
      rintro e w1 ⟨rfl, g1⟩
      obtain ⟨c1, f1, z1⟩ := laid g1
      try simp at z1
      have G1 : Grown w w1 := Grown.trans (by repeat (first | (with_reducible assumption) | exact Grown.refl _ | (with_reducible refine Grown.drewN ?_ _) | (with_reducible refine Grown.drew ?_) | (with_reducible refine Grown.alloc ?_ _ _))) g1
      clear g1
      have z1_0 : w.heap.size < w1.heap.size := by omega
      have z1_0a : w.heap.size < w1.heap.size + 1 := by omega
      have z1_0b : w.heap.size < w1.heap.size + 1 + 1 := by omega
      have z1_0c : w.heap.size < w1.heap.size + 1 + 1 + 1 := by omega
      have z1_0d : w.heap.size < w1.heap.size + 1 + 1 + 1 + 1 := by omega
      have z1_1 : w.heap.size + 1 < w1.heap.size := by omega
      have z1_1a : w.heap.size + 1 < w1.heap.size + 1 := by omega
      have z1_1b : w.heap.size + 1 < w1.heap.size + 1 + 1 := by omega
      have z1_1c : w.heap.size + 1 < w1.heap.size + 1 + 1 + 1 := by omega
      have z1_1d : w.heap.size + 1 < w1.heap.size + 1 + 1 + 1 + 1 := by omega
      go_wp2_with fail
      refine (A.out _).mono ?_
      rintro e w2 ⟨rfl, g2⟩
      obtain ⟨c2, f2, z2⟩ := laid g2
      try simp [size_drewN] at z2
      have d2 := laid2 (w0 := w1) (by repeat (first | (with_reducible assumption) | exact Grown.refl _ | (with_reducible refine Grown.drewN ?_ _) | (with_reducible refine Grown.drew ?_) | (with_reducible refine Grown.alloc ?_ _ _))) g2
      have G2 : Grown w w2 := Grown.trans (by repeat (first | (with_reducible assumption) | exact Grown.refl _ | (with_reducible refine Grown.drewN ?_ _) | (with_reducible refine Grown.drew ?_) | (with_reducible refine Grown.alloc ?_ _ _))) g2
      clear g2
      have z2_0 : w.heap.size < w2.heap.size := by omega
      have z2_0a : w.heap.size < w2.heap.size + 1 := by omega
      have z2_0b : w.heap.size < w2.heap.size + 1 + 1 := by omega
      have z2_0c : w.heap.size < w2.heap.size + 1 + 1 + 1 := by omega
      have z2_0d : w.heap.size < w2.heap.size + 1 + 1 + 1 + 1 := by omega
      have z2_1 : w.heap.size + 1 < w2.heap.size := by omega
      have z2_1a : w.heap.size + 1 < w2.heap.size + 1 := by omega
      have z2_1b : w.heap.size + 1 < w2.heap.size + 1 + 1 := by omega
      have z2_1c : w.heap.size + 1 < w2.heap.size + 1 + 1 + 1 := by omega
      have z2_1d : w.heap.size + 1 < w2.heap.size + 1 + 1 + 1 + 1 := by omega
      go_wp2_with fail
      refine (refValid_yes _ _ _ W1.out).mono ?_
      rintro e w3 ⟨rfl, g3⟩
      obtain ⟨c3, f3, z3⟩ := laid g3
      try simp at z3
      have d3 := laid2 (w0 := w2) (by repeat (first | (with_reducible assumption) | exact Grown.refl _ | (with_reducible refine Grown.drewN ?_ _) | (with_reducible refine Grown.drew ?_) | (with_reducible refine Grown.alloc ?_ _ _))) g3
      have G3 : Grown w w3 := Grown.trans (by repeat (first | (with_reducible assumption) | exact Grown.refl _ | (with_reducible refine Grown.drewN ?_ _) | (with_reducible refine Grown.drew ?_) | (with_reducible refine Grown.alloc ?_ _ _))) g3
      clear g3
      have z3_0 : w.heap.size < w3.heap.size := by omega
      have z3_0a : w.heap.size < w3.heap.size + 1 := by omega
      have z3_0b : w.heap.size < w3.heap.size + 1 + 1 := by omega
      have z3_0c : w.heap.size < w3.heap.size + 1 + 1 + 1 := by omega
      have z3_0d : w.heap.size < w3.heap.size + 1 + 1 + 1 + 1 := by omega
      have z3_1 : w.heap.size + 1 < w3.heap.size := by omega
      have z3_1a : w.heap.size + 1 < w3.heap.size + 1 := by omega
      have z3_1b : w.heap.size + 1 < w3.heap.size + 1 + 1 := by omega
      have z3_1c : w.heap.size + 1 < w3.heap.size + 1 + 1 + 1 := by omega
      have z3_1d : w.heap.size + 1 < w3.heap.size + 1 + 1 + 1 + 1 := by omega
      have z3_2 : w2.heap.size < w3.heap.size := by omega
      have z3_2a : w2.heap.size < w3.heap.size + 1 := by omega
      have z3_2b : w2.heap.size < w3.heap.size + 1 + 1 := by omega
      have z3_2c : w2.heap.size < w3.heap.size + 1 + 1 + 1 := by omega
      have z3_2d : w2.heap.size < w3.heap.size + 1 + 1 + 1 + 1 := by omega
      go_wp2_with fail
      refine (refParts_yes _ _ _ W2.out).mono ?_
      rintro e w4 ⟨rfl, g4⟩
      obtain ⟨c4, f4, z4⟩ := laid g4
      try simp [size_drewN] at z4
      have d4 := laid2 (w0 := w3) (by repeat (first | (with_reducible assumption) | exact Grown.refl _ | (with_reducible refine Grown.drewN ?_ _) | (with_reducible refine Grown.drew ?_) | (with_reducible refine Grown.alloc ?_ _ _))) g4
      have G4 : Grown w w4 := Grown.trans (by repeat (first | (with_reducible assumption) | exact Grown.refl _ | (with_reducible refine Grown.drewN ?_ _) | (with_reducible refine Grown.drew ?_) | (with_reducible refine Grown.alloc ?_ _ _))) g4
      clear g4
      have z4_0 : w.heap.size < w4.heap.size := by omega
      have z4_0a : w.heap.size < w4.heap.size + 1 := by omega
      have z4_0b : w.heap.size < w4.heap.size + 1 + 1 := by omega
      have z4_0c : w.heap.size < w4.heap.size + 1 + 1 + 1 := by omega
      have z4_0d : w.heap.size < w4.heap.size + 1 + 1 + 1 + 1 := by omega
      have z4_1 : w.heap.size + 1 < w4.heap.size := by omega
      have z4_1a : w.heap.size + 1 < w4.heap.size + 1 := by omega
      have z4_1b : w.heap.size + 1 < w4.heap.size + 1 + 1 := by omega
      have z4_1c : w.heap.size + 1 < w4.heap.size + 1 + 1 + 1 := by omega
      have z4_1d : w.heap.size + 1 < w4.heap.size + 1 + 1 + 1 + 1 := by omega
      have z4_2 : w2.heap.size < w4.heap.size := by omega
      have z4_2a : w2.heap.size < w4.heap.size + 1 := by omega
      have z4_2b : w2.heap.size < w4.heap.size + 1 + 1 := by omega
      have z4_2c : w2.heap.size < w4.heap.size + 1 + 1 + 1 := by omega
      have z4_2d : w2.heap.size < w4.heap.size + 1 + 1 + 1 + 1 := by omega
      go_wp2_with fail
      go_ret
      exact ⟨by first | rfl | (simp; omega), by repeat (first | (with_reducible assumption) | exact Grown.refl _ | (with_reducible refine Grown.drewN ?_ _) | (with_reducible refine Grown.drew ?_) | (with_reducible refine Grown.alloc ?_ _ _))⟩

  · have A := Lib.hid (spTimes_bad a b c d · h)
    clear hi hk
    by_cases h1 : Vd a b
    · have V1 := Lib.hid h1
      have V2 : Hid (¬ Pa c d) := Lib.hid (fun k => h ⟨h1, k⟩)
      clear h h1
      go_enter Try.func8, Try.ntmps8
      go_wp2_with fail
      refine (head_any _).mono ?_
      rintro e w1 ⟨rfl, g1⟩
      obtain ⟨c1, f1, z1⟩ := laid g1
      try simp at z1
      have G1 : Grown w w1 := Grown.trans (by repeat (first | (with_reducible assumption) | exact Grown.refl _ | (with_reducible refine Grown.drewN ?_ _) | (with_reducible refine Grown.drew ?_) | (with_reducible refine Grown.alloc ?_ _ _))) g1
      clear g1
      have z1_0 : w.heap.size < w1.heap.size := by omega
      have z1_0a : w.heap.size < w1.heap.size + 1 := by omega
      have z1_0b : w.heap.size < w1.heap.size + 1 + 1 := by omega
      have z1_0c : w.heap.size < w1.heap.size + 1 + 1 + 1 := by omega
      have z1_0d : w.heap.size < w1.heap.size + 1 + 1 + 1 + 1 := by omega
      have z1_1 : w.heap.size + 1 < w1.heap.size := by omega
      have z1_1a : w.heap.size + 1 < w1.heap.size + 1 := by omega
      have z1_1b : w.heap.size + 1 < w1.heap.size + 1 + 1 := by omega
      have z1_1c : w.heap.size + 1 < w1.heap.size + 1 + 1 + 1 := by omega
      have z1_1d : w.heap.size + 1 < w1.heap.size + 1 + 1 + 1 + 1 := by omega
      go_wp2_with fail
      refine (A.out _).mono ?_
      rintro e w2 ⟨rfl, g2⟩
      obtain ⟨c2, f2, z2⟩ := laid g2
      try simp [size_drewN] at z2
      have d2 := laid2 (w0 := w1) (by repeat (first | (with_reducible assumption) | exact Grown.refl _ | (with_reducible refine Grown.drewN ?_ _) | (with_reducible refine Grown.drew ?_) | (with_reducible refine Grown.alloc ?_ _ _))) g2
      have G2 : Grown w w2 := Grown.trans (by repeat (first | (with_reducible assumption) | exact Grown.refl _ | (with_reducible refine Grown.drewN ?_ _) | (with_reducible refine Grown.drew ?_) | (with_reducible refine Grown.alloc ?_ _ _))) g2
      clear g2
      have z2_0 : w.heap.size < w2.heap.size := by omega
      have z2_0a : w.heap.size < w2.heap.size + 1 := by omega
      have z2_0b : w.heap.size < w2.heap.size + 1 + 1 := by omega
      have z2_0c : w.heap.size < w2.heap.size + 1 + 1 + 1 := by omega
      have z2_0d : w.heap.size < w2.heap.size + 1 + 1 + 1 + 1 := by omega
      have z2_1 : w.heap.size + 1 < w2.heap.size := by omega
      have z2_1a : w.heap.size + 1 < w2.heap.size + 1 := by omega
      have z2_1b : w.heap.size + 1 < w2.heap.size + 1 + 1 := by omega
      have z2_1c : w.heap.size + 1 < w2.heap.size + 1 + 1 + 1 := by omega
      have z2_1d : w.heap.size + 1 < w2.heap.size + 1 + 1 + 1 + 1 := by omega
      go_wp2_with fail
      refine (refValid_yes _ _ _ V1.out).mono ?_
      rintro e w3 ⟨rfl, g3⟩
      obtain ⟨c3, f3, z3⟩ := laid g3
      try simp at z3
      have d3 := laid2 (w0 := w2) (by repeat (first | (with_reducible assumption) | exact Grown.refl _ | (with_reducible refine Grown.drewN ?_ _) | (with_reducible refine Grown.drew ?_) | (with_reducible refine Grown.alloc ?_ _ _))) g3
      have G3 : Grown w w3 := Grown.trans (by repeat (first | (with_reducible assumption) | exact Grown.refl _ | (with_reducible refine Grown.drewN ?_ _) | (with_reducible refine Grown.drew ?_) | (with_reducible refine Grown.alloc ?_ _ _))) g3
      clear g3
      have z3_0 : w.heap.size < w3.heap.size := by omega
      have z3_0a : w.heap.size < w3.heap.size + 1 := by omega
      have z3_0b : w.heap.size < w3.heap.size + 1 + 1 := by omega
      have z3_0c : w.heap.size < w3.heap.size + 1 + 1 + 1 := by omega
      have z3_0d : w.heap.size < w3.heap.size + 1 + 1 + 1 + 1 := by omega
      have z3_1 : w.heap.size + 1 < w3.heap.size := by omega
      have z3_1a : w.heap.size + 1 < w3.heap.size + 1 := by omega
      have z3_1b : w.heap.size + 1 < w3.heap.size + 1 + 1 := by omega
      have z3_1c : w.heap.size + 1 < w3.heap.size + 1 + 1 + 1 := by omega
      have z3_1d : w.heap.size + 1 < w3.heap.size + 1 + 1 + 1 + 1 := by omega
      have z3_2 : w2.heap.size < w3.heap.size := by omega
      have z3_2a : w2.heap.size < w3.heap.size + 1 := by omega
      have z3_2b : w2.heap.size < w3.heap.size + 1 + 1 := by omega
      have z3_2c : w2.heap.size < w3.heap.size + 1 + 1 + 1 := by omega
      have z3_2d : w2.heap.size < w3.heap.size + 1 + 1 + 1 + 1 := by omega
      go_wp2_with fail
      refine (refParts_no _ _ _ V2.out).mono ?_
      rintro e w4 ⟨rfl, g4⟩
      obtain ⟨c4, f4, z4⟩ := laid g4
      try simp [size_drewN] at z4
      have d4 := laid2 (w0 := w3) (by repeat (first | (with_reducible assumption) | exact Grown.refl _ | (with_reducible refine Grown.drewN ?_ _) | (with_reducible refine Grown.drew ?_) | (with_reducible refine Grown.alloc ?_ _ _))) g4
      have G4 : Grown w w4 := Grown.trans (by repeat (first | (with_reducible assumption) | exact Grown.refl _ | (with_reducible refine Grown.drewN ?_ _) | (with_reducible refine Grown.drew ?_) | (with_reducible refine Grown.alloc ?_ _ _))) g4
      clear g4
      have z4_0 : w.heap.size < w4.heap.size := by omega
      have z4_0a : w.heap.size < w4.heap.size + 1 := by omega
      have z4_0b : w.heap.size < w4.heap.size + 1 + 1 := by omega
      have z4_0c : w.heap.size < w4.heap.size + 1 + 1 + 1 := by omega
      have z4_0d : w.heap.size < w4.heap.size + 1 + 1 + 1 + 1 := by omega
      have z4_1 : w.heap.size + 1 < w4.heap.size := by omega
      have z4_1a : w.heap.size + 1 < w4.heap.size + 1 := by omega
      have z4_1b : w.heap.size + 1 < w4.heap.size + 1 + 1 := by omega
      have z4_1c : w.heap.size + 1 < w4.heap.size + 1 + 1 + 1 := by omega
      have z4_1d : w.heap.size + 1 < w4.heap.size + 1 + 1 + 1 + 1 := by omega
      have z4_2 : w2.heap.size < w4.heap.size := by omega
      have z4_2a : w2.heap.size < w4.heap.size + 1 := by omega
      have z4_2b : w2.heap.size < w4.heap.size + 1 + 1 := by omega
      have z4_2c : w2.heap.size < w4.heap.size + 1 + 1 + 1 := by omega
      have z4_2d : w2.heap.size < w4.heap.size + 1 + 1 + 1 + 1 := by omega
      go_wp2_with fail
      go_ret
      exact ⟨by first | rfl | (simp; omega), by repeat (first | (with_reducible assumption) | exact Grown.refl _ | (with_reducible refine Grown.drewN ?_ _) | (with_reducible refine Grown.drew ?_) | (with_reducible refine Grown.alloc ?_ _ _))⟩

    · have V1 := Lib.hid h1
      clear h h1
      go_enter Try.func8, Try.ntmps8
      go_wp2_with fail
      refine (head_any _).mono ?_
      rintro e w1 ⟨rfl, g1⟩
      obtain ⟨c1, f1, z1⟩ := laid g1
      try simp at z1
      have G1 : Grown w w1 := Grown.trans (by repeat (first | (with_reducible assumption) | exact Grown.refl _ | (with_reducible refine Grown.drewN ?_ _) | (with_reducible refine Grown.drew ?_) | (with_reducible refine Grown.alloc ?_ _ _))) g1
      clear g1
      have z1_0 : w.heap.size < w1.heap.size := by omega
      have z1_0a : w.heap.size < w1.heap.size + 1 := by omega
      have z1_0b : w.heap.size < w1.heap.size + 1 + 1 := by omega
      have z1_0c : w.heap.size < w1.heap.size + 1 + 1 + 1 := by omega
      have z1_0d : w.heap.size < w1.heap.size + 1 + 1 + 1 + 1 := by omega
      have z1_1 : w.heap.size + 1 < w1.heap.size := by omega
      have z1_1a : w.heap.size + 1 < w1.heap.size + 1 := by omega
      have z1_1b : w.heap.size + 1 < w1.heap.size + 1 + 1 := by omega
      have z1_1c : w.heap.size + 1 < w1.heap.size + 1 + 1 + 1 := by omega
      have z1_1d : w.heap.size + 1 < w1.heap.size + 1 + 1 + 1 + 1 := by omega
      go_wp2_with fail
      refine (A.out _).mono ?_
      rintro e w2 ⟨rfl, g2⟩
      obtain ⟨c2, f2, z2⟩ := laid g2
      try simp [size_drewN] at z2
      have d2 := laid2 (w0 := w1) (by repeat (first | (with_reducible assumption) | exact Grown.refl _ | (with_reducible refine Grown.drewN ?_ _) | (with_reducible refine Grown.drew ?_) | (with_reducible refine Grown.alloc ?_ _ _))) g2
      have G2 : Grown w w2 := Grown.trans (by repeat (first | (with_reducible assumption) | exact Grown.refl _ | (with_reducible refine Grown.drewN ?_ _) | (with_reducible refine Grown.drew ?_) | (with_reducible refine Grown.alloc ?_ _ _))) g2
      clear g2
      have z2_0 : w.heap.size < w2.heap.size := by omega
      have z2_0a : w.heap.size < w2.heap.size + 1 := by omega
      have z2_0b : w.heap.size < w2.heap.size + 1 + 1 := by omega
      have z2_0c : w.heap.size < w2.heap.size + 1 + 1 + 1 := by omega
      have z2_0d : w.heap.size < w2.heap.size + 1 + 1 + 1 + 1 := by omega
      have z2_1 : w.heap.size + 1 < w2.heap.size := by omega
      have z2_1a : w.heap.size + 1 < w2.heap.size + 1 := by omega
      have z2_1b : w.heap.size + 1 < w2.heap.size + 1 + 1 := by omega
      have z2_1c : w.heap.size + 1 < w2.heap.size + 1 + 1 + 1 := by omega
      have z2_1d : w.heap.size + 1 < w2.heap.size + 1 + 1 + 1 + 1 := by omega
      go_wp2_with fail
      refine (refValid_no _ _ _ V1.out).mono ?_
      rintro e w3 ⟨rfl, g3⟩
      obtain ⟨c3, f3, z3⟩ := laid g3
      try simp at z3
      have d3 := laid2 (w0 := w2) (by repeat (first | (with_reducible assumption) | exact Grown.refl _ | (with_reducible refine Grown.drewN ?_ _) | (with_reducible refine Grown.drew ?_) | (with_reducible refine Grown.alloc ?_ _ _))) g3
      have G3 : Grown w w3 := Grown.trans (by repeat (first | (with_reducible assumption) | exact Grown.refl _ | (with_reducible refine Grown.drewN ?_ _) | (with_reducible refine Grown.drew ?_) | (with_reducible refine Grown.alloc ?_ _ _))) g3
      clear g3
      have z3_0 : w.heap.size < w3.heap.size := by omega
      have z3_0a : w.heap.size < w3.heap.size + 1 := by omega
      have z3_0b : w.heap.size < w3.heap.size + 1 + 1 := by omega
      have z3_0c : w.heap.size < w3.heap.size + 1 + 1 + 1 := by omega
      have z3_0d : w.heap.size < w3.heap.size + 1 + 1 + 1 + 1 := by omega
      have z3_1 : w.heap.size + 1 < w3.heap.size := by omega
      have z3_1a : w.heap.size + 1 < w3.heap.size + 1 := by omega
      have z3_1b : w.heap.size + 1 < w3.heap.size + 1 + 1 := by omega
      have z3_1c : w.heap.size + 1 < w3.heap.size + 1 + 1 + 1 := by omega
      have z3_1d : w.heap.size + 1 < w3.heap.size + 1 + 1 + 1 + 1 := by omega
      have z3_2 : w2.heap.size < w3.heap.size := by omega
      have z3_2a : w2.heap.size < w3.heap.size + 1 := by omega
      have z3_2b : w2.heap.size < w3.heap.size + 1 + 1 := by omega
      have z3_2c : w2.heap.size < w3.heap.size + 1 + 1 + 1 := by omega
      have z3_2d : w2.heap.size < w3.heap.size + 1 + 1 + 1 + 1 := by omega
      go_wp2_with fail
      go_ret
      exact ⟨by first | rfl | (simp; omega), by repeat (first | (with_reducible assumption) | exact Grown.refl _ | (with_reducible refine Grown.drewN ?_ _) | (with_reducible refine Grown.drew ?_) | (with_reducible refine Grown.alloc ?_ _ _))⟩


end Sn
end Go.Proofs.Ytpendmjfmhjibaa
