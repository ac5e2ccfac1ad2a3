/-
  The walk of the law SpanAdds: it returns true.
-/
import Derived.Test.YtpendmjfmhjibaaSpanLawsC
namespace Go.Proofs.Ytpendmjfmhjibaa
open Go.RowKit
namespace Sn

set_option maxRecDepth 100000 in
set_option maxHeartbeats 4000000 in
theorem law_adds (a b c d i k m : Int) (w : World) (hi : 0 ≤ i ∧ i ≤ 18446744073709551615) (hk : 0 ≤ k ∧ k ≤ 18446744073709551615) (hm : 0 ≤ m ∧ m ≤ 18446744073709551615) : Calls Try.prog 4 #[.agg #[.int .i64 a, .int .i64 b], .agg #[.int .i64 c, .int .i64 d], .int .u64 i, .int .u64 k, .int .u64 m] w fun e w' => e = .returned (.bool true) ∧ Grown w w' := by
  by_cases h : Vd a b ∧ Vd c d
  · obtain ⟨V1, V2⟩ := h
    by_cases hv : Vd (a + c) (b + d)
    · have A := Lib.hid (spAdd_ok a b c d · ⟨V1, V2⟩ hv)
      obtain ⟨i0, i1⟩ := inn_in i V1
      obtain ⟨k0, k1⟩ := inn_in k V2
      obtain ⟨m0, m1⟩ := inn_in m hv
      have H1 := Lib.hid (has_yes (n := inn a b i + inn c d k) hv (by omega) (by omega))
      have N := Lib.hid (in_any (a + c) (b + d) m · hv hm)
      obtain ⟨hi0, hi1⟩ := hi
      obtain ⟨hk0, hk1⟩ := hk
      clear hm
      have le : a + c ≤ b + d := hv.2.1
      have VV := V1
      obtain ⟨v1, v2, v3⟩ := VV
      have VV := V2
      obtain ⟨v4, v5, v6⟩ := VV
      clear hv
      by_cases q : a < inn (a + c) (b + d) m - d
      · have X := Lib.hid (has_yes (n := inn (a + c) (b + d) m - d) V1 (by omega) (by omega))
        have Y := Lib.hid (has_yes (n := inn (a + c) (b + d) m - (inn (a + c) (b + d) m - d)) V2 (by omega) (by omega))
        go_enter Try.func4, Try.ntmps4
        go_wp2_with fail
        refine (head_any _).mono ?_
        rintro e w1 ⟨rfl, g1⟩
        obtain ⟨c1, f1, z1⟩ := laid g1
        try simp at z1
        have G1 : Grown w w1 := Grown.trans (by repeat (first | (with_reducible assumption) | exact Grown.refl _ | (with_reducible refine Grown.drewN ?_ _) | (with_reducible refine Grown.drew ?_) | (with_reducible refine Grown.alloc ?_ _ _))) g1
        clear g1
        have z1_0 : w.heap.size < w1.heap.size := by omega
        have z1_0a : w.heap.size < w1.heap.size + 1 := by omega
        have z1_0b : w.heap.size < w1.heap.size + 1 + 1 := by omega
        have z1_0c : w.heap.size < w1.heap.size + 1 + 1 + 1 := by omega
        have z1_0d : w.heap.size < w1.heap.size + 1 + 1 + 1 + 1 := by omega
        have z1_1 : w.heap.size + 1 < w1.heap.size := by omega
        have z1_1a : w.heap.size + 1 < w1.heap.size + 1 := by omega
        have z1_1b : w.heap.size + 1 < w1.heap.size + 1 + 1 := by omega
        have z1_1c : w.heap.size + 1 < w1.heap.size + 1 + 1 + 1 := by omega
        have z1_1d : w.heap.size + 1 < w1.heap.size + 1 + 1 + 1 + 1 := by omega
        go_wp2_with fail
        refine (A.out _).mono ?_
        rintro e w2 ⟨rfl, g2⟩
        obtain ⟨c2, f2, z2⟩ := laid g2
        try simp [size_drewN] at z2
        have d2 := laid2 (w0 := w1) (by repeat (first | (with_reducible assumption) | exact Grown.refl _ | (with_reducible refine Grown.drewN ?_ _) | (with_reducible refine Grown.drew ?_) | (with_reducible refine Grown.alloc ?_ _ _))) g2
        have G2 : Grown w w2 := Grown.trans (by repeat (first | (with_reducible assumption) | exact Grown.refl _ | (with_reducible refine Grown.drewN ?_ _) | (with_reducible refine Grown.drew ?_) | (with_reducible refine Grown.alloc ?_ _ _))) g2
        clear g2
        have z2_0 : w.heap.size < w2.heap.size := by omega
        have z2_0a : w.heap.size < w2.heap.size + 1 := by omega
        have z2_0b : w.heap.size < w2.heap.size + 1 + 1 := by omega
        have z2_0c : w.heap.size < w2.heap.size + 1 + 1 + 1 := by omega
        have z2_0d : w.heap.size < w2.heap.size + 1 + 1 + 1 + 1 := by omega
        have z2_1 : w.heap.size + 1 < w2.heap.size := by omega
        have z2_1a : w.heap.size + 1 < w2.heap.size + 1 := by omega
        have z2_1b : w.heap.size + 1 < w2.heap.size + 1 + 1 := by omega
        have z2_1c : w.heap.size + 1 < w2.heap.size + 1 + 1 + 1 := by omega
        have z2_1d : w.heap.size + 1 < w2.heap.size + 1 + 1 + 1 + 1 := by omega
        go_wp2_with fail
        refine (refValid_yes _ _ _ V1).mono ?_
        rintro e w3 ⟨rfl, g3⟩
        obtain ⟨c3, f3, z3⟩ := laid g3
        try simp at z3
        have d3 := laid2 (w0 := w2) (by repeat (first | (with_reducible assumption) | exact Grown.refl _ | (with_reducible refine Grown.drewN ?_ _) | (with_reducible refine Grown.drew ?_) | (with_reducible refine Grown.alloc ?_ _ _))) g3
        have G3 : Grown w w3 := Grown.trans (by repeat (first | (with_reducible assumption) | exact Grown.refl _ | (with_reducible refine Grown.drewN ?_ _) | (with_reducible refine Grown.drew ?_) | (with_reducible refine Grown.alloc ?_ _ _))) g3
        clear g3
        have z3_0 : w.heap.size < w3.heap.size := by omega
        have z3_0a : w.heap.size < w3.heap.size + 1 := by omega
        have z3_0b : w.heap.size < w3.heap.size + 1 + 1 := by omega
        have z3_0c : w.heap.size < w3.heap.size + 1 + 1 + 1 := by omega
        have z3_0d : w.heap.size < w3.heap.size + 1 + 1 + 1 + 1 := by omega
        have z3_1 : w.heap.size + 1 < w3.heap.size := by omega
        have z3_1a : w.heap.size + 1 < w3.heap.size + 1 := by omega
        have z3_1b : w.heap.size + 1 < w3.heap.size + 1 + 1 := by omega
        have z3_1c : w.heap.size + 1 < w3.heap.size + 1 + 1 + 1 := by omega
        have z3_1d : w.heap.size + 1 < w3.heap.size + 1 + 1 + 1 + 1 := by omega
        have z3_2 : w2.heap.size < w3.heap.size := by omega
        have z3_2a : w2.heap.size < w3.heap.size + 1 := by omega
        have z3_2b : w2.heap.size < w3.heap.size + 1 + 1 := by omega
        have z3_2c : w2.heap.size < w3.heap.size + 1 + 1 + 1 := by omega
        have z3_2d : w2.heap.size < w3.heap.size + 1 + 1 + 1 + 1 := by omega
        go_wp2_with fail
        refine (refValid_yes _ _ _ V2).mono ?_
        rintro e w4 ⟨rfl, g4⟩
        obtain ⟨c4, f4, z4⟩ := laid g4
        try simp [size_drewN] at z4
        have d4 := laid2 (w0 := w3) (by repeat (first | (with_reducible assumption) | exact Grown.refl _ | (with_reducible refine Grown.drewN ?_ _) | (with_reducible refine Grown.drew ?_) | (with_reducible refine Grown.alloc ?_ _ _))) g4
        have G4 : Grown w w4 := Grown.trans (by repeat (first | (with_reducible assumption) | exact Grown.refl _ | (with_reducible refine Grown.drewN ?_ _) | (with_reducible refine Grown.drew ?_) | (with_reducible refine Grown.alloc ?_ _ _))) g4
        clear g4
        have z4_0 : w.heap.size < w4.heap.size := by omega
        have z4_0a : w.heap.size < w4.heap.size + 1 := by omega
        have z4_0b : w.heap.size < w4.heap.size + 1 + 1 := by omega
        have z4_0c : w.heap.size < w4.heap.size + 1 + 1 + 1 := by omega
        have z4_0d : w.heap.size < w4.heap.size + 1 + 1 + 1 + 1 := by omega
        have z4_1 : w.heap.size + 1 < w4.heap.size := by omega
        have z4_1a : w.heap.size + 1 < w4.heap.size + 1 := by omega
        have z4_1b : w.heap.size + 1 < w4.heap.size + 1 + 1 := by omega
        have z4_1c : w.heap.size + 1 < w4.heap.size + 1 + 1 + 1 := by omega
        have z4_1d : w.heap.size + 1 < w4.heap.size + 1 + 1 + 1 + 1 := by omega
        have z4_2 : w2.heap.size < w4.heap.size := by omega
        have z4_2a : w2.heap.size < w4.heap.size + 1 := by omega
        have z4_2b : w2.heap.size < w4.heap.size + 1 + 1 := by omega
        have z4_2c : w2.heap.size < w4.heap.size + 1 + 1 + 1 := by omega
        have z4_2d : w2.heap.size < w4.heap.size + 1 + 1 + 1 + 1 := by omega
        go_wp2_with fail
        have q4_0_0 : w4.cell? ⟨w.heap.size, 0, none⟩ = some (.int .i64 a) := by simp [go_sem, *]
        have q4_0_1 : w4.cell? ⟨w.heap.size, 1, none⟩ = some (.int .i64 b) := by simp [go_sem, *]
        have q4_1_0 : w4.cell? ⟨w.heap.size + 1, 0, none⟩ = some (.int .i64 c) := by simp [go_sem, *]
        have q4_1_1 : w4.cell? ⟨w.heap.size + 1, 1, none⟩ = some (.int .i64 d) := by simp [go_sem, *]
        have q4_2_0 : w4.cell? ⟨w2.heap.size, 0, none⟩ = some (.int .i64 (a + c)) := by simp [go_sem, *]
        have q4_2_1 : w4.cell? ⟨w2.heap.size, 1, none⟩ = some (.int .i64 (b + d)) := by simp [go_sem, *]
        clear c1 f1 c2 f2 c3 f3 c4 f4 d2 d3 d4
        clear z1 G1 z2 G2 z3 G3
        have ws : IntKind.i64.wrap (inn a b i + inn c d k) = inn a b i + inn c d k := IntWalk.i64_in _ ⟨by omega, by omega⟩
        go_region_held3 (fun w' => w'.cell? ⟨w.heap.size, 0, none⟩ = some (.int .i64 a) ∧ w'.cell? ⟨w.heap.size, 1, none⟩ = some (.int .i64 b) ∧ w'.cell? ⟨w.heap.size + 1, 0, none⟩ = some (.int .i64 c) ∧ w'.cell? ⟨w.heap.size + 1, 1, none⟩ = some (.int .i64 d) ∧ w'.cell? ⟨w2.heap.size, 0, none⟩ = some (.int .i64 (a + c)) ∧ w'.cell? ⟨w2.heap.size, 1, none⟩ = some (.int .i64 (b + d))) (simp [go_sem, *])
          (first | (go_at_call 25; refine (in_any _ _ _ _ ?_ ?_).mono ?_; (assumption); (exact ⟨by assumption, by assumption⟩); rintro e w' ⟨rfl, n', rfl⟩) | (go_at_call 11; refine (H1.out _).mono ?_; rintro e w5 ⟨rfl, g5⟩; (try clear ws); obtain ⟨c5, f5, z5⟩ := laid g5; (try simp at z5); (have G5 : Grown w w5 := Grown.trans (by repeat (first | (with_reducible assumption) | exact Grown.refl _ | (with_reducible refine Grown.drewN ?_ _) | (with_reducible refine Grown.drew ?_) | (with_reducible refine Grown.alloc ?_ _ _))) g5); (have z5_0 : w.heap.size < w5.heap.size := by omega); (have z5_1 : w.heap.size + 1 < w5.heap.size := by omega); (have z5_2 : w2.heap.size < w5.heap.size := by omega)))
        obtain ⟨q5_0_0, q5_0_1, q5_1_0, q5_1_1, q5_2_0, q5_2_1⟩ : w5.cell? ⟨w.heap.size, 0, none⟩ = some (.int .i64 a) ∧ w5.cell? ⟨w.heap.size, 1, none⟩ = some (.int .i64 b) ∧ w5.cell? ⟨w.heap.size + 1, 0, none⟩ = some (.int .i64 c) ∧ w5.cell? ⟨w.heap.size + 1, 1, none⟩ = some (.int .i64 d) ∧ w5.cell? ⟨w2.heap.size, 0, none⟩ = some (.int .i64 (a + c)) ∧ w5.cell? ⟨w2.heap.size, 1, none⟩ = some (.int .i64 (b + d)) := by assumption
        clear c5 f5
        go_wp2_with fail
        refine (N.out _).mono ?_
        rintro e w' ⟨rfl, n', rfl⟩
        go_wp2_with fail
        refine (X.out _).mono ?_
        rintro e w6 ⟨rfl, g6⟩
        obtain ⟨c6, f6, z6⟩ := laid g6
        try simp at z6
        have d6 := laid2 (w0 := w5) (by repeat (first | (with_reducible assumption) | exact Grown.refl _ | (with_reducible refine Grown.drewN ?_ _) | (with_reducible refine Grown.drew ?_) | (with_reducible refine Grown.alloc ?_ _ _))) g6
        have G6 : Grown w w6 := Grown.trans (by repeat (first | (with_reducible assumption) | exact Grown.refl _ | (with_reducible refine Grown.drewN ?_ _) | (with_reducible refine Grown.drew ?_) | (with_reducible refine Grown.alloc ?_ _ _))) g6
        clear g6
        have z6_0 : w.heap.size < w6.heap.size := by omega
        have z6_0a : w.heap.size < w6.heap.size + 1 := by omega
        have z6_0b : w.heap.size < w6.heap.size + 1 + 1 := by omega
        have z6_0c : w.heap.size < w6.heap.size + 1 + 1 + 1 := by omega
        have z6_0d : w.heap.size < w6.heap.size + 1 + 1 + 1 + 1 := by omega
        have z6_1 : w.heap.size + 1 < w6.heap.size := by omega
        have z6_1a : w.heap.size + 1 < w6.heap.size + 1 := by omega
        have z6_1b : w.heap.size + 1 < w6.heap.size + 1 + 1 := by omega
        have z6_1c : w.heap.size + 1 < w6.heap.size + 1 + 1 + 1 := by omega
        have z6_1d : w.heap.size + 1 < w6.heap.size + 1 + 1 + 1 + 1 := by omega
        have z6_2 : w2.heap.size < w6.heap.size := by omega
        have z6_2a : w2.heap.size < w6.heap.size + 1 := by omega
        have z6_2b : w2.heap.size < w6.heap.size + 1 + 1 := by omega
        have z6_2c : w2.heap.size < w6.heap.size + 1 + 1 + 1 := by omega
        have z6_2d : w2.heap.size < w6.heap.size + 1 + 1 + 1 + 1 := by omega
        go_wp2_with fail
        refine (Y.out _).mono ?_
        rintro e w7 ⟨rfl, g7⟩
        obtain ⟨c7, f7, z7⟩ := laid g7
        try simp [size_drewN] at z7
        have d7 := laid2 (w0 := w6) (by repeat (first | (with_reducible assumption) | exact Grown.refl _ | (with_reducible refine Grown.drewN ?_ _) | (with_reducible refine Grown.drew ?_) | (with_reducible refine Grown.alloc ?_ _ _))) g7
        have G7 : Grown w w7 := Grown.trans (by repeat (first | (with_reducible assumption) | exact Grown.refl _ | (with_reducible refine Grown.drewN ?_ _) | (with_reducible refine Grown.drew ?_) | (with_reducible refine Grown.alloc ?_ _ _))) g7
        clear g7
        have z7_0 : w.heap.size < w7.heap.size := by omega
        have z7_0a : w.heap.size < w7.heap.size + 1 := by omega
        have z7_0b : w.heap.size < w7.heap.size + 1 + 1 := by omega
        have z7_0c : w.heap.size < w7.heap.size + 1 + 1 + 1 := by omega
        have z7_0d : w.heap.size < w7.heap.size + 1 + 1 + 1 + 1 := by omega
        have z7_1 : w.heap.size + 1 < w7.heap.size := by omega
        have z7_1a : w.heap.size + 1 < w7.heap.size + 1 := by omega
        have z7_1b : w.heap.size + 1 < w7.heap.size + 1 + 1 := by omega
        have z7_1c : w.heap.size + 1 < w7.heap.size + 1 + 1 + 1 := by omega
        have z7_1d : w.heap.size + 1 < w7.heap.size + 1 + 1 + 1 + 1 := by omega
        have z7_2 : w2.heap.size < w7.heap.size := by omega
        have z7_2a : w2.heap.size < w7.heap.size + 1 := by omega
        have z7_2b : w2.heap.size < w7.heap.size + 1 + 1 := by omega
        have z7_2c : w2.heap.size < w7.heap.size + 1 + 1 + 1 := by omega
        have z7_2d : w2.heap.size < w7.heap.size + 1 + 1 + 1 + 1 := by omega
        go_wp2_with fail
        go_ret
        exact ⟨by first | rfl | (simp; omega), by repeat (first | (with_reducible assumption) | exact Grown.refl _ | (with_reducible refine Grown.drewN ?_ _) | (with_reducible refine Grown.drew ?_) | (with_reducible refine Grown.alloc ?_ _ _))⟩
      · have q' : inn (a + c) (b + d) m - d ≤ a := by omega
        have X := Lib.hid (has_yes (n := a) V1 (by omega) (by omega))
        have Y := Lib.hid (has_yes (n := inn (a + c) (b + d) m - a) V2 (by omega) (by omega))
        clear q
        go_enter Try.func4, Try.ntmps4
        go_wp2_with fail
        refine (head_any _).mono ?_
        rintro e w1 ⟨rfl, g1⟩
        obtain ⟨c1, f1, z1⟩ := laid g1
        try simp at z1
        have G1 : Grown w w1 := Grown.trans (by repeat (first | (with_reducible assumption) | exact Grown.refl _ | (with_reducible refine Grown.drewN ?_ _) | (with_reducible refine Grown.drew ?_) | (with_reducible refine Grown.alloc ?_ _ _))) g1
        clear g1
        have z1_0 : w.heap.size < w1.heap.size := by omega
        have z1_0a : w.heap.size < w1.heap.size + 1 := by omega
        have z1_0b : w.heap.size < w1.heap.size + 1 + 1 := by omega
        have z1_0c : w.heap.size < w1.heap.size + 1 + 1 + 1 := by omega
        have z1_0d : w.heap.size < w1.heap.size + 1 + 1 + 1 + 1 := by omega
        have z1_1 : w.heap.size + 1 < w1.heap.size := by omega
        have z1_1a : w.heap.size + 1 < w1.heap.size + 1 := by omega
        have z1_1b : w.heap.size + 1 < w1.heap.size + 1 + 1 := by omega
        have z1_1c : w.heap.size + 1 < w1.heap.size + 1 + 1 + 1 := by omega
        have z1_1d : w.heap.size + 1 < w1.heap.size + 1 + 1 + 1 + 1 := by omega
        go_wp2_with fail
        refine (A.out _).mono ?_
        rintro e w2 ⟨rfl, g2⟩
        obtain ⟨c2, f2, z2⟩ := laid g2
        try simp [size_drewN] at z2
        have d2 := laid2 (w0 := w1) (by repeat (first | (with_reducible assumption) | exact Grown.refl _ | (with_reducible refine Grown.drewN ?_ _) | (with_reducible refine Grown.drew ?_) | (with_reducible refine Grown.alloc ?_ _ _))) g2
        have G2 : Grown w w2 := Grown.trans (by repeat (first | (with_reducible assumption) | exact Grown.refl _ | (with_reducible refine Grown.drewN ?_ _) | (with_reducible refine Grown.drew ?_) | (with_reducible refine Grown.alloc ?_ _ _))) g2
        clear g2
        have z2_0 : w.heap.size < w2.heap.size := by omega
        have z2_0a : w.heap.size < w2.heap.size + 1 := by omega
        have z2_0b : w.heap.size < w2.heap.size + 1 + 1 := by omega
        have z2_0c : w.heap.size < w2.heap.size + 1 + 1 + 1 := by omega
        have z2_0d : w.heap.size < w2.heap.size + 1 + 1 + 1 + 1 := by omega
        have z2_1 : w.heap.size + 1 < w2.heap.size := by omega
        have z2_1a : w.heap.size + 1 < w2.heap.size + 1 := by omega
        have z2_1b : w.heap.size + 1 < w2.heap.size + 1 + 1 := by omega
        have z2_1c : w.heap.size + 1 < w2.heap.size + 1 + 1 + 1 := by omega
        have z2_1d : w.heap.size + 1 < w2.heap.size + 1 + 1 + 1 + 1 := by omega
        go_wp2_with fail
        refine (refValid_yes _ _ _ V1).mono ?_
        rintro e w3 ⟨rfl, g3⟩
        obtain ⟨c3, f3, z3⟩ := laid g3
        try simp at z3
        have d3 := laid2 (w0 := w2) (by repeat (first | (with_reducible assumption) | exact Grown.refl _ | (with_reducible refine Grown.drewN ?_ _) | (with_reducible refine Grown.drew ?_) | (with_reducible refine Grown.alloc ?_ _ _))) g3
        have G3 : Grown w w3 := Grown.trans (by repeat (first | (with_reducible assumption) | exact Grown.refl _ | (with_reducible refine Grown.drewN ?_ _) | (with_reducible refine Grown.drew ?_) | (with_reducible refine Grown.alloc ?_ _ _))) g3
        clear g3
        have z3_0 : w.heap.size < w3.heap.size := by omega
        have z3_0a : w.heap.size < w3.heap.size + 1 := by omega
        have z3_0b : w.heap.size < w3.heap.size + 1 + 1 := by omega
        have z3_0c : w.heap.size < w3.heap.size + 1 + 1 + 1 := by omega
        have z3_0d : w.heap.size < w3.heap.size + 1 + 1 + 1 + 1 := by omega
        have z3_1 : w.heap.size + 1 < w3.heap.size := by omega
        have z3_1a : w.heap.size + 1 < w3.heap.size + 1 := by omega
        have z3_1b : w.heap.size + 1 < w3.heap.size + 1 + 1 := by omega
        have z3_1c : w.heap.size + 1 < w3.heap.size + 1 + 1 + 1 := by omega
        have z3_1d : w.heap.size + 1 < w3.heap.size + 1 + 1 + 1 + 1 := by omega
        have z3_2 : w2.heap.size < w3.heap.size := by omega
        have z3_2a : w2.heap.size < w3.heap.size + 1 := by omega
        have z3_2b : w2.heap.size < w3.heap.size + 1 + 1 := by omega
        have z3_2c : w2.heap.size < w3.heap.size + 1 + 1 + 1 := by omega
        have z3_2d : w2.heap.size < w3.heap.size + 1 + 1 + 1 + 1 := by omega
        go_wp2_with fail
        refine (refValid_yes _ _ _ V2).mono ?_
        rintro e w4 ⟨rfl, g4⟩
        obtain ⟨c4, f4, z4⟩ := laid g4
        try simp [size_drewN] at z4
        have d4 := laid2 (w0 := w3) (by repeat (first | (with_reducible assumption) | exact Grown.refl _ | (with_reducible refine Grown.drewN ?_ _) | (with_reducible refine Grown.drew ?_) | (with_reducible refine Grown.alloc ?_ _ _))) g4
        have G4 : Grown w w4 := Grown.trans (by repeat (first | (with_reducible assumption) | exact Grown.refl _ | (with_reducible refine Grown.drewN ?_ _) | (with_reducible refine Grown.drew ?_) | (with_reducible refine Grown.alloc ?_ _ _))) g4
        clear g4
        have z4_0 : w.heap.size < w4.heap.size := by omega
        have z4_0a : w.heap.size < w4.heap.size + 1 := by omega
        have z4_0b : w.heap.size < w4.heap.size + 1 + 1 := by omega
        have z4_0c : w.heap.size < w4.heap.size + 1 + 1 + 1 := by omega
        have z4_0d : w.heap.size < w4.heap.size + 1 + 1 + 1 + 1 := by omega
        have z4_1 : w.heap.size + 1 < w4.heap.size := by omega
        have z4_1a : w.heap.size + 1 < w4.heap.size + 1 := by omega
        have z4_1b : w.heap.size + 1 < w4.heap.size + 1 + 1 := by omega
        have z4_1c : w.heap.size + 1 < w4.heap.size + 1 + 1 + 1 := by omega
        have z4_1d : w.heap.size + 1 < w4.heap.size + 1 + 1 + 1 + 1 := by omega
        have z4_2 : w2.heap.size < w4.heap.size := by omega
        have z4_2a : w2.heap.size < w4.heap.size + 1 := by omega
        have z4_2b : w2.heap.size < w4.heap.size + 1 + 1 := by omega
        have z4_2c : w2.heap.size < w4.heap.size + 1 + 1 + 1 := by omega
        have z4_2d : w2.heap.size < w4.heap.size + 1 + 1 + 1 + 1 := by omega
        go_wp2_with fail
        have q4_0_0 : w4.cell? ⟨w.heap.size, 0, none⟩ = some (.int .i64 a) := by simp [go_sem, *]
        have q4_0_1 : w4.cell? ⟨w.heap.size, 1, none⟩ = some (.int .i64 b) := by simp [go_sem, *]
        have q4_1_0 : w4.cell? ⟨w.heap.size + 1, 0, none⟩ = some (.int .i64 c) := by simp [go_sem, *]
        have q4_1_1 : w4.cell? ⟨w.heap.size + 1, 1, none⟩ = some (.int .i64 d) := by simp [go_sem, *]
        have q4_2_0 : w4.cell? ⟨w2.heap.size, 0, none⟩ = some (.int .i64 (a + c)) := by simp [go_sem, *]
        have q4_2_1 : w4.cell? ⟨w2.heap.size, 1, none⟩ = some (.int .i64 (b + d)) := by simp [go_sem, *]
        clear c1 f1 c2 f2 c3 f3 c4 f4 d2 d3 d4
        clear z1 G1 z2 G2 z3 G3
        have ws : IntKind.i64.wrap (inn a b i + inn c d k) = inn a b i + inn c d k := IntWalk.i64_in _ ⟨by omega, by omega⟩
        go_region_held3 (fun w' => w'.cell? ⟨w.heap.size, 0, none⟩ = some (.int .i64 a) ∧ w'.cell? ⟨w.heap.size, 1, none⟩ = some (.int .i64 b) ∧ w'.cell? ⟨w.heap.size + 1, 0, none⟩ = some (.int .i64 c) ∧ w'.cell? ⟨w.heap.size + 1, 1, none⟩ = some (.int .i64 d) ∧ w'.cell? ⟨w2.heap.size, 0, none⟩ = some (.int .i64 (a + c)) ∧ w'.cell? ⟨w2.heap.size, 1, none⟩ = some (.int .i64 (b + d))) (simp [go_sem, *])
          (first | (go_at_call 25; refine (in_any _ _ _ _ ?_ ?_).mono ?_; (assumption); (exact ⟨by assumption, by assumption⟩); rintro e w' ⟨rfl, n', rfl⟩) | (go_at_call 11; refine (H1.out _).mono ?_; rintro e w5 ⟨rfl, g5⟩; (try clear ws); obtain ⟨c5, f5, z5⟩ := laid g5; (try simp at z5); (have G5 : Grown w w5 := Grown.trans (by repeat (first | (with_reducible assumption) | exact Grown.refl _ | (with_reducible refine Grown.drewN ?_ _) | (with_reducible refine Grown.drew ?_) | (with_reducible refine Grown.alloc ?_ _ _))) g5); (have z5_0 : w.heap.size < w5.heap.size := by omega); (have z5_1 : w.heap.size + 1 < w5.heap.size := by omega); (have z5_2 : w2.heap.size < w5.heap.size := by omega)))
        obtain ⟨q5_0_0, q5_0_1, q5_1_0, q5_1_1, q5_2_0, q5_2_1⟩ : w5.cell? ⟨w.heap.size, 0, none⟩ = some (.int .i64 a) ∧ w5.cell? ⟨w.heap.size, 1, none⟩ = some (.int .i64 b) ∧ w5.cell? ⟨w.heap.size + 1, 0, none⟩ = some (.int .i64 c) ∧ w5.cell? ⟨w.heap.size + 1, 1, none⟩ = some (.int .i64 d) ∧ w5.cell? ⟨w2.heap.size, 0, none⟩ = some (.int .i64 (a + c)) ∧ w5.cell? ⟨w2.heap.size, 1, none⟩ = some (.int .i64 (b + d)) := by assumption
        clear c5 f5
        go_wp2_with fail
        refine (N.out _).mono ?_
        rintro e w' ⟨rfl, n', rfl⟩
        go_wp2_with fail
        refine (X.out _).mono ?_
        rintro e w6 ⟨rfl, g6⟩
        obtain ⟨c6, f6, z6⟩ := laid g6
        try simp at z6
        have d6 := laid2 (w0 := w5) (by repeat (first | (with_reducible assumption) | exact Grown.refl _ | (with_reducible refine Grown.drewN ?_ _) | (with_reducible refine Grown.drew ?_) | (with_reducible refine Grown.alloc ?_ _ _))) g6
        have G6 : Grown w w6 := Grown.trans (by repeat (first | (with_reducible assumption) | exact Grown.refl _ | (with_reducible refine Grown.drewN ?_ _) | (with_reducible refine Grown.drew ?_) | (with_reducible refine Grown.alloc ?_ _ _))) g6
        clear g6
        have z6_0 : w.heap.size < w6.heap.size := by omega
        have z6_0a : w.heap.size < w6.heap.size + 1 := by omega
        have z6_0b : w.heap.size < w6.heap.size + 1 + 1 := by omega
        have z6_0c : w.heap.size < w6.heap.size + 1 + 1 + 1 := by omega
        have z6_0d : w.heap.size < w6.heap.size + 1 + 1 + 1 + 1 := by omega
        have z6_1 : w.heap.size + 1 < w6.heap.size := by omega
        have z6_1a : w.heap.size + 1 < w6.heap.size + 1 := by omega
        have z6_1b : w.heap.size + 1 < w6.heap.size + 1 + 1 := by omega
        have z6_1c : w.heap.size + 1 < w6.heap.size + 1 + 1 + 1 := by omega
        have z6_1d : w.heap.size + 1 < w6.heap.size + 1 + 1 + 1 + 1 := by omega
        have z6_2 : w2.heap.size < w6.heap.size := by omega
        have z6_2a : w2.heap.size < w6.heap.size + 1 := by omega
        have z6_2b : w2.heap.size < w6.heap.size + 1 + 1 := by omega
        have z6_2c : w2.heap.size < w6.heap.size + 1 + 1 + 1 := by omega
        have z6_2d : w2.heap.size < w6.heap.size + 1 + 1 + 1 + 1 := by omega
        go_wp2_with fail
        refine (Y.out _).mono ?_
        rintro e w7 ⟨rfl, g7⟩
        obtain ⟨c7, f7, z7⟩ := laid g7
        try simp [size_drewN] at z7
        have d7 := laid2 (w0 := w6) (by repeat (first | (with_reducible assumption) | exact Grown.refl _ | (with_reducible refine Grown.drewN ?_ _) | (with_reducible refine Grown.drew ?_) | (with_reducible refine Grown.alloc ?_ _ _))) g7
        have G7 : Grown w w7 := Grown.trans (by repeat (first | (with_reducible assumption) | exact Grown.refl _ | (with_reducible refine Grown.drewN ?_ _) | (with_reducible refine Grown.drew ?_) | (with_reducible refine Grown.alloc ?_ _ _))) g7
        clear g7
        have z7_0 : w.heap.size < w7.heap.size := by omega
        have z7_0a : w.heap.size < w7.heap.size + 1 := by omega
        have z7_0b : w.heap.size < w7.heap.size + 1 + 1 := by omega
        have z7_0c : w.heap.size < w7.heap.size + 1 + 1 + 1 := by omega
        have z7_0d : w.heap.size < w7.heap.size + 1 + 1 + 1 + 1 := by omega
        have z7_1 : w.heap.size + 1 < w7.heap.size := by omega
        have z7_1a : w.heap.size + 1 < w7.heap.size + 1 := by omega
        have z7_1b : w.heap.size + 1 < w7.heap.size + 1 + 1 := by omega
        have z7_1c : w.heap.size + 1 < w7.heap.size + 1 + 1 + 1 := by omega
        have z7_1d : w.heap.size + 1 < w7.heap.size + 1 + 1 + 1 + 1 := by omega
        have z7_2 : w2.heap.size < w7.heap.size := by omega
        have z7_2a : w2.heap.size < w7.heap.size + 1 := by omega
        have z7_2b : w2.heap.size < w7.heap.size + 1 + 1 := by omega
        have z7_2c : w2.heap.size < w7.heap.size + 1 + 1 + 1 := by omega
        have z7_2d : w2.heap.size < w7.heap.size + 1 + 1 + 1 + 1 := by omega
        go_wp2_with fail
        go_ret
        exact ⟨by first | rfl | (simp; omega), by repeat (first | (with_reducible assumption) | exact Grown.refl _ | (with_reducible refine Grown.drewN ?_ _) | (with_reducible refine Grown.drew ?_) | (with_reducible refine Grown.alloc ?_ _ _))⟩
    · have A := Lib.hid (spAdd_range a b c d · ⟨V1, V2⟩ hv)
      have W1 := Lib.hid V1
      have W2 := Lib.hid V2
      clear hv V1 V2 hi hk hm
      go_enter Try.func4, Try.ntmps4
      go_wp2_with fail
      refine (head_any _).mono ?_
      rintro e w1 ⟨rfl, g1⟩
      obtain ⟨c1, f1, z1⟩ := laid g1
      try simp at z1
      have G1 : Grown w w1 := Grown.trans (by repeat (first | (with_reducible assumption) | exact Grown.refl _ | (with_reducible refine Grown.drewN ?_ _) | (with_reducible refine Grown.drew ?_) | (with_reducible refine Grown.alloc ?_ _ _))) g1
      clear g1
      have z1_0 : w.heap.size < w1.heap.size := by omega
      have z1_0a : w.heap.size < w1.heap.size + 1 := by omega
      have z1_0b : w.heap.size < w1.heap.size + 1 + 1 := by omega
      have z1_0c : w.heap.size < w1.heap.size + 1 + 1 + 1 := by omega
      have z1_0d : w.heap.size < w1.heap.size + 1 + 1 + 1 + 1 := by omega
      have z1_1 : w.heap.size + 1 < w1.heap.size := by omega
      have z1_1a : w.heap.size + 1 < w1.heap.size + 1 := by omega
      have z1_1b : w.heap.size + 1 < w1.heap.size + 1 + 1 := by omega
      have z1_1c : w.heap.size + 1 < w1.heap.size + 1 + 1 + 1 := by omega
      have z1_1d : w.heap.size + 1 < w1.heap.size + 1 + 1 + 1 + 1 := by omega
      go_wp2_with fail
      refine (A.out _).mono ?_
      rintro e w2 ⟨rfl, g2⟩
      obtain ⟨c2, f2, z2⟩ := laid g2
      try simp [size_drewN] at z2
      have d2 := laid2 (w0 := w1) (by repeat (first | (with_reducible assumption) | exact Grown.refl _ | (with_reducible refine Grown.drewN ?_ _) | (with_reducible refine Grown.drew ?_) | (with_reducible refine Grown.alloc ?_ _ _))) g2
      have G2 : Grown w w2 := Grown.trans (by repeat (first | (with_reducible assumption) | exact Grown.refl _ | (with_reducible refine Grown.drewN ?_ _) | (with_reducible refine Grown.drew ?_) | (with_reducible refine Grown.alloc ?_ _ _))) g2
      clear g2
      have z2_0 : w.heap.size < w2.heap.size := by omega
      have z2_0a : w.heap.size < w2.heap.size + 1 := by omega
      have z2_0b : w.heap.size < w2.heap.size + 1 + 1 := by omega
      have z2_0c : w.heap.size < w2.heap.size + 1 + 1 + 1 := by omega
      have z2_0d : w.heap.size < w2.heap.size + 1 + 1 + 1 + 1 := by omega
      have z2_1 : w.heap.size + 1 < w2.heap.size := by omega
      have z2_1a : w.heap.size + 1 < w2.heap.size + 1 := by omega
      have z2_1b : w.heap.size + 1 < w2.heap.size + 1 + 1 := by omega
      have z2_1c : w.heap.size + 1 < w2.heap.size + 1 + 1 + 1 := by omega
      have z2_1d : w.heap.size + 1 < w2.heap.size + 1 + 1 + 1 + 1 := by omega
      go_wp2_with fail
      refine (refValid_yes _ _ _ W1.out).mono ?_
      rintro e w3 ⟨rfl, g3⟩
      obtain ⟨c3, f3, z3⟩ := laid g3
      try simp at z3
      have d3 := laid2 (w0 := w2) (by repeat (first | (with_reducible assumption) | exact Grown.refl _ | (with_reducible refine Grown.drewN ?_ _) | (with_reducible refine Grown.drew ?_) | (with_reducible refine Grown.alloc ?_ _ _))) g3
      have G3 : Grown w w3 := Grown.trans (by repeat (first | (with_reducible assumption) | exact Grown.refl _ | (with_reducible refine Grown.drewN ?_ _) | (with_reducible refine Grown.drew ?_) | (with_reducible refine Grown.alloc ?_ _ _))) g3
      clear g3
      have z3_0 : w.heap.size < w3.heap.size := by omega
      have z3_0a : w.heap.size < w3.heap.size + 1 := by omega
      have z3_0b : w.heap.size < w3.heap.size + 1 + 1 := by omega
      have z3_0c : w.heap.size < w3.heap.size + 1 + 1 + 1 := by omega
      have z3_0d : w.heap.size < w3.heap.size + 1 + 1 + 1 + 1 := by omega
      have z3_1 : w.heap.size + 1 < w3.heap.size := by omega
      have z3_1a : w.heap.size + 1 < w3.heap.size + 1 := by omega
      have z3_1b : w.heap.size + 1 < w3.heap.size + 1 + 1 := by omega
      have z3_1c : w.heap.size + 1 < w3.heap.size + 1 + 1 + 1 := by omega
      have z3_1d : w.heap.size + 1 < w3.heap.size + 1 + 1 + 1 + 1 := by omega
      have z3_2 : w2.heap.size < w3.heap.size := by omega
      have z3_2a : w2.heap.size < w3.heap.size + 1 := by omega
      have z3_2b : w2.heap.size < w3.heap.size + 1 + 1 := by omega
      have z3_2c : w2.heap.size < w3.heap.size + 1 + 1 + 1 := by omega
      have z3_2d : w2.heap.size < w3.heap.size + 1 + 1 + 1 + 1 := by omega
      go_wp2_with fail
      refine (refValid_yes _ _ _ W2.out).mono ?_
      rintro e w4 ⟨rfl, g4⟩
      obtain ⟨c4, f4, z4⟩ := laid g4
      try simp [size_drewN] at z4
      have d4 := laid2 (w0 := w3) (by repeat (first | (with_reducible assumption) | exact Grown.refl _ | (with_reducible refine Grown.drewN ?_ _) | (with_reducible refine Grown.drew ?_) | (with_reducible refine Grown.alloc ?_ _ _))) g4
      have G4 : Grown w w4 := Grown.trans (by repeat (first | (with_reducible assumption) | exact Grown.refl _ | (with_reducible refine Grown.drewN ?_ _) | (with_reducible refine Grown.drew ?_) | (with_reducible refine Grown.alloc ?_ _ _))) g4
      clear g4
      have z4_0 : w.heap.size < w4.heap.size := by omega
      have z4_0a : w.heap.size < w4.heap.size + 1 := by omega
      have z4_0b : w.heap.size < w4.heap.size + 1 + 1 := by omega
      have z4_0c : w.heap.size < w4.heap.size + 1 + 1 + 1 := by omega
      have z4_0d : w.heap.size < w4.heap.size + 1 + 1 + 1 + 1 := by omega
      have z4_1 : w.heap.size + 1 < w4.heap.size := by omega
      have z4_1a : w.heap.size + 1 < w4.heap.size + 1 := by omega
      have z4_1b : w.heap.size + 1 < w4.heap.size + 1 + 1 := by omega
      have z4_1c : w.heap.size + 1 < w4.heap.size + 1 + 1 + 1 := by omega
      have z4_1d : w.heap.size + 1 < w4.heap.size + 1 + 1 + 1 + 1 := by omega
      have z4_2 : w2.heap.size < w4.heap.size := by omega
      have z4_2a : w2.heap.size < w4.heap.size + 1 := by omega
      have z4_2b : w2.heap.size < w4.heap.size + 1 + 1 := by omega
      have z4_2c : w2.heap.size < w4.heap.size + 1 + 1 + 1 := by omega
      have z4_2d : w2.heap.size < w4.heap.size + 1 + 1 + 1 + 1 := by omega
      go_wp2_with fail
      go_ret
      exact ⟨by first | rfl | (simp; omega), by repeat (first | (with_reducible assumption) | exact Grown.refl _ | (with_reducible refine Grown.drewN ?_ _) | (with_reducible refine Grown.drew ?_) | (with_reducible refine Grown.alloc ?_ _ _))⟩

  · have A := Lib.hid (spAdd_bad a b c d · h)
    clear hi hk hm
    by_cases h1 : Vd a b
    · have V1 := Lib.hid h1
      have V2 : Hid (¬ Vd c d) := Lib.hid (fun k => h ⟨h1, k⟩)
      clear h h1
      go_enter Try.func4, Try.ntmps4
      go_wp2_with fail
      refine (head_any _).mono ?_
      rintro e w1 ⟨rfl, g1⟩
      obtain ⟨c1, f1, z1⟩ := laid g1
      try simp at z1
      have G1 : Grown w w1 := Grown.trans (by repeat (first | (with_reducible assumption) | exact Grown.refl _ | (with_reducible refine Grown.drewN ?_ _) | (with_reducible refine Grown.drew ?_) | (with_reducible refine Grown.alloc ?_ _ _))) g1
      clear g1
      have z1_0 : w.heap.size < w1.heap.size := by omega
      have z1_0a : w.heap.size < w1.heap.size + 1 := by omega
      have z1_0b : w.heap.size < w1.heap.size + 1 + 1 := by omega
      have z1_0c : w.heap.size < w1.heap.size + 1 + 1 + 1 := by omega
      have z1_0d : w.heap.size < w1.heap.size + 1 + 1 + 1 + 1 := by omega
      have z1_1 : w.heap.size + 1 < w1.heap.size := by omega
      have z1_1a : w.heap.size + 1 < w1.heap.size + 1 := by omega
      have z1_1b : w.heap.size + 1 < w1.heap.size + 1 + 1 := by omega
      have z1_1c : w.heap.size + 1 < w1.heap.size + 1 + 1 + 1 := by omega
      have z1_1d : w.heap.size + 1 < w1.heap.size + 1 + 1 + 1 + 1 := by omega
      go_wp2_with fail
      refine (A.out _).mono ?_
      rintro e w2 ⟨rfl, g2⟩
      obtain ⟨c2, f2, z2⟩ := laid g2
      try simp [size_drewN] at z2
      have d2 := laid2 (w0 := w1) (by repeat (first | (with_reducible assumption) | exact Grown.refl _ | (with_reducible refine Grown.drewN ?_ _) | (with_reducible refine Grown.drew ?_) | (with_reducible refine Grown.alloc ?_ _ _))) g2
      have G2 : Grown w w2 := Grown.trans (by repeat (first | (with_reducible assumption) | exact Grown.refl _ | (with_reducible refine Grown.drewN ?_ _) | (with_reducible refine Grown.drew ?_) | (with_reducible refine Grown.alloc ?_ _ _))) g2
      clear g2
      have z2_0 : w.heap.size < w2.heap.size := by omega
      have z2_0a : w.heap.size < w2.heap.size + 1 := by omega
      have z2_0b : w.heap.size < w2.heap.size + 1 + 1 := by omega
      have z2_0c : w.heap.size < w2.heap.size + 1 + 1 + 1 := by omega
      have z2_0d : w.heap.size < w2.heap.size + 1 + 1 + 1 + 1 := by omega
      have z2_1 : w.heap.size + 1 < w2.heap.size := by omega
      have z2_1a : w.heap.size + 1 < w2.heap.size + 1 := by omega
      have z2_1b : w.heap.size + 1 < w2.heap.size + 1 + 1 := by omega
      have z2_1c : w.heap.size + 1 < w2.heap.size + 1 + 1 + 1 := by omega
      have z2_1d : w.heap.size + 1 < w2.heap.size + 1 + 1 + 1 + 1 := by omega
      go_wp2_with fail
      refine (refValid_yes _ _ _ V1.out).mono ?_
      rintro e w3 ⟨rfl, g3⟩
      obtain ⟨c3, f3, z3⟩ := laid g3
      try simp at z3
      have d3 := laid2 (w0 := w2) (by repeat (first | (with_reducible assumption) | exact Grown.refl _ | (with_reducible refine Grown.drewN ?_ _) | (with_reducible refine Grown.drew ?_) | (with_reducible refine Grown.alloc ?_ _ _))) g3
      have G3 : Grown w w3 := Grown.trans (by repeat (first | (with_reducible assumption) | exact Grown.refl _ | (with_reducible refine Grown.drewN ?_ _) | (with_reducible refine Grown.drew ?_) | (with_reducible refine Grown.alloc ?_ _ _))) g3
      clear g3
      have z3_0 : w.heap.size < w3.heap.size := by omega
      have z3_0a : w.heap.size < w3.heap.size + 1 := by omega
      have z3_0b : w.heap.size < w3.heap.size + 1 + 1 := by omega
      have z3_0c : w.heap.size < w3.heap.size + 1 + 1 + 1 := by omega
      have z3_0d : w.heap.size < w3.heap.size + 1 + 1 + 1 + 1 := by omega
      have z3_1 : w.heap.size + 1 < w3.heap.size := by omega
      have z3_1a : w.heap.size + 1 < w3.heap.size + 1 := by omega
      have z3_1b : w.heap.size + 1 < w3.heap.size + 1 + 1 := by omega
      have z3_1c : w.heap.size + 1 < w3.heap.size + 1 + 1 + 1 := by omega
      have z3_1d : w.heap.size + 1 < w3.heap.size + 1 + 1 + 1 + 1 := by omega
      have z3_2 : w2.heap.size < w3.heap.size := by omega
      have z3_2a : w2.heap.size < w3.heap.size + 1 := by omega
      have z3_2b : w2.heap.size < w3.heap.size + 1 + 1 := by omega
      have z3_2c : w2.heap.size < w3.heap.size + 1 + 1 + 1 := by omega
      have z3_2d : w2.heap.size < w3.heap.size + 1 + 1 + 1 + 1 := by omega
      go_wp2_with fail
      refine (refValid_no _ _ _ V2.out).mono ?_
      rintro e w4 ⟨rfl, g4⟩
      obtain ⟨c4, f4, z4⟩ := laid g4
      try simp [size_drewN] at z4
      have d4 := laid2 (w0 := w3) (by repeat (first | (with_reducible assumption) | exact Grown.refl _ | (with_reducible refine Grown.drewN ?_ _) | (with_reducible refine Grown.drew ?_) | (with_reducible refine Grown.alloc ?_ _ _))) g4
      have G4 : Grown w w4 := Grown.trans (by repeat (first | (with_reducible assumption) | exact Grown.refl _ | (with_reducible refine Grown.drewN ?_ _) | (with_reducible refine Grown.drew ?_) | (with_reducible refine Grown.alloc ?_ _ _))) g4
      clear g4
      have z4_0 : w.heap.size < w4.heap.size := by omega
      have z4_0a : w.heap.size < w4.heap.size + 1 := by omega
      have z4_0b : w.heap.size < w4.heap.size + 1 + 1 := by omega
      have z4_0c : w.heap.size < w4.heap.size + 1 + 1 + 1 := by omega
      have z4_0d : w.heap.size < w4.heap.size + 1 + 1 + 1 + 1 := by omega
      have z4_1 : w.heap.size + 1 < w4.heap.size := by omega
      have z4_1a : w.heap.size + 1 < w4.heap.size + 1 := by omega
      have z4_1b : w.heap.size + 1 < w4.heap.size + 1 + 1 := by omega
      have z4_1c : w.heap.size + 1 < w4.heap.size + 1 + 1 + 1 := by omega
      have z4_1d : w.heap.size + 1 < w4.heap.size + 1 + 1 + 1 + 1 := by omega
      have z4_2 : w2.heap.size < w4.heap.size := by omega
      have z4_2a : w2.heap.size < w4.heap.size + 1 := by omega
      have z4_2b : w2.heap.size < w4.heap.size + 1 + 1 := by omega
      have z4_2c : w2.heap.size < w4.heap.size + 1 + 1 + 1 := by omega
      have z4_2d : w2.heap.size < w4.heap.size + 1 + 1 + 1 + 1 := by omega
      go_wp2_with fail
      go_ret
      exact ⟨by first | rfl | (simp; omega), by repeat (first | (with_reducible assumption) | exact Grown.refl _ | (with_reducible refine Grown.drewN ?_ _) | (with_reducible refine Grown.drew ?_) | (with_reducible refine Grown.alloc ?_ _ _))⟩

    · have V1 := Lib.hid h1
      clear h h1
      go_enter Try.func4, Try.ntmps4
      go_wp2_with fail
      refine (head_any _).mono ?_
      rintro e w1 ⟨rfl, g1⟩
      obtain ⟨c1, f1, z1⟩ := laid g1
      try simp at z1
      have G1 : Grown w w1 := Grown.trans (by repeat (first | (with_reducible assumption) | exact Grown.refl _ | (with_reducible refine Grown.drewN ?_ _) | (with_reducible refine Grown.drew ?_) | (with_reducible refine Grown.alloc ?_ _ _))) g1
      clear g1
      have z1_0 : w.heap.size < w1.heap.size := by omega
      have z1_0a : w.heap.size < w1.heap.size + 1 := by omega
      have z1_0b : w.heap.size < w1.heap.size + 1 + 1 := by omega
      have z1_0c : w.heap.size < w1.heap.size + 1 + 1 + 1 := by omega
      have z1_0d : w.heap.size < w1.heap.size + 1 + 1 + 1 + 1 := by omega
      have z1_1 : w.heap.size + 1 < w1.heap.size := by omega
      have z1_1a : w.heap.size + 1 < w1.heap.size + 1 := by omega
      have z1_1b : w.heap.size + 1 < w1.heap.size + 1 + 1 := by omega
      have z1_1c : w.heap.size + 1 < w1.heap.size + 1 + 1 + 1 := by omega
      have z1_1d : w.heap.size + 1 < w1.heap.size + 1 + 1 + 1 + 1 := by omega
      go_wp2_with fail
      refine (A.out _).mono ?_
      rintro e w2 ⟨rfl, g2⟩
      obtain ⟨c2, f2, z2⟩ := laid g2
      try simp [size_drewN] at z2
      have d2 := laid2 (w0 := w1) (by repeat (first | (with_reducible assumption) | exact Grown.refl _ | (with_reducible refine Grown.drewN ?_ _) | (with_reducible refine Grown.drew ?_) | (with_reducible refine Grown.alloc ?_ _ _))) g2
      have G2 : Grown w w2 := Grown.trans (by repeat (first | (with_reducible assumption) | exact Grown.refl _ | (with_reducible refine Grown.drewN ?_ _) | (with_reducible refine Grown.drew ?_) | (with_reducible refine Grown.alloc ?_ _ _))) g2
      clear g2
      have z2_0 : w.heap.size < w2.heap.size := by omega
      have z2_0a : w.heap.size < w2.heap.size + 1 := by omega
      have z2_0b : w.heap.size < w2.heap.size + 1 + 1 := by omega
      have z2_0c : w.heap.size < w2.heap.size + 1 + 1 + 1 := by omega
      have z2_0d : w.heap.size < w2.heap.size + 1 + 1 + 1 + 1 := by omega
      have z2_1 : w.heap.size + 1 < w2.heap.size := by omega
      have z2_1a : w.heap.size + 1 < w2.heap.size + 1 := by omega
      have z2_1b : w.heap.size + 1 < w2.heap.size + 1 + 1 := by omega
      have z2_1c : w.heap.size + 1 < w2.heap.size + 1 + 1 + 1 := by omega
      have z2_1d : w.heap.size + 1 < w2.heap.size + 1 + 1 + 1 + 1 := by omega
      go_wp2_with fail
      refine (refValid_no _ _ _ V1.out).mono ?_
      rintro e w3 ⟨rfl, g3⟩
      obtain ⟨c3, f3, z3⟩ := laid g3
      try simp at z3
      have d3 := laid2 (w0 := w2) (by repeat (first | (with_reducible assumption) | exact Grown.refl _ | (with_reducible refine Grown.drewN ?_ _) | (with_reducible refine Grown.drew ?_) | (with_reducible refine Grown.alloc ?_ _ _))) g3
      have G3 : Grown w w3 := Grown.trans (by repeat (first | (with_reducible assumption) | exact Grown.refl _ | (with_reducible refine Grown.drewN ?_ _) | (with_reducible refine Grown.drew ?_) | (with_reducible refine Grown.alloc ?_ _ _))) g3
      clear g3
      have z3_0 : w.heap.size < w3.heap.size := by omega
      have z3_0a : w.heap.size < w3.heap.size + 1 := by omega
      have z3_0b : w.heap.size < w3.heap.size + 1 + 1 := by omega
      have z3_0c : w.heap.size < w3.heap.size + 1 + 1 + 1 := by omega
      have z3_0d : w.heap.size < w3.heap.size + 1 + 1 + 1 + 1 := by omega
      have z3_1 : w.heap.size + 1 < w3.heap.size := by omega
      have z3_1a : w.heap.size + 1 < w3.heap.size + 1 := by omega
      have z3_1b : w.heap.size + 1 < w3.heap.size + 1 + 1 := by omega
      have z3_1c : w.heap.size + 1 < w3.heap.size + 1 + 1 + 1 := by omega
      have z3_1d : w.heap.size + 1 < w3.heap.size + 1 + 1 + 1 + 1 := by omega
      have z3_2 : w2.heap.size < w3.heap.size := by omega
      have z3_2a : w2.heap.size < w3.heap.size + 1 := by omega
      have z3_2b : w2.heap.size < w3.heap.size + 1 + 1 := by omega
      have z3_2c : w2.heap.size < w3.heap.size + 1 + 1 + 1 := by omega
      have z3_2d : w2.heap.size < w3.heap.size + 1 + 1 + 1 + 1 := by omega
      go_wp2_with fail
      go_ret
      exact ⟨by first | rfl | (simp; omega), by repeat (first | (with_reducible assumption) | exact Grown.refl _ | (with_reducible refine Grown.drewN ?_ _) | (with_reducible refine Grown.drew ?_) | (with_reducible refine Grown.alloc ?_ _ _))⟩


end Sn
end Go.Proofs.Ytpendmjfmhjibaa
