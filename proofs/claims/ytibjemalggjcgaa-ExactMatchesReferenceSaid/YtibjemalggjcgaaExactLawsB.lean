/-
  The walks of the other laws of layer 1: each returns true.
-/
import Derived.Test.YtibjemalggjcgaaExactFacts
namespace Go.Proofs.Ytibjemalggjcgaa
open Go.RowKit
namespace Ex

set_option maxRecDepth 100000 in
set_option maxHeartbeats 800000 in
theorem law_matches (n a b : Int) (w : World) :
    Calls Try.prog 3 #[.int .i64 n, .int .i64 a, .int .i64 b] w fun e w' => e = .returned (.bool true) ∧ Grown w w' := by
  go_enter Try.func3, Try.ntmps3
  go_wp2_with fail
  refine (head_any _).mono ?_
  rintro e w1 ⟨rfl, g1⟩
  go_wp2_with fail
  refine (floor_any _ _ _).mono ?_
  rintro e w2 ⟨rfl, g2⟩
  go_wp2_with fail
  refine (refFloor_any _ _ _).mono ?_
  rintro e w' ⟨rfl, rfl⟩
  go_wp2_with fail
  refine (ceil_any _ _ _).mono ?_
  rintro e w3 ⟨rfl, g3⟩
  go_wp2_with fail
  refine (refCeil_any _ _ _).mono ?_
  rintro e w' ⟨rfl, rfl⟩
  go_wp2_with fail
  refine (scale_any _ _ _ _).mono ?_
  rintro e w4 ⟨rfl, g4⟩
  go_wp2_with fail
  refine (refScale_any _ _ _ _).mono ?_
  rintro e w' ⟨rfl, rfl⟩
  go_wp2_with fail
  refine (root_any _ _).mono ?_
  rintro e w5 ⟨rfl, g5⟩
  go_wp2_with fail
  refine (refRoot_any _ _).mono ?_
  rintro e w' ⟨rfl, rfl⟩
  go_wp2_with fail
  go_ret
  exact ⟨rfl, Grown.trans g1 (Grown.trans g2 (Grown.trans g3 (Grown.trans g4 g5)))⟩

set_option maxRecDepth 100000 in
set_option maxHeartbeats 800000 in
theorem law_roots (n m : Int) (w : World) :
    Calls Try.prog 8 #[.int .i64 n, .int .i64 m] w fun e w' => e = .returned (.bool true) ∧ Grown w w' := by
  have R1 : Hid (∃ r v : Int, (∀ w, Calls Try.prog 17 #[.int .i64 n] w fun e w' => e = .returned (.tuple #[.int .i64 r, .int .i64 v]) ∧ Grown w w') ∧ ((v = 0 ∧ 0 ≤ r ∧ r ≤ 1000000000 ∧ r * r ≤ n ∧ n < (r + 1) * (r + 1)) ∨ v = 1)) := Lib.hid (by
    by_cases h : 0 ≤ n ∧ n ≤ 1000000000000000000
    · obtain ⟨s1, s2⟩ := isq_spec h.1
      exact ⟨isq n, 0, (root_ok n · h.1 h.2), Or.inl ⟨rfl, isq_nonneg n, isq_bd h.1 h.2, s1, s2⟩⟩
    · exact ⟨0, 1, (root_bad n · (by omega)), Or.inr rfl⟩)
  obtain ⟨r, v, R, hr⟩ := R1.out
  clear R1
  have R := Lib.hid R
  by_cases hm : 0 ≤ m ∧ m ≤ 1000000000
  · obtain ⟨m0, m1⟩ := hm
    obtain ⟨p0, p1⟩ := sq_bd m0 (by omega)
    have p2 : m * m ≤ 1000000000000000000 := by have := sq_le m0 m1; omega
    have S : Hid (∀ w, Calls Try.prog 17 #[.int .i64 (m * m)] w fun e w' => e = .returned (.tuple #[.int .i64 m, .int .i64 0]) ∧ Grown w w') := Lib.hid (fun w => by
      have h := root_ok (m * m) w p0 p2
      rwa [isq_is m0 (Int.le_refl _) (sq_lt m0 (by omega))] at h)
    rcases hr with ⟨rfl, r0, r1, r2, r3⟩ | rfl
    · obtain ⟨q0, q1⟩ := sq_bd r0 (by omega)
      obtain ⟨q2, q3⟩ := sq_bd (show 0 ≤ r + 1 by omega) (by omega)
      go_enter Try.func8, Try.ntmps8
      go_wp2_with fail
      refine (head_any _).mono ?_
      rintro e w1 ⟨rfl, g1⟩
      go_wp2_with fail
      refine (R.out _).mono ?_
      rintro e w2 ⟨rfl, g2⟩
      go_wp2_with fail
      refine (refIn_yes _ _ _ m0 m1 _).mono ?_
      rintro e w' ⟨rfl, rfl⟩
      go_wp2_with fail
      refine (S.out _).mono ?_
      rintro e w3 ⟨rfl, g3⟩
      go_wp2_with fail
      go_ret
      exact ⟨rfl, Grown.trans g1 (Grown.trans g2 g3)⟩
    · go_enter Try.func8, Try.ntmps8
      go_wp2_with fail
      refine (head_any _).mono ?_
      rintro e w1 ⟨rfl, g1⟩
      go_wp2_with fail
      refine (R.out _).mono ?_
      rintro e w2 ⟨rfl, g2⟩
      go_wp2_with fail
      refine (refIn_yes _ _ _ m0 m1 _).mono ?_
      rintro e w' ⟨rfl, rfl⟩
      go_wp2_with fail
      refine (S.out _).mono ?_
      rintro e w3 ⟨rfl, g3⟩
      go_wp2_with fail
      go_ret
      exact ⟨rfl, Grown.trans g1 (Grown.trans g2 g3)⟩
  · have H : Hid (m < 0 ∨ 1000000000 < m) := Lib.hid (by omega)
    clear hm
    rcases hr with ⟨rfl, r0, r1, r2, r3⟩ | rfl
    · obtain ⟨q0, q1⟩ := sq_bd r0 (by omega)
      obtain ⟨q2, q3⟩ := sq_bd (show 0 ≤ r + 1 by omega) (by omega)
      go_enter Try.func8, Try.ntmps8
      go_wp2_with fail
      refine (head_any _).mono ?_
      rintro e w1 ⟨rfl, g1⟩
      go_wp2_with fail
      refine (R.out _).mono ?_
      rintro e w2 ⟨rfl, g2⟩
      go_wp2_with fail
      refine (refIn_no _ _ _ H.out _).mono ?_
      rintro e w' ⟨rfl, rfl⟩
      go_wp2_with fail
      go_ret
      exact ⟨rfl, Grown.trans g1 g2⟩
    · go_enter Try.func8, Try.ntmps8
      go_wp2_with fail
      refine (head_any _).mono ?_
      rintro e w1 ⟨rfl, g1⟩
      go_wp2_with fail
      refine (R.out _).mono ?_
      rintro e w2 ⟨rfl, g2⟩
      go_wp2_with fail
      refine (refIn_no _ _ _ H.out _).mono ?_
      rintro e w' ⟨rfl, rfl⟩
      go_wp2_with fail
      go_ret
      exact ⟨rfl, Grown.trans g1 g2⟩
end Ex
end Go.Proofs.Ytibjemalggjcgaa
