/-
  The examples at the head of each law of layer 1: they all hold.
-/
import Derived.Test.YtibjemalggjcgaaExactRef
namespace Go.Proofs.Ytibjemalggjcgaa
open Go.RowKit
namespace Ex

theorem bd_of_wf {x : Int} (h : (Lit.int .i64 x).wf = true) : -9223372036854775808 ≤ x ∧ x ≤ 9223372036854775807 := by
  simp [Lit.wf, IntKind.min, IntKind.max, IntKind.signed, IntKind.bits] at h
  exact ⟨by omega, by omega⟩

theorem ex1 (w : World) : Calls Try.prog 11 #[.int .i64 (-7), .int .i64 2] w fun e w' => e = .returned (.tuple #[.int .i64 (-4), .int .i64 0]) ∧ Grown w w' := by
  have h := floor_ok (-7) 2 w ⟨by omega, by omega, by omega⟩
  rwa [show fl (-7) 2 = -4 from by decide] at h
theorem ex2 (w : World) : Calls Try.prog 13 #[.int .i64 (-7), .int .i64 2] w fun e w' => e = .returned (.tuple #[.int .i64 (-3), .int .i64 0]) ∧ Grown w w' := by
  have h := ceil_ok (-7) 2 w ⟨by omega, by omega, by omega⟩
  rwa [show ce (-7) 2 = -3 from by decide] at h
theorem ex3 (w : World) : Calls Try.prog 11 #[.int .i64 7, .int .i64 (-2)] w fun e w' => e = .returned (.tuple #[.int .i64 (-4), .int .i64 0]) ∧ Grown w w' := by
  have h := floor_ok 7 (-2) w ⟨by omega, by omega, by omega⟩
  rwa [show fl 7 (-2) = -4 from by decide] at h
theorem ex4 (w : World) : Calls Try.prog 15 #[.int .i64 (-10), .int .i64 3, .int .i64 4] w fun e w' => e = .returned (.tuple #[.int .i64 (-8), .int .i64 (-7), .int .i64 0]) ∧ Grown w w' := by
  have h := scale_ok (-10) 3 4 w ⟨by omega, by omega, by omega⟩
  rw [show fl (-10 * 3) 4 = -8 from by decide, show ce (-10 * 3) 4 = -7 from by decide] at h
  exact h ⟨by omega, by omega⟩ ⟨by omega, by omega⟩
theorem ex5 (w : World) : Calls Try.prog 15 #[.int .i64 1000000000000, .int .i64 2, .int .i64 1] w fun e w' => e = .returned (.tuple #[.int .i64 0, .int .i64 0, .int .i64 3]) ∧ Grown w w' := by
  have h := scale_range 1000000000000 2 1 w ⟨by omega, by omega, by omega⟩
  rw [show fl (1000000000000 * 2) 1 = 2000000000000 from by decide, show ce (1000000000000 * 2) 1 = 2000000000000 from by decide] at h
  exact h (fun ⟨h1, _⟩ => by have := h1.2; omega)
theorem ex6 (w : World) : Calls Try.prog 17 #[.int .i64 24] w fun e w' => e = .returned (.tuple #[.int .i64 4, .int .i64 0]) ∧ Grown w w' := by
  have h := root_ok 24 w (by omega) (by omega)
  rwa [show isq 24 = 4 from isq_is (by omega) (by omega) (by omega)] at h
theorem ex7 (w : World) : Calls Try.prog 17 #[.int .i64 25] w fun e w' => e = .returned (.tuple #[.int .i64 5, .int .i64 0]) ∧ Grown w w' := by
  have h := root_ok 25 w (by omega) (by omega)
  rwa [show isq 25 = 5 from isq_is (by omega) (by omega) (by omega)] at h
theorem ex8 (w : World) : Calls Try.prog 17 #[.int .i64 1000000000000000000] w fun e w' => e = .returned (.tuple #[.int .i64 1000000000, .int .i64 0]) ∧ Grown w w' := by
  have h := root_ok 1000000000000000000 w (by omega) (by omega)
  rwa [show isq 1000000000000000000 = 1000000000 from isq_is (by omega) (by omega) (by omega)] at h
theorem ex9 (w : World) : Calls Try.prog 17 #[.int .i64 (-1)] w fun e w' => e = .returned (.tuple #[.int .i64 0, .int .i64 1]) ∧ Grown w w' :=
  root_bad (-1) w (by omega)

set_option maxRecDepth 100000 in
set_option maxHeartbeats 800000 in
theorem head_any (w : World) : Calls Try.prog 10 #[] w fun e w' => e = .returned (.bool true) ∧ Grown w w' := by
  go_enter Try.func10, Try.ntmps10
  go_wp2_with fail
  refine (ex1 _).mono ?_
  rintro e w1 ⟨rfl, g1⟩
  go_wp2_with fail
  refine (ex2 _).mono ?_
  rintro e w2 ⟨rfl, g2⟩
  go_wp2_with fail
  refine (ex3 _).mono ?_
  rintro e w3 ⟨rfl, g3⟩
  go_wp2_with fail
  refine (ex4 _).mono ?_
  rintro e w4 ⟨rfl, g4⟩
  go_wp2_with fail
  refine (ex5 _).mono ?_
  rintro e w5 ⟨rfl, g5⟩
  go_wp2_with fail
  refine (ex6 _).mono ?_
  rintro e w6 ⟨rfl, g6⟩
  go_wp2_with fail
  refine (ex7 _).mono ?_
  rintro e w7 ⟨rfl, g7⟩
  go_wp2_with fail
  refine (ex8 _).mono ?_
  rintro e w8 ⟨rfl, g8⟩
  go_wp2_with fail
  refine (ex9 _).mono ?_
  rintro e w9 ⟨rfl, g9⟩
  go_wp2_with fail
  go_ret
  exact ⟨rfl, Grown.trans g1 (Grown.trans g2 (Grown.trans g3 (Grown.trans g4 (Grown.trans g5 (Grown.trans g6 (Grown.trans g7 (Grown.trans g8 g9)))))))⟩
end Ex
end Go.Proofs.Ytibjemalggjcgaa
