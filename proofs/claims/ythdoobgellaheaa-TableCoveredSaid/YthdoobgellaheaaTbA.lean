/-
  The small tests of the landed package table and of the reference.
-/
import Derived.Test.YthdoobgellaheaaTbSl
namespace Go.Proofs.Ythdoobgellaheaa
open Go.RowKit Wd
namespace Tb
theorem isFrom_c (n a b : Int) (w : World) : Calls Try.prog 31 #[.int .i64 n, .int .i64 a, .int .i64 b] w fun e w' => e = .returned (.bool (decide (a ≤ n ∧ n ≤ b))) ∧ w = w' := by
  by_cases h : a ≤ n
  · by_cases k : n ≤ b
    · go_enter Try.func31, Try.ntmps31
      go_wp2_with fail
      go_ret
      exact ⟨by simp [h, k], rfl⟩
    · go_enter Try.func31, Try.ntmps31
      go_wp2_with fail
      go_ret
      exact ⟨by simp [k], rfl⟩
  · go_enter Try.func31, Try.ntmps31
    go_wp2_with fail
    go_ret
    exact ⟨by simp; omega, rfl⟩
theorem in_c (n a b : Int) (w : World) : Calls Try.prog 29 #[.int .i64 n, .int .i64 a, .int .i64 b] w fun e w' => e = .returned (.bool (decide (a ≤ n ∧ n ≤ b))) ∧ w = w' := by
  by_cases h : a ≤ n
  · by_cases k : n ≤ b
    · go_enter Try.func29, Try.ntmps29
      go_wp2_with fail
      go_ret
      exact ⟨by simp [h, k], rfl⟩
    · go_enter Try.func29, Try.ntmps29
      go_wp2_with fail
      go_ret
      exact ⟨by simp [k], rfl⟩
  · go_enter Try.func29, Try.ntmps29
    go_wp2_with fail
    go_ret
    exact ⟨by simp; omega, rfl⟩
theorem isTemp_c (n : Int) (w : World) : Calls Try.prog 25 #[.int .i64 n] w fun e w' => e = .returned (.bool (decide (-1000 ≤ n ∧ n ≤ 1000))) ∧ w = w' := by
  have C := Lib.hid (isFrom_c n (-1000) 1000)
  generalize decide (-1000 ≤ n ∧ n ≤ 1000) = r at *
  go_enter Try.func25, Try.ntmps25
  go_wp2_with fail
  refine (C.out _).mono ?_
  rintro e w1 ⟨rfl, rfl⟩
  go_wp2_with fail
  go_ret
  exact ⟨rfl, rfl⟩
theorem isAge_c (n : Int) (w : World) : Calls Try.prog 26 #[.int .i64 n] w fun e w' => e = .returned (.bool (decide (0 ≤ n ∧ n ≤ 10000))) ∧ w = w' := by
  have C := Lib.hid (isFrom_c n 0 10000)
  generalize decide (0 ≤ n ∧ n ≤ 10000) = r at *
  go_enter Try.func26, Try.ntmps26
  go_wp2_with fail
  refine (C.out _).mono ?_
  rintro e w1 ⟨rfl, rfl⟩
  go_wp2_with fail
  go_ret
  exact ⟨rfl, rfl⟩
theorem isTime_c (n : Int) (w : World) : Calls Try.prog 27 #[.int .i64 n] w fun e w' => e = .returned (.bool (decide (0 ≤ n ∧ n ≤ 1000000000))) ∧ w = w' := by
  have C := Lib.hid (isFrom_c n 0 1000000000)
  generalize decide (0 ≤ n ∧ n ≤ 1000000000) = r at *
  go_enter Try.func27, Try.ntmps27
  go_wp2_with fail
  refine (C.out _).mono ?_
  rintro e w1 ⟨rfl, rfl⟩
  go_wp2_with fail
  go_ret
  exact ⟨rfl, rfl⟩
theorem isUse_c (t a s : Int) (w : World) : Calls Try.prog 17 #[.int .i64 t, .int .i64 a, .int .i64 s] w fun e w' => e = .returned (.bool (decide (Us t a s))) ∧ w = w' := by
  have HU : Hid (decide (Us t a s) = (decide (-1000 ≤ t ∧ t ≤ 1000) && (decide (0 ≤ a ∧ a ≤ 10000) && decide (0 ≤ s ∧ s ≤ 1000000000)))) := Lib.hid (by rw [Bool.eq_iff_iff]; simp only [Bool.and_eq_true, decide_eq_true_eq]; rfl)
  have C1 := Lib.hid (isTemp_c t)
  have C2 := Lib.hid (isAge_c a)
  have C3 := Lib.hid (isTime_c s)
  rw [HU.out]
  clear HU
  generalize decide (-1000 ≤ t ∧ t ≤ 1000) = r1 at *
  generalize decide (0 ≤ a ∧ a ≤ 10000) = r2 at *
  generalize decide (0 ≤ s ∧ s ≤ 1000000000) = r3 at *
  go_enter Try.func17, Try.ntmps17
  cases r1
  · go_wp2_with fail
    refine (C1.out _).mono ?_
    rintro e w1 ⟨rfl, rfl⟩
    go_wp2_with fail
    go_ret
    exact ⟨rfl, rfl⟩
  · go_wp2_with fail
    refine (C1.out _).mono ?_
    rintro e w1 ⟨rfl, rfl⟩
    go_wp2_with fail
    refine (C2.out _).mono ?_
    rintro e w1 ⟨rfl, rfl⟩
    cases r2
    · go_wp2_with fail
      go_ret
      exact ⟨rfl, rfl⟩
    · go_wp2_with fail
      refine (C3.out _).mono ?_
      rintro e w1 ⟨rfl, rfl⟩
      go_wp2_with fail
      go_ret
      exact ⟨rfl, rfl⟩
theorem use_c (t a s : Int) (w : World) : Calls Try.prog 20 #[.int .i64 t, .int .i64 a, .int .i64 s] w fun e w' => e = .returned (.bool (decide (Us t a s))) ∧ w = w' := by
  have HU : Hid (decide (Us t a s) = (decide (-1000 ≤ t ∧ t ≤ 1000) && (decide (0 ≤ a ∧ a ≤ 10000) && decide (0 ≤ s ∧ s ≤ 1000000000)))) := Lib.hid (by rw [Bool.eq_iff_iff]; simp only [Bool.and_eq_true, decide_eq_true_eq]; rfl)
  have C1 := Lib.hid (in_c t (-1000) 1000)
  have C2 := Lib.hid (in_c a 0 10000)
  have C3 := Lib.hid (in_c s 0 1000000000)
  rw [HU.out]
  clear HU
  generalize decide (-1000 ≤ t ∧ t ≤ 1000) = r1 at *
  generalize decide (0 ≤ a ∧ a ≤ 10000) = r2 at *
  generalize decide (0 ≤ s ∧ s ≤ 1000000000) = r3 at *
  go_enter Try.func20, Try.ntmps20
  cases r1
  · go_wp2_with fail
    refine (C1.out _).mono ?_
    rintro e w1 ⟨rfl, rfl⟩
    go_wp2_with fail
    go_ret
    exact ⟨rfl, rfl⟩
  · go_wp2_with fail
    refine (C1.out _).mono ?_
    rintro e w1 ⟨rfl, rfl⟩
    go_wp2_with fail
    refine (C2.out _).mono ?_
    rintro e w1 ⟨rfl, rfl⟩
    cases r2
    · go_wp2_with fail
      go_ret
      exact ⟨rfl, rfl⟩
    · go_wp2_with fail
      refine (C3.out _).mono ?_
      rintro e w1 ⟨rfl, rfl⟩
      go_wp2_with fail
      go_ret
      exact ⟨rfl, rfl⟩
end Tb
end Go.Proofs.Ythdoobgellaheaa
