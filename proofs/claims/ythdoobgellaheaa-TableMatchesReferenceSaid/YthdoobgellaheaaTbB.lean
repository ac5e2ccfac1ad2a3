/-
  Whether a row is right, and whether it is for a use: the landed package table, and the reference.
-/
import Derived.Test.YthdoobgellaheaaTbA
import Derived.Laws.EntriesVeiled
namespace Go.Proofs.Ythdoobgellaheaa
open Go.RowKit Wd
namespace Tb
set_option maxRecDepth 100000

/-- A row as a value. -/
def rv (r : Rw) : Value := .agg #[.int .i64 r.lo, .int .i64 r.hi, .int .i64 r.age, .int .i64 r.since, .int .i64 r.part, .int .i64 r.turn]
theorem rt_and (r : Rw) : decide (Rt r) = (decide (-1000 ≤ r.lo ∧ r.lo ≤ 1000) && (decide (-1000 ≤ r.hi ∧ r.hi ≤ 1000) && (decide (r.lo ≤ r.hi) && (decide (0 ≤ r.age ∧ r.age ≤ 10000) && (decide (0 ≤ r.since ∧ r.since ≤ 1000000000) && (decide (0 ≤ r.part ∧ r.part ≤ 500) && decide (0 ≤ r.turn ∧ r.turn ≤ 8))))))) := by
  rw [Bool.eq_iff_iff]
  simp only [Bool.and_eq_true, decide_eq_true_eq]
  unfold Rt
  omega
set_option maxHeartbeats 2000000 in
theorem isWrong_c (r : Rw) (w : World) : Calls Try.prog 23 #[rv r] w fun e w' => e = .returned (.bool (!decide (Rt r))) ∧ Grew w w' := by
  rw [rt_and]
  unfold rv
  have C0 := Lib.hid (isTemp_c (r.lo))
  have C1 := Lib.hid (isTemp_c (r.hi))
  have C3 := Lib.hid (isAge_c (r.age))
  have C4 := Lib.hid (isTime_c (r.since))
  have C5 := Lib.hid (isFrom_c (r.part) 0 500)
  have C6 := Lib.hid (isFrom_c (r.turn) 0 8)
  rcases r with ⟨lo, hi, age, since, part, turn⟩
  simp only at *
  generalize decide (-1000 ≤ lo ∧ lo ≤ 1000) = r0 at *
  generalize decide (-1000 ≤ hi ∧ hi ≤ 1000) = r1 at *
  generalize decide (0 ≤ age ∧ age ≤ 10000) = r3 at *
  generalize decide (0 ≤ since ∧ since ≤ 1000000000) = r4 at *
  generalize decide (0 ≤ part ∧ part ≤ 500) = r5 at *
  generalize decide (0 ≤ turn ∧ turn ≤ 8) = r6 at *
  go_enter Try.func23, Try.ntmps23
  go_wp2_with fail
  refine (C0.out _).mono ?_
  rintro e w1 ⟨rfl, rfl⟩
  cases r0
  · go_wp2_with fail
    go_ret
    exact ⟨by simp, (Grew.refl _).alloc _ _⟩
  · go_wp2_with fail
    refine (C1.out _).mono ?_
    rintro e w1 ⟨rfl, rfl⟩
    cases r1
    · go_wp2_with fail
      go_ret
      exact ⟨by simp, (Grew.refl _).alloc _ _⟩
    · by_cases c2 : lo ≤ hi
      · go_wp2_with fail
        refine (C3.out _).mono ?_
        rintro e w1 ⟨rfl, rfl⟩
        cases r3
        · go_wp2_with fail
          go_ret
          exact ⟨by simp [c2], (Grew.refl _).alloc _ _⟩
        · go_wp2_with fail
          refine (C4.out _).mono ?_
          rintro e w1 ⟨rfl, rfl⟩
          cases r4
          · go_wp2_with fail
            go_ret
            exact ⟨by simp [c2], (Grew.refl _).alloc _ _⟩
          · go_wp2_with fail
            refine (C5.out _).mono ?_
            rintro e w1 ⟨rfl, rfl⟩
            cases r5
            · go_wp2_with fail
              go_ret
              exact ⟨by simp [c2], (Grew.refl _).alloc _ _⟩
            · go_wp2_with fail
              refine (C6.out _).mono ?_
              rintro e w1 ⟨rfl, rfl⟩
              cases r6
              · go_wp2_with fail
                go_ret
                exact ⟨by simp [c2], (Grew.refl _).alloc _ _⟩
              · go_wp2_with fail
                go_ret
                exact ⟨by simp [c2], (Grew.refl _).alloc _ _⟩
      · go_wp2_with fail
        go_ret
        exact ⟨by simp [c2], (Grew.refl _).alloc _ _⟩
theorem rt_and2 (r : Rw) : decide (Rt r) = (decide (-1000 ≤ r.lo ∧ r.lo ≤ 1000) && (decide (r.lo ≤ r.hi ∧ r.hi ≤ 1000) && (decide (0 ≤ r.age ∧ r.age ≤ 10000) && (decide (0 ≤ r.since ∧ r.since ≤ 1000000000) && (decide (0 ≤ r.part ∧ r.part ≤ 500) && decide (0 ≤ r.turn ∧ r.turn ≤ 8)))))) := by
  rw [Bool.eq_iff_iff]
  simp only [Bool.and_eq_true, decide_eq_true_eq]
  unfold Rt
  omega
set_option maxHeartbeats 2000000 in
theorem row_c (r : Rw) (w : World) : Calls Try.prog 24 #[rv r] w fun e w' => e = .returned (.bool (decide (Rt r))) ∧ Grew w w' := by
  rw [rt_and2]
  unfold rv
  have C0 := Lib.hid (in_c (r.lo) (-1000) 1000)
  have C1 := Lib.hid (in_c (r.hi) r.lo 1000)
  have C2 := Lib.hid (in_c (r.age) 0 10000)
  have C3 := Lib.hid (in_c (r.since) 0 1000000000)
  have C4 := Lib.hid (in_c (r.part) 0 500)
  have C5 := Lib.hid (in_c (r.turn) 0 8)
  rcases r with ⟨lo, hi, age, since, part, turn⟩
  simp only at *
  generalize decide (-1000 ≤ lo ∧ lo ≤ 1000) = r0 at *
  generalize decide (lo ≤ hi ∧ hi ≤ 1000) = r1 at *
  generalize decide (0 ≤ age ∧ age ≤ 10000) = r2 at *
  generalize decide (0 ≤ since ∧ since ≤ 1000000000) = r3 at *
  generalize decide (0 ≤ part ∧ part ≤ 500) = r4 at *
  generalize decide (0 ≤ turn ∧ turn ≤ 8) = r5 at *
  go_enter Try.func24, Try.ntmps24
  go_wp2_with fail
  refine (C0.out _).mono ?_
  rintro e w1 ⟨rfl, rfl⟩
  cases r0
  · go_wp2_with fail
    go_ret
    exact ⟨rfl, (Grew.refl _).alloc _ _⟩
  · go_wp2_with fail
    refine (C1.out _).mono ?_
    rintro e w1 ⟨rfl, rfl⟩
    cases r1
    · go_wp2_with fail
      go_ret
      exact ⟨rfl, (Grew.refl _).alloc _ _⟩
    · go_wp2_with fail
      refine (C2.out _).mono ?_
      rintro e w1 ⟨rfl, rfl⟩
      cases r2
      · go_wp2_with fail
        go_ret
        exact ⟨rfl, (Grew.refl _).alloc _ _⟩
      · go_wp2_with fail
        refine (C3.out _).mono ?_
        rintro e w1 ⟨rfl, rfl⟩
        cases r3
        · go_wp2_with fail
          go_ret
          exact ⟨rfl, (Grew.refl _).alloc _ _⟩
        · go_wp2_with fail
          refine (C4.out _).mono ?_
          rintro e w1 ⟨rfl, rfl⟩
          cases r4
          · go_wp2_with fail
            go_ret
            exact ⟨rfl, (Grew.refl _).alloc _ _⟩
          · go_wp2_with fail
            refine (C5.out _).mono ?_
            rintro e w1 ⟨rfl, rfl⟩
            cases r5
            · go_wp2_with fail
              go_ret
              exact ⟨rfl, (Grew.refl _).alloc _ _⟩
            · go_wp2_with fail
              go_ret
              exact ⟨rfl, (Grew.refl _).alloc _ _⟩
theorem fr_and (t a s : Int) (r : Rw) : decide (Fr t a s r) = (decide (r.lo ≤ t ∧ t ≤ r.hi) && (decide (a ≤ r.age) && decide (s ≤ r.since))) := by
  rw [Bool.eq_iff_iff]
  simp only [Bool.and_eq_true, decide_eq_true_eq]
  unfold Fr
  omega
set_option maxHeartbeats 2000000 in
theorem for_c (t a s : Int) (r : Rw) (w : World) : Calls Try.prog 30 #[rv r, .int .i64 t, .int .i64 a, .int .i64 s] w fun e w' => e = .returned (.bool (decide (Fr t a s r))) ∧ Grew w w' := by
  rw [fr_and]
  unfold rv
  have C0 := Lib.hid (in_c t r.lo r.hi)
  rcases r with ⟨lo, hi, age, since, part, turn⟩
  simp only at *
  generalize decide (lo ≤ t ∧ t ≤ hi) = r0 at *
  go_enter Try.func30, Try.ntmps30
  go_wp2_with fail
  refine (C0.out _).mono ?_
  rintro e w1 ⟨rfl, rfl⟩
  cases r0
  · go_wp2_with fail
    go_ret
    exact ⟨rfl, (Grew.refl _).alloc _ _⟩
  · by_cases c1 : a ≤ age
    · by_cases c2 : s ≤ since
      · go_wp2_with fail
        go_ret
        exact ⟨by simp [c1, c2], (Grew.refl _).alloc _ _⟩
      · go_wp2_with fail
        go_ret
        exact ⟨by simp [c1], (Grew.refl _).alloc _ _⟩
    · go_wp2_with fail
      go_ret
      exact ⟨by simp; omega, (Grew.refl _).alloc _ _⟩
theorem run_pair (x0 x1 x2 x3 x4 x5 x6 x7 : Int) (w : World) :
    (Instr.index 47 (.agg #[.int .i64 x0, .int .i64 x1, .int .i64 x2, .int .i64 x3, .int .i64 x4, .int .i64 x5, .int .i64 x6, .int .i64 x7]) (.int .i64 0)).run Try.prog w = .ok (.agg #[.int .i64 x0, .int .i64 x1]) w ∧
    (Instr.index 47 (.agg #[.int .i64 x0, .int .i64 x1, .int .i64 x2, .int .i64 x3, .int .i64 x4, .int .i64 x5, .int .i64 x6, .int .i64 x7]) (.int .i64 1)).run Try.prog w = .ok (.agg #[.int .i64 x2, .int .i64 x3]) w ∧
    (Instr.index 47 (.agg #[.int .i64 x0, .int .i64 x1, .int .i64 x2, .int .i64 x3, .int .i64 x4, .int .i64 x5, .int .i64 x6, .int .i64 x7]) (.int .i64 2)).run Try.prog w = .ok (.agg #[.int .i64 x4, .int .i64 x5]) w ∧
    (Instr.index 47 (.agg #[.int .i64 x0, .int .i64 x1, .int .i64 x2, .int .i64 x3, .int .i64 x4, .int .i64 x5, .int .i64 x6, .int .i64 x7]) (.int .i64 3)).run Try.prog w = .ok (.agg #[.int .i64 x6, .int .i64 x7]) w := by
  refine ⟨?_, ?_, ?_, ?_⟩ <;> kernel_rfl
set_option maxHeartbeats 8000000 in
/-- The closure for a use. -/
theorem forUse_c (t a s : Int) (b0 b1 b2 : Nat) (r : Rw) (w : World) (h0 : w.cell? ⟨b0, 0, none⟩ = some (.int .i64 t)) (h1 : w.cell? ⟨b1, 0, none⟩ = some (.int .i64 a)) (h2 : w.cell? ⟨b2, 0, none⟩ = some (.int .i64 s))
    (l0 : b0 < w.heap.size) (l1 : b1 < w.heap.size) (l2 : b2 < w.heap.size) :
    Calls Try.prog 28 #[rv r, .pointer (some ⟨b0, 0, none⟩), .pointer (some ⟨b1, 0, none⟩), .pointer (some ⟨b2, 0, none⟩)] w fun e w' => e = .returned (.bool (decide (Fr t a s r))) ∧ Grew w w' := by
  have HF : Hid (decide (Fr t a s r) = (decide (r.lo ≤ t) && (decide (t ≤ r.hi) && (decide (a ≤ r.age) && decide (s ≤ r.since))))) := Lib.hid (by
    rw [Bool.eq_iff_iff]
    simp only [Bool.and_eq_true, decide_eq_true_eq]
    unfold Fr
    omega)
  rw [HF.out]
  clear HF
  unfold rv
  rcases r with ⟨lo, hi, age, since, part, turn⟩
  simp only at *
  have hix0 := fun w => (run_pair lo t t hi a age s since w).1
  have hix1 := fun w => (run_pair lo t t hi a age s since w).2.1
  have hix2 := fun w => (run_pair lo t t hi a age s since w).2.2.1
  have hix3 := fun w => (run_pair lo t t hi a age s since w).2.2.2
  have m0 : b0 < w.heap.size + 1 := by omega
  have m1 : b1 < w.heap.size + 1 := by omega
  have m2 : b2 < w.heap.size + 1 := by omega
  go_enter Try.func28, Try.ntmps28
  go_wp2_with fail
  refine wp_loop_rounds 5 ?_
  rw [rounds_succ]
  by_cases c0 : lo ≤ t
  · go_wp2_with fail
    rw [rounds_succ]
    by_cases c1 : t ≤ hi
    · go_wp2_with fail
      rw [rounds_succ]
      by_cases c2 : a ≤ age
      · go_wp2_with fail
        rw [rounds_succ]
        by_cases c3 : s ≤ since
        · go_wp2_with fail
          rw [rounds_succ]
          go_wp2_with fail
          go_ret
          exact ⟨by first | rfl | (simp; done) | (simp; omega), by (repeat' (first | (with_reducible exact Grew.refl _) | (with_reducible refine Grew.alloc ?_ _ _)))⟩
        · go_wp2_with fail
          go_ret
          exact ⟨by first | rfl | (simp; done) | (simp; omega), by (repeat' (first | (with_reducible exact Grew.refl _) | (with_reducible refine Grew.alloc ?_ _ _)))⟩
      · go_wp2_with fail
        go_ret
        exact ⟨by first | rfl | (simp; done) | (simp; omega), by (repeat' (first | (with_reducible exact Grew.refl _) | (with_reducible refine Grew.alloc ?_ _ _)))⟩
    · go_wp2_with fail
      go_ret
      exact ⟨by first | rfl | (simp; done) | (simp; omega), by (repeat' (first | (with_reducible exact Grew.refl _) | (with_reducible refine Grew.alloc ?_ _ _)))⟩
  · go_wp2_with fail
    go_ret
    exact ⟨by first | rfl | (simp; done) | (simp; omega), by (repeat' (first | (with_reducible exact Grew.refl _) | (with_reducible refine Grew.alloc ?_ _ _)))⟩
end Tb
end Go.Proofs.Ythdoobgellaheaa
