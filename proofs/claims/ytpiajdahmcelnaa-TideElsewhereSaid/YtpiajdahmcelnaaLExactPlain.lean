/-
  Plain integers: quotients rounded down and up, and what is known of them. No Go, no program.
-/
import Derived.WalkKit
namespace Go.Proofs.Ytpiajdahmcelnaa
namespace Ex

/-- The quotient rounded down: b is not 0. -/
def fl (a b : Int) : Int := if 0 < b then a / b else (-a) / (-b)
/-- The quotient rounded up. -/
def ce (a b : Int) : Int := -(fl (-a) b)

theorem ediv_is {a b q r : Int} (hb : 0 < b) (h : r + b * q = a) (h0 : 0 ≤ r) (h1 : r < b) : a / b = q :=
  ((Int.ediv_emod_unique hb).2 ⟨h, h0, h1⟩).1

/-- What Go's division leaves. -/
theorem cut_facts (a b : Int) (_hb : b ≠ 0) : b * a.tdiv b + a.tmod b = a ∧ (0 ≤ a → 0 ≤ a.tmod b) ∧ (a ≤ 0 → a.tmod b ≤ 0) ∧ (0 < b → a.tmod b < b ∧ -b < a.tmod b) ∧ (b < 0 → a.tmod b < -b ∧ b < a.tmod b) := by
  refine ⟨Int.mul_tdiv_add_tmod a b, fun h => Int.tmod_nonneg b h, fun h => ?_, fun h => ?_, fun h => ?_⟩
  · have := Int.tmod_nonneg b (show (0 : Int) ≤ -a by omega)
    rw [Int.neg_tmod] at this; omega
  · have h1 := Int.tmod_lt_of_pos a h
    have h2 := Int.tmod_lt_of_pos (-a) h
    rw [Int.neg_tmod] at h2; omega
  · have h1 := Int.tmod_lt_of_pos a (show (0 : Int) < -b by omega)
    have h2 := Int.tmod_lt_of_pos (-a) (show (0 : Int) < -b by omega)
    rw [Int.neg_tmod] at h2
    rw [Int.tmod_neg] at h1 h2; omega

theorem fl_whole {a b : Int} (hb : b ≠ 0) (h : a.tmod b = 0) : fl a b = a.tdiv b ∧ ce a b = a.tdiv b := by
  obtain ⟨e, -, -, hp, hn⟩ := cut_facts a b hb
  have e1 : b * -(a.tdiv b) = -(b * a.tdiv b) := Int.mul_neg _ _
  have e2 : -b * (a.tdiv b) = -(b * a.tdiv b) := Int.neg_mul _ _
  have e3 : -b * -(a.tdiv b) = b * a.tdiv b := Int.neg_mul_neg _ _
  unfold ce fl
  by_cases h0 : 0 < b
  · rw [if_pos h0, if_pos h0, ediv_is (q := a.tdiv b) (r := 0) h0 (by omega) (by omega) (by omega), ediv_is (q := -(a.tdiv b)) (r := 0) h0 (by omega) (by omega) (by omega)]; omega
  · rw [if_neg h0, if_neg h0, ediv_is (q := a.tdiv b) (r := 0) (b := -b) (by omega) (by omega) (by omega) (by omega), ediv_is (q := -(a.tdiv b)) (r := 0) (b := -b) (by omega) (by omega) (by omega) (by omega)]; omega

/-- The true quotient is above what Go's division leaves. -/
theorem fl_above {a b : Int} (hb : b ≠ 0) (h : a.tmod b ≠ 0) (hs : (a.tmod b < 0) ↔ (b < 0)) : fl a b = a.tdiv b ∧ ce a b = a.tdiv b + 1 := by
  obtain ⟨e, -, -, hp, hn⟩ := cut_facts a b hb
  have e1 : b * (-(a.tdiv b) - 1) = -(b * a.tdiv b) - b := by rw [Int.mul_sub, Int.mul_neg, Int.mul_one]
  have e2 : -b * (a.tdiv b) = -(b * a.tdiv b) := Int.neg_mul _ _
  have e3 : -b * (-(a.tdiv b) - 1) = b * a.tdiv b + b := by rw [Int.mul_sub, Int.neg_mul_neg, Int.mul_one]; omega
  unfold ce fl
  by_cases h0 : 0 < b
  · have hp := hp h0
    rw [if_pos h0, if_pos h0, ediv_is (q := a.tdiv b) (r := a.tmod b) h0 (by omega) (by omega) (by omega), ediv_is (q := -(a.tdiv b) - 1) (r := b - a.tmod b) h0 (by omega) (by omega) (by omega)]; omega
  · have hn := hn (by omega)
    rw [if_neg h0, if_neg h0, ediv_is (q := a.tdiv b) (r := -(a.tmod b)) (b := -b) (by omega) (by omega) (by omega) (by omega), ediv_is (q := -(a.tdiv b) - 1) (r := -b + a.tmod b) (b := -b) (by omega) (by omega) (by omega) (by omega)]; omega

/-- The true quotient is below it. -/
theorem fl_below {a b : Int} (hb : b ≠ 0) (h : a.tmod b ≠ 0) (hs : ¬((a.tmod b < 0) ↔ (b < 0))) : fl a b = a.tdiv b - 1 ∧ ce a b = a.tdiv b := by
  obtain ⟨e, -, -, hp, hn⟩ := cut_facts a b hb
  have e1 : b * (a.tdiv b - 1) = b * a.tdiv b - b := by rw [Int.mul_sub, Int.mul_one]
  have e2 : b * -(a.tdiv b) = -(b * a.tdiv b) := Int.mul_neg _ _
  have e3 : -b * (a.tdiv b - 1) = -(b * a.tdiv b) + b := by rw [Int.mul_sub, Int.neg_mul, Int.mul_one]; omega
  have e4 : -b * -(a.tdiv b) = b * a.tdiv b := Int.neg_mul_neg _ _
  unfold ce fl
  by_cases h0 : 0 < b
  · have hp := hp h0
    rw [if_pos h0, if_pos h0, ediv_is (q := a.tdiv b - 1) (r := b + a.tmod b) h0 (by omega) (by omega) (by omega), ediv_is (q := -(a.tdiv b)) (r := -(a.tmod b)) h0 (by omega) (by omega) (by omega)]; omega
  · have hn := hn (by omega)
    rw [if_neg h0, if_neg h0, ediv_is (q := a.tdiv b - 1) (r := -b - a.tmod b) (b := -b) (by omega) (by omega) (by omega) (by omega), ediv_is (q := -(a.tdiv b)) (r := a.tmod b) (b := -b) (by omega) (by omega) (by omega) (by omega)]; omega

/-- Bounds on Go's quotient: it is not farther from 0 than the dividend. -/
theorem tdiv_bd (a b : Int) (_hb : b ≠ 0) : -(a.natAbs : Int) ≤ a.tdiv b ∧ a.tdiv b ≤ a.natAbs := by
  have h := Int.natAbs_tdiv_le_natAbs a b
  omega

/-! ### Roots -/
/-- What is left, as the reference says it. -/
theorem rest_is (a b : Int) : a - a.tdiv b * b = a.tmod b := by
  have := Int.mul_tdiv_add_tmod a b
  rw [Int.mul_comm] at this; omega
theorem rest_bd {a b : Int} (hb : b ≠ 0) (h : -1000000000000000000 ≤ a ∧ a ≤ 1000000000000000000) : (-1000000000000000000 ≤ a.tdiv b * b ∧ a.tdiv b * b ≤ 1000000000000000000) ∧ -1000000000000000000 ≤ a - a.tdiv b * b ∧ a - a.tdiv b * b ≤ 1000000000000000000 := by
  have e := rest_is a b
  obtain ⟨-, c1, c2, -, -⟩ := cut_facts a b hb
  have c3 : (a.tmod b).natAbs ≤ a.natAbs := by rw [Int.natAbs_tmod]; exact Nat.mod_le _ _
  omega
end Ex
end Go.Proofs.Ytpiajdahmcelnaa
