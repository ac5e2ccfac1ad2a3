/-
  Plain integers: quotients rounded down and up, and what is known of them. No Go, no program.
-/
import Derived.WalkKit
namespace Go.Proofs.YtmijlfbmmegfbaaGreat
namespace Ex

/-- The quotient rounded down: b is not 0. -/
def fl (a b : Int) : Int := if 0 < b then a / b else (-a) / (-b)
/-- The quotient rounded up. -/
def ce (a b : Int) : Int := -(fl (-a) b)

theorem ediv_is {a b q r : Int} (hb : 0 < b) (h : r + b * q = a) (h0 : 0 ≤ r) (h1 : r < b) : a / b = q :=
  ((Int.ediv_emod_unique hb).2 ⟨h, h0, h1⟩).1

/-- What Go's division leaves. -/
theorem cut_facts (a b : Int) (_hb : b ≠ 0) : b * a.tdiv b + a.tmod b = a ∧ (0 ≤ a → 0 ≤ a.tmod b) ∧ (a ≤ 0 → a.tmod b ≤ 0) ∧ (0 < b → a.tmod b < b ∧ -b < a.tmod b) ∧ (b < 0 → a.tmod b < -b ∧ b < a.tmod b) := by
  refine ⟨Int.mul_tdiv_add_tmod a b, fun h => Int.tmod_nonneg b h, fun h => ?_, fun h => ?_, fun h => ?_⟩
  · have := Int.tmod_nonneg b (show (0 : Int) ≤ -a by omega)
    rw [Int.neg_tmod] at this; omega
  · have h1 := Int.tmod_lt_of_pos a h
    have h2 := Int.tmod_lt_of_pos (-a) h
    rw [Int.neg_tmod] at h2; omega
  · have h1 := Int.tmod_lt_of_pos a (show (0 : Int) < -b by omega)
    have h2 := Int.tmod_lt_of_pos (-a) (show (0 : Int) < -b by omega)
    rw [Int.neg_tmod] at h2
    rw [Int.tmod_neg] at h1 h2; omega

theorem fl_whole {a b : Int} (hb : b ≠ 0) (h : a.tmod b = 0) : fl a b = a.tdiv b ∧ ce a b = a.tdiv b := by
  obtain ⟨e, -, -, hp, hn⟩ := cut_facts a b hb
  have e1 : b * -(a.tdiv b) = -(b * a.tdiv b) := Int.mul_neg _ _
  have e2 : -b * (a.tdiv b) = -(b * a.tdiv b) := Int.neg_mul _ _
  have e3 : -b * -(a.tdiv b) = b * a.tdiv b := Int.neg_mul_neg _ _
  unfold ce fl
  by_cases h0 : 0 < b
  · rw [if_pos h0, if_pos h0, ediv_is (q := a.tdiv b) (r := 0) h0 (by omega) (by omega) (by omega), ediv_is (q := -(a.tdiv b)) (r := 0) h0 (by omega) (by omega) (by omega)]; omega
  · rw [if_neg h0, if_neg h0, ediv_is (q := a.tdiv b) (r := 0) (b := -b) (by omega) (by omega) (by omega) (by omega), ediv_is (q := -(a.tdiv b)) (r := 0) (b := -b) (by omega) (by omega) (by omega) (by omega)]; omega

/-- The true quotient is above what Go's division leaves. -/
theorem fl_above {a b : Int} (hb : b ≠ 0) (h : a.tmod b ≠ 0) (hs : (a.tmod b < 0) ↔ (b < 0)) : fl a b = a.tdiv b ∧ ce a b = a.tdiv b + 1 := by
  obtain ⟨e, -, -, hp, hn⟩ := cut_facts a b hb
  have e1 : b * (-(a.tdiv b) - 1) = -(b * a.tdiv b) - b := by rw [Int.mul_sub, Int.mul_neg, Int.mul_one]
  have e2 : -b * (a.tdiv b) = -(b * a.tdiv b) := Int.neg_mul _ _
  have e3 : -b * (-(a.tdiv b) - 1) = b * a.tdiv b + b := by rw [Int.mul_sub, Int.neg_mul_neg, Int.mul_one]; omega
  unfold ce fl
  by_cases h0 : 0 < b
  · have hp := hp h0
    rw [if_pos h0, if_pos h0, ediv_is (q := a.tdiv b) (r := a.tmod b) h0 (by omega) (by omega) (by omega), ediv_is (q := -(a.tdiv b) - 1) (r := b - a.tmod b) h0 (by omega) (by omega) (by omega)]; omega
  · have hn := hn (by omega)
    rw [if_neg h0, if_neg h0, ediv_is (q := a.tdiv b) (r := -(a.tmod b)) (b := -b) (by omega) (by omega) (by omega) (by omega), ediv_is (q := -(a.tdiv b) - 1) (r := -b + a.tmod b) (b := -b) (by omega) (by omega) (by omega) (by omega)]; omega

/-- The true quotient is below it. -/
theorem fl_below {a b : Int} (hb : b ≠ 0) (h : a.tmod b ≠ 0) (hs : ¬((a.tmod b < 0) ↔ (b < 0))) : fl a b = a.tdiv b - 1 ∧ ce a b = a.tdiv b := by
  obtain ⟨e, -, -, hp, hn⟩ := cut_facts a b hb
  have e1 : b * (a.tdiv b - 1) = b * a.tdiv b - b := by rw [Int.mul_sub, Int.mul_one]
  have e2 : b * -(a.tdiv b) = -(b * a.tdiv b) := Int.mul_neg _ _
  have e3 : -b * (a.tdiv b - 1) = -(b * a.tdiv b) + b := by rw [Int.mul_sub, Int.neg_mul, Int.mul_one]; omega
  have e4 : -b * -(a.tdiv b) = b * a.tdiv b := Int.neg_mul_neg _ _
  unfold ce fl
  by_cases h0 : 0 < b
  · have hp := hp h0
    rw [if_pos h0, if_pos h0, ediv_is (q := a.tdiv b - 1) (r := b + a.tmod b) h0 (by omega) (by omega) (by omega), ediv_is (q := -(a.tdiv b)) (r := -(a.tmod b)) h0 (by omega) (by omega) (by omega)]; omega
  · have hn := hn (by omega)
    rw [if_neg h0, if_neg h0, ediv_is (q := a.tdiv b - 1) (r := -b - a.tmod b) (b := -b) (by omega) (by omega) (by omega) (by omega), ediv_is (q := -(a.tdiv b)) (r := a.tmod b) (b := -b) (by omega) (by omega) (by omega) (by omega)]; omega

/-- What a quotient rounded down is, by a divisor above 0. -/
theorem fl_spec (a : Int) {b : Int} (hb : 0 < b) : b * fl a b ≤ a ∧ a < b * fl a b + b := by
  unfold fl; rw [if_pos hb]
  have h1 := Int.mul_ediv_add_emod a b
  have h2 := Int.emod_nonneg a (show b ≠ 0 by omega)
  have h3 := Int.emod_lt_of_pos a hb
  omega
theorem ce_spec (a : Int) {b : Int} (hb : 0 < b) : a ≤ b * ce a b ∧ b * ce a b < a + b := by
  have h := fl_spec (-a) hb
  unfold ce; rw [Int.mul_neg]; omega
theorem fl_neg_neg (a b : Int) (hb : b ≠ 0) : fl (-a) (-b) = fl a b := by
  unfold fl
  by_cases h : 0 < b
  · rw [if_neg (by omega), if_pos h, Int.neg_neg, Int.neg_neg]
  · rw [if_pos (by omega), if_neg h]
theorem ce_neg_neg (a b : Int) (hb : b ≠ 0) : ce (-a) (-b) = ce a b := by
  unfold ce; rw [fl_neg_neg _ _ hb]

/-- Bounds on Go's quotient: it is not farther from 0 than the dividend. -/
theorem tdiv_bd (a b : Int) (_hb : b ≠ 0) : -(a.natAbs : Int) ≤ a.tdiv b ∧ a.tdiv b ≤ a.natAbs := by
  have h := Int.natAbs_tdiv_le_natAbs a b
  omega

/-! ### Roots -/
def sqN : Nat → Nat
  | 0 => 0
  | n + 1 => if (sqN n + 1) * (sqN n + 1) ≤ n + 1 then sqN n + 1 else sqN n
/-- The square root of an integer that is not negative, rounded down. -/
def isq (n : Int) : Int := (sqN n.toNat : Int)
theorem sqN_spec (n : Nat) : sqN n * sqN n ≤ n ∧ n < (sqN n + 1) * (sqN n + 1) := by
  induction n with
  | zero => exact ⟨Nat.le_refl _, by decide⟩
  | succ n ih =>
    obtain ⟨h1, h2⟩ := ih
    unfold sqN
    split
    · rename_i h
      refine ⟨h, ?_⟩
      have e : (sqN n + 1 + 1) * (sqN n + 1 + 1) = (sqN n + 1) * (sqN n + 1) + (sqN n + 1) + (sqN n + 1) + 1 := by
        rw [Nat.add_mul, Nat.mul_add, Nat.mul_one, Nat.one_mul]; omega
      omega
    · rename_i h
      exact ⟨by omega, by omega⟩
theorem isq_nonneg (n : Int) : 0 ≤ isq n := Int.natCast_nonneg _
theorem isq_spec {n : Int} (h : 0 ≤ n) : isq n * isq n ≤ n ∧ n < (isq n + 1) * (isq n + 1) := by
  obtain ⟨k, rfl⟩ := Int.eq_ofNat_of_zero_le h
  have := sqN_spec k
  unfold isq
  rw [Int.toNat_natCast]
  exact ⟨by exact_mod_cast this.1, by exact_mod_cast this.2⟩
theorem sq_lt {a b : Int} (ha : 0 ≤ a) (h : a < b) : a * a < b * b := by
  have h1 : a * a ≤ a * b := Int.mul_le_mul_of_nonneg_left (by omega) ha
  have h2 : a * b < b * b := Int.mul_lt_mul_of_pos_right h (by omega)
  omega
theorem sq_le {a b : Int} (ha : 0 ≤ a) (h : a ≤ b) : a * a ≤ b * b := by
  by_cases e : a = b
  · subst e; exact Int.le_refl _
  · have := sq_lt ha (show a < b by omega); omega
theorem isq_is {n r : Int} (hr : 0 ≤ r) (h1 : r * r ≤ n) (h2 : n < (r + 1) * (r + 1)) : isq n = r := by
  have hn : 0 ≤ n := by have := Int.mul_nonneg hr hr; omega
  obtain ⟨s1, s2⟩ := isq_spec hn
  have s0 := isq_nonneg n
  by_cases a : isq n < r
  · have := sq_le (show 0 ≤ isq n + 1 by omega) (show isq n + 1 ≤ r by omega); omega
  · by_cases b : r < isq n
    · have := sq_le (show 0 ≤ r + 1 by omega) (show r + 1 ≤ isq n by omega); omega
    · omega
theorem isq_le {n b : Int} (h : 0 ≤ n) (hb : 0 ≤ b) (hn : n < (b + 1) * (b + 1)) : isq n ≤ b := by
  by_cases a : b < isq n
  · have s := (isq_spec h).1
    have := sq_le (show 0 ≤ b + 1 by omega) (show b + 1 ≤ isq n by omega); omega
  · omega
theorem sq_odd (s : Int) : (2 * s + 1 + 1) * (2 * s + 1 + 1) = 4 * ((s + 1) * (s + 1)) := by
  rw [show 2 * s + 1 + 1 = 2 * (s + 1) by omega, Int.mul_assoc, Int.mul_left_comm (s + 1) 2, ← Int.mul_assoc 2 2]; rfl
theorem sq_even (s : Int) : (2 * s) * (2 * s) = 4 * (s * s) := by
  rw [Int.mul_assoc, Int.mul_left_comm s 2, ← Int.mul_assoc 2 2]; rfl
theorem isq_odd {n : Int} (hn : 0 ≤ n) (h : (2 * isq (n / 4) + 1) * (2 * isq (n / 4) + 1) ≤ n) : isq n = 2 * isq (n / 4) + 1 := by
  obtain ⟨_, s2⟩ := isq_spec (show 0 ≤ n / 4 by omega)
  have s0 := isq_nonneg (n / 4)
  refine isq_is (by omega) h ?_
  rw [sq_odd]; omega
theorem isq_even {n : Int} (hn : 0 ≤ n) (h : n < (2 * isq (n / 4) + 1) * (2 * isq (n / 4) + 1)) : isq n = 2 * isq (n / 4) := by
  obtain ⟨s1, _⟩ := isq_spec (show 0 ≤ n / 4 by omega)
  have s0 := isq_nonneg (n / 4)
  refine isq_is (by omega) ?_ h
  rw [sq_even]; omega
theorem isq_quarter {n : Int} (h0 : 0 ≤ n) (h1 : n ≤ 1000000000000000000) : isq (n / 4) ≤ 500000000 := isq_le (by omega) (by omega) (by omega)
theorem isq_bd {n : Int} (h0 : 0 ≤ n) (h1 : n ≤ 1000000000000000000) : isq n ≤ 1000000000 := isq_le (by omega) (by omega) (by omega)
theorem sq_bd {r : Int} (h0 : 0 ≤ r) (h1 : r ≤ 1000000001) : 0 ≤ r * r ∧ r * r ≤ 1000000002000000001 := by
  have := sq_le h0 h1
  exact ⟨Int.mul_nonneg h0 h0, by omega⟩

/-- What is left, as the reference says it. -/
theorem rest_is (a b : Int) : a - a.tdiv b * b = a.tmod b := by
  have := Int.mul_tdiv_add_tmod a b
  rw [Int.mul_comm] at this; omega
theorem fl_bd {a b m : Int} (hb : b ≠ 0) (h : -m ≤ a ∧ a ≤ m) : -m - 1 ≤ fl a b ∧ fl a b ≤ m := by
  obtain ⟨q0, q1⟩ := tdiv_bd a b hb
  by_cases h0 : a.tmod b = 0
  · rw [(fl_whole hb h0).1]; omega
  · by_cases hs : (a.tmod b < 0) ↔ (b < 0)
    · rw [(fl_above hb h0 hs).1]; omega
    · rw [(fl_below hb h0 hs).1]; omega
theorem rest_bd {a b : Int} (hb : b ≠ 0) (h : -1000000000000000000 ≤ a ∧ a ≤ 1000000000000000000) : (-1000000000000000000 ≤ a.tdiv b * b ∧ a.tdiv b * b ≤ 1000000000000000000) ∧ -1000000000000000000 ≤ a - a.tdiv b * b ∧ a - a.tdiv b * b ≤ 1000000000000000000 := by
  have e := rest_is a b
  obtain ⟨-, c1, c2, -, -⟩ := cut_facts a b hb
  have c3 : (a.tmod b).natAbs ≤ a.natAbs := by rw [Int.natAbs_tmod]; exact Nat.mod_le _ _
  omega
end Ex
end Go.Proofs.YtmijlfbmmegfbaaGreat
