/-
  Plain geometry: areas, and places in the middle. No Go, no program.
  Plain geometry: bounds of a polygon, and chains that turn left. No Go, no program.
-/
import Derived.Test.YtpiajdahmcelnaaLHullGeoB
namespace Go.Proofs.Ytpiajdahmcelnaa
namespace Hl

def sumN (g : Nat → Int) : Nat → Int
  | 0 => 0
  | n + 1 => sumN g n + g n
/-- Twice the area of a polygon. -/
def area (n : Nat) (P : Nat → Pt) : Int := sumN (fun i => cr (P 0) (P (i + 1)) (P (i + 2))) (n - 2)
end Hl
end Go.Proofs.Ytpiajdahmcelnaa
namespace Go.Proofs.Ytpiajdahmcelnaa
namespace Hl

/-! ### Bounds -/
theorem seg1 (u v k : Int) (a b x : Pt) : (b.1 - a.1) * (af u v k x - af u v k a) = (x.1 - a.1) * (af u v k b - af u v k a) + v * cr a b x := by unfold af cr; grind
theorem seg2 (u v k : Int) (a b x : Pt) : (b.2 - a.2) * (af u v k x - af u v k a) = (x.2 - a.2) * (af u v k b - af u v k a) - u * cr a b x := by unfold af cr; grind
theorem nonneg_of {d s : Int} (hd : 0 < d) (h : 0 ≤ d * s) : 0 ≤ s := by
  by_cases k : s < 0
  · have := Int.mul_neg_of_pos_of_neg hd k; omega
  · omega
theorem seg_least {a b x : Pt} (h : a ≠ b) (c : cr a b x = 0) (t : btw a b x) (u v k : Int) (hab : af u v k a ≤ af u v k b) : af u v k a ≤ af u v k x := by
  have e1 := seg1 u v k a b x
  have e2 := seg2 u v k a b x
  rw [c, Int.mul_zero, Int.add_zero] at e1
  rw [c, Int.mul_zero, Int.sub_zero] at e2
  obtain ⟨t1, t2⟩ := t
  by_cases p : a.1 < b.1
  · have := nonneg_of (s := af u v k x - af u v k a) (show 0 < b.1 - a.1 by omega) (by rw [e1]; exact Int.mul_nonneg (by omega) (by omega))
    omega
  · by_cases q : b.1 < a.1
    · have := nonneg_of (s := af u v k x - af u v k a) (show 0 < -(b.1 - a.1) by omega) (by rw [Int.neg_mul, e1, ← Int.neg_mul]; exact Int.mul_nonneg (by omega) (by omega))
      omega
    · by_cases r : a.2 < b.2
      · have := nonneg_of (s := af u v k x - af u v k a) (show 0 < b.2 - a.2 by omega) (by rw [e2]; exact Int.mul_nonneg (by omega) (by omega))
        omega
      · by_cases s : b.2 < a.2
        · have := nonneg_of (s := af u v k x - af u v k a) (show 0 < -(b.2 - a.2) by omega) (by rw [Int.neg_mul, e2, ← Int.neg_mul]; exact Int.mul_nonneg (by omega) (by omega))
          omega
        · exact absurd (Prod.ext (by omega) (by omega)) h
theorem cr_swap2 (a b x : Pt) : cr b a x = -(cr a b x) := by unfold cr; grind
theorem btw_swap {a b x : Pt} (h : btw a b x) : btw b a x := by unfold btw at *; omega
/-- An affine function is nowhere in a polygon less than at each corner. -/
theorem hs_least {p : List Pt} (h : Pg p) {x : Pt} (hx : Hs p x) (u v k : Int) : ∃ j, j < p.length ∧ af u v k (at' p j) ≤ af u v k x := by
  have P0 := h.1
  unfold Hs at hx
  by_cases h1 : p.length = 1
  · rw [if_pos h1] at hx; exact ⟨0, by omega, by rw [hx]; exact Int.le_refl _⟩
  · rw [if_neg h1] at hx
    by_cases h2 : p.length = 2
    · rw [if_pos h2] at hx
      by_cases c : af u v k (at' p 0) ≤ af u v k (at' p 1)
      · exact ⟨0, by omega, seg_least (pg_ne h (by omega)) hx.1 hx.2 u v k c⟩
      · exact ⟨1, by omega, seg_least (pg_ne h (by omega)).symm (by rw [cr_swap2, hx.1]; rfl) (btw_swap hx.2) u v k (by omega)⟩
    · rw [if_neg h2] at hx
      exact ins_least (h.2.2 (by omega)) (by omega) hx u v k

/-! ### Chains -/
/-- Four places in a row, whose ways turn left twice. f tells that they are in a row. -/
theorem turn_far {u v k : Int} {a b c d : Pt} (hab : af u v k a < af u v k b) (hbc : af u v k b < af u v k c) (hcd : af u v k c < af u v k d) (h1 : 0 < cr a b c) (h2 : 0 < cr b c d) : 0 < cr a b d ∧ 0 < cr a c d := by
  have e := cone u v k a b c d
  have g := cone u v k b c d a
  have r1 : cr b c a = cr a b c := (cr_rot a b c).symm
  have r2 : cr c d a = cr a c d := (cr_rot a c d).symm
  rw [r1, r2] at g
  constructor
  · by_cases z : 0 < cr a b d
    · exact z
    · exfalso
      have m1 := Int.mul_pos h1 (show 0 < af u v k d - af u v k b by omega)
      have m2 := Int.mul_pos h2 (show 0 < af u v k b - af u v k a by omega)
      have m3 := Int.mul_nonneg (show 0 ≤ -cr a b d by omega) (show 0 ≤ af u v k c - af u v k b by omega)
      rw [Int.neg_mul] at m3
      have m4 : cr b c d * (af u v k a - af u v k b) = -(cr b c d * (af u v k b - af u v k a)) := by rw [← Int.mul_neg]; congr 1; omega
      omega
  · by_cases z : 0 < cr a c d
    · exact z
    · exfalso
      have m1 := Int.mul_pos h2 (show 0 < af u v k c - af u v k a by omega)
      have m2 := Int.mul_pos h1 (show 0 < af u v k d - af u v k c by omega)
      have m3 := Int.mul_nonneg (show 0 ≤ -cr a c d by omega) (show 0 ≤ af u v k c - af u v k b by omega)
      rw [Int.neg_mul] at m3
      have m4 : cr b c d * (af u v k a - af u v k c) = -(cr b c d * (af u v k c - af u v k a)) := by rw [← Int.mul_neg]; congr 1; omega
      have m5 : cr a c d * (af u v k b - af u v k c) = -(cr a c d * (af u v k c - af u v k b)) := by rw [← Int.mul_neg]; congr 1; omega
      omega

/-- A chain that is in a row and turns left at each of its places turns left at any three of them. -/
theorem chain_all {u v k : Int} {P : Nat → Pt} : ∀ n, (∀ i, i + 1 < n → af u v k (P i) < af u v k (P (i + 1))) → (∀ i, i + 2 < n → 0 < cr (P i) (P (i + 1)) (P (i + 2))) → ∀ i j l, i < j → j < l → l < n → 0 < cr (P i) (P j) (P l) := by
  intro n
  induction n with
  | zero => intro _ _ i j l _ _ h; omega
  | succ n ih =>
    intro hr ht i j l hij hjl hl
    have row : ∀ a b, a < b → b < n + 1 → af u v k (P a) < af u v k (P b) := by
      intro a b hab hb
      induction b with
      | zero => omega
      | succ b ihb =>
        by_cases e : a = b
        · rw [e]; exact hr b (by omega)
        · have := ihb (by omega) (by omega)
          have := hr b (by omega)
          omega
    have ih' := ih (fun i hi => hr i (by omega)) (fun i hi => ht i (by omega))
    by_cases hln : l < n
    · exact ih' i j l hij hjl hln
    · obtain rfl : l = n := by omega
      -- first with the place before the last one
      have last : ∀ i, i + 1 < l → 0 < cr (P i) (P (l - 1)) (P l) := by
        intro i hi
        have t := ht (l - 2) (by omega)
        rw [show l - 2 + 1 = l - 1 by omega, show l - 2 + 2 = l by omega] at t
        by_cases e : i = l - 2
        · rw [e]; exact t
        · exact (turn_far (row i (l - 2) (by omega) (by omega)) (row (l - 2) (l - 1) (by omega) (by omega)) (row (l - 1) l (by omega) (by omega)) (ih' i (l - 2) (l - 1) (by omega) (by omega) (by omega)) t).2
      by_cases e : j = l - 1
      · rw [e]; exact last i (by omega)
      · exact (turn_far (row i j hij (by omega)) (row j (l - 1) (by omega) (by omega)) (row (l - 1) l (by omega) (by omega)) (ih' i j (l - 1) hij (by omega) (by omega)) (last j (by omega))).1

/-- Three ways from one place. -/
theorem tri (u v k : Int) (a b n x : Pt) : cr a n x * (af u v k b - af u v k a) = cr a b x * (af u v k n - af u v k a) - cr a b n * (af u v k x - af u v k a) := by unfold cr af; grind
/-- A place of a chain is left out, as the way does not turn left at it: whatever was on its left side is on the left of the new side. -/
theorem pop_left {u v k : Int} {a b n x : Pt} (hab : af u v k a < af u v k b) (hbn : af u v k b ≤ af u v k n) (hax : af u v k a ≤ af u v k x) (h : cr a b n ≤ 0) (hx : 0 ≤ cr a b x) : 0 ≤ cr a n x := by
  have e := tri u v k a b n x
  have m1 := Int.mul_nonneg hx (show 0 ≤ af u v k n - af u v k a by omega)
  have m2 := Int.mul_nonneg (show 0 ≤ -cr a b n by omega) (show 0 ≤ af u v k x - af u v k a by omega)
  rw [Int.neg_mul] at m2
  have m3 : 0 ≤ (af u v k b - af u v k a) * cr a n x := by rw [Int.mul_comm, e]; omega
  exact nonneg_of (show 0 < af u v k b - af u v k a by omega) m3
end Hl
end Go.Proofs.Ytpiajdahmcelnaa
