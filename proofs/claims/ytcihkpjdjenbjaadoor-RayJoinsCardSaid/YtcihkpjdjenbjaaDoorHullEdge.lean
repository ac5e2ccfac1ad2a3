/-
  Plain geometry: sides that have all points on their left, and turn left, are the sides of a hull.
-/
import Derived.Test.YtcihkpjdjenbjaaDoorHullCon
namespace Go.Proofs.YtcihkpjdjenbjaaDoor
namespace Hl
/-- A point on the line of a side, on the left of the sides before and behind it, lies between its ends. -/
theorem on_side {v a b n y : Pt} (h1 : 0 < cr v a b) (h2 : 0 < cr a b n) (e : cr a b y = 0) (g1 : 0 ≤ cr v a y) (g2 : 0 ≤ cr b n y) : 0 ≤ dt a b y ∧ 0 ≤ dt b a y := by
  have hne : a ≠ b := fun ee => by rw [ee] at h2; rw [cr_same] at h2; omega
  have d1 := dt_pos hne
  have d2 := dt_pos hne.symm
  have e1 := dt_cr v a b y
  have e2 := dt_cr' a b n y
  rw [e, Int.zero_mul, Int.add_zero] at e1 e2
  refine ⟨nonneg_of h1 ?_, nonneg_of h2 ?_⟩
  · rw [e1]; exact Int.mul_nonneg g1 (Int.le_of_lt d1)
  · rw [e2]; exact Int.mul_nonneg g2 (Int.le_of_lt d2)
/-- What holds of a point between two others, on the left of a line that has both on its left. -/
theorem mid_zero {u v a b y : Pt} (e : cr a b y = 0) (hy : cr u v y = 0) (ga : 0 ≤ cr u v a) (gb : 0 ≤ cr u v b) (h1 : 0 < dt a b y) (h2 : 0 < dt b a y) : cr u v a = 0 ∧ cr u v b = 0 := by
  have hne : a ≠ b := fun ee => by
    rw [ee] at h1
    have : dt b b y = 0 := by unfold dt; grind
    omega
  have d := dt_pos hne
  have k : dt b a y * cr u v a + dt a b y * cr u v b = dt a b b * cr u v y - cr a b y * ((v.1 - u.1) * (b.1 - a.1) + (v.2 - u.2) * (b.2 - a.2)) := by unfold dt cr; grind
  rw [e, hy, Int.mul_zero, Int.zero_mul, Int.sub_zero] at k
  have m1 := Int.mul_nonneg (Int.le_of_lt h2) ga
  have m2 := Int.mul_nonneg (Int.le_of_lt h1) gb
  refine ⟨?_, ?_⟩
  · by_cases z : cr u v a = 0
    · exact z
    · have := Int.mul_pos h2 (show 0 < cr u v a by omega)
      omega
  · by_cases z : cr u v b = 0
    · exact z
    · have := Int.mul_pos h1 (show 0 < cr u v b by omega)
      omega
theorem dt_zero {a b y : Pt} (h : a ≠ b) (e : cr a b y = 0) (d : dt a b y = 0) : y = a := by
  have p := dt_pos h
  have k1 : dt a b b * (y.1 - a.1) = dt a b y * (b.1 - a.1) - cr a b y * (b.2 - a.2) := by unfold dt cr; grind
  have k2 : dt a b b * (y.2 - a.2) = dt a b y * (b.2 - a.2) + cr a b y * (b.1 - a.1) := by unfold dt cr; grind
  rw [d, e, Int.zero_mul, Int.zero_mul] at k1 k2
  have z1 : y.1 - a.1 = 0 := by
    rcases Int.mul_eq_zero.1 (show dt a b b * (y.1 - a.1) = 0 by omega) with h | h
    · omega
    · exact h
  have z2 : y.2 - a.2 = 0 := by
    rcases Int.mul_eq_zero.1 (show dt a b b * (y.2 - a.2) = 0 by omega) with h | h
    · omega
    · exact h
  exact Prod.ext (by omega) (by omega)
/-- Different corners, all points of l on the left of all sides, left turns only: a convex polygon. -/
theorem cvx_of_sides {n : Nat} {P : Nat → Pt} (hn : 3 ≤ n) (hd : ∀ i j, i < n → j < n → i ≠ j → P i ≠ P j) (hl : ∀ i k, i < n → k < n → 0 ≤ cr (P i) (P ((i + 1) % n)) (P k)) (ht : ∀ i, i < n → 0 < cr (P (pv n i)) (P i) (P ((i + 1) % n))) : Cvx n P := by
  intro i k hi hk hki hki'
  have h0 := hl i k hi hk
  by_cases z : cr (P i) (P ((i + 1) % n)) (P k) = 0
  · exfalso
    have hi' : (i + 1) % n < n := Nat.mod_lt _ (by omega)
    have t1 := ht i hi
    have t2 := ht _ hi'
    have epv : pv n ((i + 1) % n) = i := by
      unfold pv
      by_cases e : i + 1 = n
      · rw [e, Nat.mod_self, Nat.zero_add, Nat.mod_eq_of_lt (by omega)]; omega
      · have h1 : i + 1 < n := by omega
        rw [Nat.mod_eq_of_lt h1]
        have h2 : i + 1 + (n - 1) = n + i := by omega
        rw [h2, Nat.add_mod_left, Nat.mod_eq_of_lt hi]
    rw [epv] at t2
    have hv : pv n i < n := Nat.mod_lt _ (by omega)
    have g1 : 0 ≤ cr (P (pv n i)) (P i) (P k) := by
      have := hl (pv n i) k hv hk
      rwa [pv_next hi] at this
    have g2 := hl ((i + 1) % n) k hi' hk
    obtain ⟨d1, d2⟩ := on_side t1 t2 z g1 g2
    have hne := hd i _ hi hi' (fun e => nx_ne (by omega) hi e.symm)
    have z' : cr (P ((i + 1) % n)) (P i) (P k) = 0 := by rw [cr_swap2]; omega
    have p1 : 0 < dt (P i) (P ((i + 1) % n)) (P k) := by
      by_cases e : dt (P i) (P ((i + 1) % n)) (P k) = 0
      · exact absurd (dt_zero hne z e) (hd k i hk hi hki)
      · omega
    have p2 : 0 < dt (P ((i + 1) % n)) (P i) (P k) := by
      by_cases e : dt (P ((i + 1) % n)) (P i) (P k) = 0
      · exact absurd (dt_zero hne.symm z' e) (hd k _ hk hi' hki')
      · omega
    have tk := ht k hk
    have hkv : pv n k < n := Nat.mod_lt _ (by omega)
    have a1 : 0 ≤ cr (P (pv n k)) (P k) (P i) := by have := hl (pv n k) i hkv hi; rwa [pv_next hk] at this
    have a2 : 0 ≤ cr (P (pv n k)) (P k) (P ((i + 1) % n)) := by have := hl (pv n k) _ hkv hi'; rwa [pv_next hk] at this
    have m1 := mid_zero z (cr_self' _ _) a1 a2 p1 p2
    have m2 := mid_zero z (cr_self _ _) (hl k i hk hi) (hl k _ hk hi') p1 p2
    -- both sides at k lie on one line
    have hk' : (k + 1) % n < n := Nat.mod_lt _ (by omega)
    have nk := hd k i hk hi hki
    have q1 : cr (P k) (P i) (P (pv n k)) = 0 := by rw [← cr_rot]; exact m1.1
    have q2 : cr (P k) (P i) (P ((k + 1) % n)) = 0 := by rw [cr_swap]; rw [m2.1]; rfl
    have q3 : cr (P k) (P i) (P k) = 0 := cr_self _ _
    have := on_line nk q1 q3 q2
    omega
  · omega
theorem hull_of_sides {l p : List Pt} (hn : 3 ≤ p.length) (hm : ∀ x, x ∈ p → x ∈ l) (hd : ∀ i j, i < p.length → j < p.length → i ≠ j → at' p i ≠ at' p j) (hl : ∀ i, i < p.length → ∀ y, y ∈ l → 0 ≤ cr (at' p i) (at' p ((i + 1) % p.length)) y)
    (ht : ∀ i, i < p.length → 0 < cr (at' p (pv p.length i)) (at' p i) (at' p ((i + 1) % p.length))) (h0 : ∀ i, 1 ≤ i → i < p.length → ls (at' p 0) (at' p i)) : IsHull l p :=
  ⟨⟨by omega, h0, fun _ => cvx_of_sides hn hd (fun i k hi hk => hl i hi _ (hm _ (at_mem hk))) ht⟩, hm, fun y hy => (hs3 hn).2 (fun i hi => hl i hi y hy)⟩
end Hl
end Go.Proofs.YtcihkpjdjenbjaaDoor
