/-
  Plain geometry: sides that have all points on their left, and turn left, are the sides of a hull.
  Plain geometry: a chain of corners that grows by a sorted list of points.
-/
import Derived.Test.YtpiajdahmcelnaaLHullCon
namespace Go.Proofs.Ytpiajdahmcelnaa
namespace Hl
/-- A point on the line of a side, on the left of the sides before and behind it, lies between its ends. -/
theorem on_side {v a b n y : Pt} (h1 : 0 < cr v a b) (h2 : 0 < cr a b n) (e : cr a b y = 0) (g1 : 0 ≤ cr v a y) (g2 : 0 ≤ cr b n y) : 0 ≤ dt a b y ∧ 0 ≤ dt b a y := by
  have hne : a ≠ b := fun ee => by rw [ee] at h2; rw [cr_same] at h2; omega
  have d1 := dt_pos hne
  have d2 := dt_pos hne.symm
  have e1 := dt_cr v a b y
  have e2 := dt_cr' a b n y
  rw [e, Int.zero_mul, Int.add_zero] at e1 e2
  refine ⟨nonneg_of h1 ?_, nonneg_of h2 ?_⟩
  · rw [e1]; exact Int.mul_nonneg g1 (Int.le_of_lt d1)
  · rw [e2]; exact Int.mul_nonneg g2 (Int.le_of_lt d2)
/-- What holds of a point between two others, on the left of a line that has both on its left. -/
theorem mid_zero {u v a b y : Pt} (e : cr a b y = 0) (hy : cr u v y = 0) (ga : 0 ≤ cr u v a) (gb : 0 ≤ cr u v b) (h1 : 0 < dt a b y) (h2 : 0 < dt b a y) : cr u v a = 0 ∧ cr u v b = 0 := by
  have hne : a ≠ b := fun ee => by
    rw [ee] at h1
    have : dt b b y = 0 := by unfold dt; grind
    omega
  have d := dt_pos hne
  have k : dt b a y * cr u v a + dt a b y * cr u v b = dt a b b * cr u v y - cr a b y * ((v.1 - u.1) * (b.1 - a.1) + (v.2 - u.2) * (b.2 - a.2)) := by unfold dt cr; grind
  rw [e, hy, Int.mul_zero, Int.zero_mul, Int.sub_zero] at k
  have m1 := Int.mul_nonneg (Int.le_of_lt h2) ga
  have m2 := Int.mul_nonneg (Int.le_of_lt h1) gb
  refine ⟨?_, ?_⟩
  · by_cases z : cr u v a = 0
    · exact z
    · have := Int.mul_pos h2 (show 0 < cr u v a by omega)
      omega
  · by_cases z : cr u v b = 0
    · exact z
    · have := Int.mul_pos h1 (show 0 < cr u v b by omega)
      omega
theorem dt_zero {a b y : Pt} (h : a ≠ b) (e : cr a b y = 0) (d : dt a b y = 0) : y = a := by
  have p := dt_pos h
  have k1 : dt a b b * (y.1 - a.1) = dt a b y * (b.1 - a.1) - cr a b y * (b.2 - a.2) := by unfold dt cr; grind
  have k2 : dt a b b * (y.2 - a.2) = dt a b y * (b.2 - a.2) + cr a b y * (b.1 - a.1) := by unfold dt cr; grind
  rw [d, e, Int.zero_mul, Int.zero_mul] at k1 k2
  have z1 : y.1 - a.1 = 0 := by
    rcases Int.mul_eq_zero.1 (show dt a b b * (y.1 - a.1) = 0 by omega) with h | h
    · omega
    · exact h
  have z2 : y.2 - a.2 = 0 := by
    rcases Int.mul_eq_zero.1 (show dt a b b * (y.2 - a.2) = 0 by omega) with h | h
    · omega
    · exact h
  exact Prod.ext (by omega) (by omega)
/-- Different corners, all points of l on the left of all sides, left turns only: a convex polygon. -/
theorem cvx_of_sides {n : Nat} {P : Nat → Pt} (hn : 3 ≤ n) (hd : ∀ i j, i < n → j < n → i ≠ j → P i ≠ P j) (hl : ∀ i k, i < n → k < n → 0 ≤ cr (P i) (P ((i + 1) % n)) (P k)) (ht : ∀ i, i < n → 0 < cr (P (pv n i)) (P i) (P ((i + 1) % n))) : Cvx n P := by
  intro i k hi hk hki hki'
  have h0 := hl i k hi hk
  by_cases z : cr (P i) (P ((i + 1) % n)) (P k) = 0
  · exfalso
    have hi' : (i + 1) % n < n := Nat.mod_lt _ (by omega)
    have t1 := ht i hi
    have t2 := ht _ hi'
    have epv : pv n ((i + 1) % n) = i := by
      unfold pv
      by_cases e : i + 1 = n
      · rw [e, Nat.mod_self, Nat.zero_add, Nat.mod_eq_of_lt (by omega)]; omega
      · have h1 : i + 1 < n := by omega
        rw [Nat.mod_eq_of_lt h1]
        have h2 : i + 1 + (n - 1) = n + i := by omega
        rw [h2, Nat.add_mod_left, Nat.mod_eq_of_lt hi]
    rw [epv] at t2
    have hv : pv n i < n := Nat.mod_lt _ (by omega)
    have g1 : 0 ≤ cr (P (pv n i)) (P i) (P k) := by
      have := hl (pv n i) k hv hk
      rwa [pv_next hi] at this
    have g2 := hl ((i + 1) % n) k hi' hk
    obtain ⟨d1, d2⟩ := on_side t1 t2 z g1 g2
    have hne := hd i _ hi hi' (fun e => nx_ne (by omega) hi e.symm)
    have z' : cr (P ((i + 1) % n)) (P i) (P k) = 0 := by rw [cr_swap2]; omega
    have p1 : 0 < dt (P i) (P ((i + 1) % n)) (P k) := by
      by_cases e : dt (P i) (P ((i + 1) % n)) (P k) = 0
      · exact absurd (dt_zero hne z e) (hd k i hk hi hki)
      · omega
    have p2 : 0 < dt (P ((i + 1) % n)) (P i) (P k) := by
      by_cases e : dt (P ((i + 1) % n)) (P i) (P k) = 0
      · exact absurd (dt_zero hne.symm z' e) (hd k _ hk hi' hki')
      · omega
    have tk := ht k hk
    have hkv : pv n k < n := Nat.mod_lt _ (by omega)
    have a1 : 0 ≤ cr (P (pv n k)) (P k) (P i) := by have := hl (pv n k) i hkv hi; rwa [pv_next hk] at this
    have a2 : 0 ≤ cr (P (pv n k)) (P k) (P ((i + 1) % n)) := by have := hl (pv n k) _ hkv hi'; rwa [pv_next hk] at this
    have m1 := mid_zero z (cr_self' _ _) a1 a2 p1 p2
    have m2 := mid_zero z (cr_self _ _) (hl k i hk hi) (hl k _ hk hi') p1 p2
    -- both sides at k lie on one line
    have hk' : (k + 1) % n < n := Nat.mod_lt _ (by omega)
    have nk := hd k i hk hi hki
    have q1 : cr (P k) (P i) (P (pv n k)) = 0 := by rw [← cr_rot]; exact m1.1
    have q2 : cr (P k) (P i) (P ((k + 1) % n)) = 0 := by rw [cr_swap]; rw [m2.1]; rfl
    have q3 : cr (P k) (P i) (P k) = 0 := cr_self _ _
    have := on_line nk q1 q3 q2
    omega
  · omega
theorem hull_of_sides {l p : List Pt} (hn : 3 ≤ p.length) (hm : ∀ x, x ∈ p → x ∈ l) (hd : ∀ i j, i < p.length → j < p.length → i ≠ j → at' p i ≠ at' p j) (hl : ∀ i, i < p.length → ∀ y, y ∈ l → 0 ≤ cr (at' p i) (at' p ((i + 1) % p.length)) y)
    (ht : ∀ i, i < p.length → 0 < cr (at' p (pv p.length i)) (at' p i) (at' p ((i + 1) % p.length))) (h0 : ∀ i, 1 ≤ i → i < p.length → ls (at' p 0) (at' p i)) : IsHull l p :=
  ⟨⟨by omega, h0, fun _ => cvx_of_sides hn hd (fun i k hi hk => hl i hi _ (hm _ (at_mem hk))) ht⟩, hm, fun y hy => (hs3 hn).2 (fun i hi => hl i hi y hy)⟩
end Hl
end Go.Proofs.Ytpiajdahmcelnaa
namespace Go.Proofs.Ytpiajdahmcelnaa
namespace Hl
/-- A chain over the points L: it goes on by the functional, turns left, has all of L on its left; it begins at the least one of L and ends at the greatest one. -/
structure Chain (u v k : Int) (L : Pt → Prop) (S : List Pt) : Prop where
  some' : 1 ≤ S.length
  inc : ∀ i, i + 1 < S.length → af u v k (at' S i) < af u v k (at' S (i + 1))
  turns : ∀ i, i + 2 < S.length → 0 < cr (at' S i) (at' S (i + 1)) (at' S (i + 2))
  left : ∀ i, i + 1 < S.length → ∀ y, L y → 0 ≤ cr (at' S i) (at' S (i + 1)) y
  low : ∀ y, L y → af u v k (at' S 0) ≤ af u v k y
  mem : ∀ i, i < S.length → L (at' S i)
/-- The same with a further point x that is to come: behind the end of the chain nothing is on the right of the side to x. -/
structure Pend (u v k : Int) (L : Pt → Prop) (S : List Pt) (x : Pt) : Prop extends Chain u v k L S where
  up : ∀ y, L y → af u v k y < af u v k x
  fine : ∀ y, L y → af u v k (at' S (S.length - 1)) ≤ af u v k y → 0 ≤ cr (at' S (S.length - 1)) x y
theorem at_append {p q : List Pt} {i : Nat} (h : i < p.length) : at' (p ++ q) i = at' p i := by
  unfold at'
  simp [List.getD, List.getElem?_append_left h]
theorem at_last (p : List Pt) (x : Pt) : at' (p ++ [x]) p.length = x := by
  unfold at'
  simp [List.getD]
theorem at_take {p : List Pt} {n i : Nat} (h : i < n) (_hn : n ≤ p.length) : at' (p.take n) i = at' p i := by
  unfold at'
  simp [List.getD, h]
theorem Chain.one {u v k : Int} {x : Pt} : Chain u v k (fun y => y = x) [x] :=
  ⟨by simp, fun i h => by simp at h, fun i h => by simp at h, fun i h => by simp at h, fun y h => by rw [h]; exact Int.le_refl _, fun i h => by
    have e : i = 0 := by simpa using h
    subst e; rfl⟩
theorem inc_all {u v k : Int} {S : List Pt} (h : ∀ i, i + 1 < S.length → af u v k (at' S i) < af u v k (at' S (i + 1))) : ∀ i j, i < j → j < S.length → af u v k (at' S i) < af u v k (at' S j) := by
  intro i j hij
  induction j with
  | zero => omega
  | succ j ih =>
    intro hj
    have h1 := h j hj
    by_cases e : i = j
    · rw [e]; exact h1
    · have := ih (by omega) (by omega)
      omega
/-- A point of L behind which nothing lies is where the chain ends: at first nothing is popped. -/
theorem Chain.pend {u v k : Int} {L : Pt → Prop} {S : List Pt} (h : Chain u v k L S) {x : Pt} (hx : ∀ y, L y → af u v k y < af u v k x) (hi : ∀ y, L y → af u v k (at' S (S.length - 1)) ≤ af u v k y → y = at' S (S.length - 1)) : Pend u v k L S x :=
  ⟨h, hx, fun y hy hle => by rw [hi y hy hle, cr_self]; exact Int.le_refl _⟩
/-- The end is popped: the side to it, and to x, does not turn left. -/
theorem Pend.pop {u v k : Int} {L : Pt → Prop} {S : List Pt} {x : Pt} (h : Pend u v k L S x) (h2 : 2 ≤ S.length) (hc : cr (at' S (S.length - 2)) (at' S (S.length - 1)) x ≤ 0) : Pend u v k L (S.take (S.length - 1)) x := by
  have hl : (S.take (S.length - 1)).length = S.length - 1 := by simp
  have hb : S.length - 2 + 1 = S.length - 1 := by omega
  refine ⟨⟨by omega, fun i hi => ?_, fun i hi => ?_, fun i hi y hy => ?_, fun y hy => ?_, fun i hi => ?_⟩, h.up, fun y hy hle => ?_⟩
  · rw [hl] at hi
    rw [at_take (by omega) (by omega), at_take (by omega) (by omega)]
    exact h.inc i (by omega)
  · rw [hl] at hi
    rw [at_take (by omega) (by omega), at_take (by omega) (by omega), at_take (by omega) (by omega)]
    exact h.turns i (by omega)
  · rw [hl] at hi
    rw [at_take (by omega) (by omega), at_take (by omega) (by omega)]
    exact h.left i (by omega) y hy
  · rw [at_take (by omega) (by omega)]
    exact h.low y hy
  · rw [hl] at hi
    rw [at_take (by omega) (by omega)]
    exact h.mem i (by omega)
  · rw [hl] at hle ⊢
    have e : S.length - 1 - 1 = S.length - 2 := by omega
    rw [e, at_take (by omega) (by omega)] at hle ⊢
    have i1 := h.inc (S.length - 2) (by omega)
    have l1 := h.left (S.length - 2) (by omega) y hy
    rw [hb] at i1 l1
    have u1 := h.up _ (h.mem (S.length - 1) (by omega))
    exact pop_left i1 (by omega) hle hc l1
theorem back_left {u v k : Int} {z a x y : Pt} (hza : af u v k z < af u v k a) (hax : af u v k a < af u v k x) (hya : af u v k y ≤ af u v k a) (c1 : 0 < cr z a x) (c2 : 0 ≤ cr z a y) : 0 ≤ cr a x y := by
  have e := tri u v k a z x y
  rw [cr_swap2 z a y, cr_swap2 z a x] at e
  have m1 := Int.mul_nonneg c2 (show 0 ≤ af u v k x - af u v k a by omega)
  have m2 := Int.mul_nonneg (Int.le_of_lt c1) (show 0 ≤ af u v k a - af u v k y by omega)
  refine nonneg_of (show 0 < af u v k a - af u v k z by omega) ?_
  have e2 : (af u v k a - af u v k z) * cr a x y = cr z a y * (af u v k x - af u v k a) + cr z a x * (af u v k a - af u v k y) := by grind
  rw [e2]
  omega
/-- Nothing is to be popped any more: x is the chain's new end. -/
theorem Pend.push {u v k : Int} {L : Pt → Prop} {S : List Pt} {x : Pt} (h : Pend u v k L S x) (hc : 2 ≤ S.length → 0 < cr (at' S (S.length - 2)) (at' S (S.length - 1)) x) : Chain u v k (fun y => L y ∨ y = x) (S ++ [x]) := by
  have hs := h.some'
  have hl : (S ++ [x]).length = S.length + 1 := by simp
  have hinc : ∀ i, i + 1 < (S ++ [x]).length → af u v k (at' (S ++ [x]) i) < af u v k (at' (S ++ [x]) (i + 1)) := by
    intro i hi
    rw [hl] at hi
    rw [at_append (by omega)]
    by_cases e : i + 1 = S.length
    · rw [e, at_last]
      exact h.up _ (h.mem i (by omega))
    · rw [at_append (by omega)]
      exact h.inc i (by omega)
  have hturn : ∀ i, i + 2 < (S ++ [x]).length → 0 < cr (at' (S ++ [x]) i) (at' (S ++ [x]) (i + 1)) (at' (S ++ [x]) (i + 2)) := by
    intro i hi
    rw [hl] at hi
    rw [at_append (by omega), at_append (by omega)]
    by_cases e : i + 2 = S.length
    · rw [e, at_last]
      have e1 : S.length - 2 = i := by omega
      have e2 : S.length - 1 = i + 1 := by omega
      have := hc (by omega)
      rwa [e1, e2] at this
    · rw [at_append (by omega)]
      exact h.turns i (by omega)
  have hall := chain_all (u := u) (v := v) (k := k) (P := at' (S ++ [x])) (S ++ [x]).length hinc hturn
  refine ⟨by omega, hinc, hturn, fun i hi y hy => ?_, fun y hy => ?_, fun i hi => ?_⟩
  · rw [hl] at hi
    rcases hy with hy | rfl
    · rw [at_append (by omega)]
      by_cases e : i + 1 = S.length
      · rw [e, at_last]
        have ei : S.length - 1 = i := by omega
        by_cases hle : af u v k (at' S i) ≤ af u v k y
        · have := h.fine y hy (by rw [ei]; exact hle)
          rwa [ei] at this
        · have h1 : 1 ≤ i := by
            by_cases e0 : i = 0
            · subst e0; exact absurd (h.low y hy) hle
            · omega
          have ez : i - 1 + 1 = i := by omega
          have z1 := h.inc (i - 1) (by omega)
          have z2 := h.left (i - 1) (by omega) y hy
          have z3 := hc (by omega)
          have e2 : S.length - 2 = i - 1 := by omega
          rw [ez] at z1 z2
          rw [ei, e2] at z3
          exact back_left z1 (h.up _ (h.mem i (by omega))) (by omega) z3 z2
      · rw [at_append (by omega)]
        exact h.left i (by omega) y hy
    · by_cases e : i + 1 = S.length
      · rw [e, at_last, cr_self']; exact Int.le_refl _
      · have := hall i (i + 1) S.length (by omega) (by omega) (by omega)
        rw [at_last] at this
        omega
  · rw [at_append (by omega)]
    rcases hy with hy | rfl
    · exact h.low y hy
    · exact Int.le_of_lt (h.up _ (h.mem 0 (by omega)))
  · rw [hl] at hi
    by_cases e : i = S.length
    · rw [e, at_last]; exact Or.inr rfl
    · rw [at_append (by omega)]; exact Or.inl (h.mem i (by omega))
end Hl
end Go.Proofs.Ytpiajdahmcelnaa
