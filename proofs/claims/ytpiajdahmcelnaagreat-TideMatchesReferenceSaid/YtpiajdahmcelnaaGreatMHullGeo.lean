/-
  Plain geometry of convex polygons with integer corners. No Go, no program.
-/

namespace Go.Proofs.YtpiajdahmcelnaaGreat
namespace Hl

abbrev Pt := Int × Int
/-- Twice the area of a triangle, above 0 if its corners are counterclockwise. -/
def cr (a b c : Pt) : Int := (b.1 - a.1) * (c.2 - a.2) - (b.2 - a.2) * (c.1 - a.1)
/-- The order of places. -/
def ls (a b : Pt) : Prop := a.1 < b.1 ∨ (a.1 = b.1 ∧ a.2 < b.2)
instance (a b : Pt) : Decidable (ls a b) := by unfold ls; infer_instance
/-- An affine function of places. -/
def af (u v k : Int) (x : Pt) : Int := u * x.1 + v * x.2 + k

theorem cr_swap (a b c : Pt) : cr a b c = -(cr a c b) := by unfold cr; grind
theorem cr_rot (a b c : Pt) : cr a b c = cr b c a := by unfold cr; grind
theorem cr_self (a b : Pt) : cr a b a = 0 := by unfold cr; grind
theorem cr_self' (a b : Pt) : cr a b b = 0 := by unfold cr; grind
theorem cr_same (a b : Pt) : cr a a b = 0 := by unfold cr; grind
/-- A place, seen from a corner, between both sides. -/
theorem cone (f0 f1 f2 : Int) (p v n x : Pt) : cr p v n * (af f0 f1 f2 x - af f0 f1 f2 v) = cr p v x * (af f0 f1 f2 n - af f0 f1 f2 v) + cr v n x * (af f0 f1 f2 p - af f0 f1 f2 v) := by
  unfold cr af; grind

/-- All other corners lie on the left of each side. -/
def Cvx (n : Nat) (P : Nat → Pt) : Prop := ∀ i k, i < n → k < n → k ≠ i → k ≠ (i + 1) % n → 0 < cr (P i) (P ((i + 1) % n)) (P k)
/-- A place is on the right of no side. -/
def Ins (n : Nat) (P : Nat → Pt) (x : Pt) : Prop := ∀ i, i < n → 0 ≤ cr (P i) (P ((i + 1) % n)) x

/-- The index before. -/
def pv (n i : Nat) : Nat := (i + (n - 1)) % n
theorem pv_lt {n i : Nat} (h : 0 < n) : pv n i < n := Nat.mod_lt _ h
theorem pv_next {n i : Nat} (h : i < n) : (pv n i + 1) % n = i := by
  unfold pv
  by_cases h0 : i = 0
  · subst h0
    rw [Nat.zero_add, Nat.mod_eq_of_lt (show n - 1 < n by omega), show n - 1 + 1 = n by omega, Nat.mod_self]
  · rw [show i + (n - 1) = (i - 1) + n by omega, Nat.add_mod_right, Nat.mod_eq_of_lt (show i - 1 < n by omega), show i - 1 + 1 = i by omega, Nat.mod_eq_of_lt h]
theorem nx_lt {n i : Nat} (h : 0 < n) : (i + 1) % n < n := Nat.mod_lt _ h
theorem nx_ne {n i : Nat} (h : 2 ≤ n) (hi : i < n) : (i + 1) % n ≠ i := by
  by_cases e : i + 1 = n
  · rw [e, Nat.mod_self]; omega
  · rw [Nat.mod_eq_of_lt (by omega)]; omega
theorem nx_pv {n i : Nat} (h : 3 ≤ n) (hi : i < n) : (i + 1) % n ≠ pv n i := by
  unfold pv
  by_cases e : i + 1 = n
  · rw [e, Nat.mod_self, show i + (n - 1) = (n - 2) + n by omega, Nat.add_mod_right, Nat.mod_eq_of_lt (by omega)]; omega
  · rw [Nat.mod_eq_of_lt (by omega)]
    by_cases e0 : i = 0
    · subst e0; rw [Nat.zero_add, Nat.zero_add, Nat.mod_eq_of_lt (by omega)]; omega
    · rw [show i + (n - 1) = (i - 1) + n by omega, Nat.add_mod_right, Nat.mod_eq_of_lt (by omega)]; omega
/-- At each corner the way turns left. -/
theorem turn {n : Nat} {P : Nat → Pt} (h : Cvx n P) (hn : 3 ≤ n) {i : Nat} (hi : i < n) : 0 < cr (P (pv n i)) (P i) (P ((i + 1) % n)) := by
  have e := pv_next hi
  have := h (pv n i) ((i + 1) % n) (pv_lt (by omega)) (nx_lt (by omega)) (nx_pv hn hi) (by rw [e]; exact nx_ne (by omega) hi)
  rwa [e] at this
theorem ins_pv {n : Nat} {P : Nat → Pt} {x : Pt} (h : Ins n P x) {i : Nat} (hi : i < n) : 0 ≤ cr (P (pv n i)) (P i) x := by
  have := h (pv n i) (pv_lt (by omega))
  rwa [pv_next hi] at this

/-- Of some numbers one is the least. -/
theorem least_at (g : Nat → Int) (n : Nat) (h : 0 < n) : ∃ j, j < n ∧ ∀ i, i < n → g j ≤ g i := by
  induction n with
  | zero => omega
  | succ n ih =>
    by_cases h0 : n = 0
    · subst h0; exact ⟨0, by omega, fun i hi => by
        have e : i = 0 := by omega
        rw [e]; exact Int.le_refl _⟩
    · obtain ⟨j, hj, hl⟩ := ih (by omega)
      by_cases hg : g j ≤ g n
      · exact ⟨j, by omega, fun i hi => by
          by_cases e : i = n
          · subst e; exact hg
          · exact hl i (by omega)⟩
      · exact ⟨n, by omega, fun i hi => by
          by_cases e : i = n
          · subst e; exact Int.le_refl _
          · have := hl i (by omega); omega⟩

/-- An affine function is nowhere in a polygon less than at each corner. -/
theorem ins_least {n : Nat} {P : Nat → Pt} (h : Cvx n P) (hn : 3 ≤ n) {x : Pt} (hx : Ins n P x) (u v k : Int) : ∃ j, j < n ∧ af u v k (P j) ≤ af u v k x := by
  obtain ⟨j, hj, hl⟩ := least_at (fun i => af u v k (P i)) n (by omega)
  refine ⟨j, hj, ?_⟩
  have e := cone u v k (P (pv n j)) (P j) (P ((j + 1) % n)) x
  have d := turn h hn hj
  have a := ins_pv hx hj
  have b := hx j hj
  have p : af u v k (P j) ≤ af u v k (P (pv n j)) := hl (pv n j) (pv_lt (by omega))
  have q : af u v k (P j) ≤ af u v k (P ((j + 1) % n)) := hl ((j + 1) % n) (nx_lt (by omega))
  have s1 := Int.mul_nonneg a (show 0 ≤ af u v k (P ((j + 1) % n)) - af u v k (P j) by omega)
  have s2 := Int.mul_nonneg b (show 0 ≤ af u v k (P (pv n j)) - af u v k (P j) by omega)
  by_cases hlt : af u v k x < af u v k (P j)
  · have := Int.mul_neg_of_pos_of_neg d (show af u v k x - af u v k (P j) < 0 by omega)
    omega
  · omega

theorem cr_af (a b x : Pt) : cr a b x = af (-(b.2 - a.2)) (b.1 - a.1) ((b.2 - a.2) * a.1 - (b.1 - a.1) * a.2) x := by unfold cr af; grind
theorem af_add (u v k u' v' k' : Int) (x : Pt) : af u v k x + af u' v' k' x = af (u + u') (v + v') (k + k') x := by unfold af; grind

/-- What is on no side's right, and on both lines of a corner, is the corner. -/
theorem only_corner {p v n x : Pt} (d : 0 < cr p v n) (a : cr p v x = 0) (b : cr v n x = 0) : x = v := by
  have e1 := cone 1 0 0 p v n x
  have e2 := cone 0 1 0 p v n x
  rw [a, b, Int.zero_mul, Int.zero_mul, Int.add_zero] at e1 e2
  have f1 : af 1 0 0 x - af 1 0 0 v = x.1 - v.1 := by unfold af; omega
  have f2 : af 0 1 0 x - af 0 1 0 v = x.2 - v.2 := by unfold af; omega
  rw [f1] at e1
  rw [f2] at e2
  rcases Int.mul_eq_zero.1 e1 with h | h
  · omega
  · rcases Int.mul_eq_zero.1 e2 with k | k
    · omega
    · exact Prod.ext (by omega) (by omega)

/-- A corner of one polygon that another one has, whose corners the first one has, is a corner of this, too. -/
theorem corner_of {n m : Nat} {P Q : Nat → Pt} (hP : Cvx n P) (hn : 3 ≤ n) (hQ : Cvx m Q) (hm : 3 ≤ m) (hin : ∀ j, j < m → Ins n P (Q j)) {i : Nat} (hi : i < n) (hv : Ins m Q (P i)) : ∃ j, j < m ∧ Q j = P i := by
  obtain ⟨j, hj, hl⟩ := ins_least hQ hm hv (-((P i).2 - (P (pv n i)).2) + -((P ((i + 1) % n)).2 - (P i).2)) (((P i).1 - (P (pv n i)).1) + ((P ((i + 1) % n)).1 - (P i).1)) ((((P i).2 - (P (pv n i)).2) * (P (pv n i)).1 - ((P i).1 - (P (pv n i)).1) * (P (pv n i)).2) + (((P ((i + 1) % n)).2 - (P i).2) * (P i).1 - ((P ((i + 1) % n)).1 - (P i).1) * (P i).2))
  rw [← af_add, ← af_add, ← cr_af, ← cr_af, ← cr_af, ← cr_af, cr_self', cr_self] at hl
  have a := ins_pv (hin j hj) hi
  have b := hin j hj i hi
  exact ⟨j, hj, only_corner (turn hP hn hi) (by omega) (by omega)⟩

/-- No two corners are the same. -/
theorem corners_ne {n : Nat} {P : Nat → Pt} (h : Cvx n P) (hn : 3 ≤ n) {i j : Nat} (hi : i < n) (hj : j < n) (hne : i ≠ j) : P i ≠ P j := by
  intro e
  by_cases hj' : j = (i + 1) % n
  · have := turn h hn hj
    have k := h i (pv n i) hi (pv_lt (by omega)) (fun e => by have := nx_pv hn hi; have h2 := pv_next hi; rw [e] at h2; exact nx_ne (by omega) hi h2) (fun e => nx_pv hn hi e.symm)
    rw [← hj', ← e, cr_same] at k
    omega
  · have := h i j hi hj (fun e => hne e.symm) hj'
    rw [← e, cr_self] at this
    omega

/-- The corner behind a corner is the same in two polygons with the same corners. -/
theorem next_same {n m : Nat} {P Q : Nat → Pt} (hP : Cvx n P) (hn : 3 ≤ n) (hQ : Cvx m Q) (hm : 3 ≤ m) (hpq : ∀ i, i < n → ∃ j, j < m ∧ Q j = P i) (hqp : ∀ j, j < m → ∃ i, i < n ∧ P i = Q j) {i j : Nat} (hi : i < n) (hj : j < m) (e : P i = Q j) : P ((i + 1) % n) = Q ((j + 1) % m) := by
  obtain ⟨k, hk, ek⟩ := hpq ((i + 1) % n) (nx_lt (by omega))
  obtain ⟨l, hl, el⟩ := hqp ((j + 1) % m) (nx_lt (by omega))
  by_cases h1 : k = (j + 1) % m
  · rw [← ek, h1]
  · by_cases h2 : l = (i + 1) % n
    · rw [← el, h2]
    · have k0 : k ≠ j := by
        intro h; rw [h, ← e] at ek
        exact corners_ne hP hn (nx_lt (by omega)) hi (nx_ne (by omega) hi) ek.symm
      have l0 : l ≠ i := by
        intro h; rw [h, e] at el
        exact corners_ne hQ hm (nx_lt (by omega)) hj (nx_ne (by omega) hj) el.symm
      have a := hQ j k hj hk k0 h1
      have b := hP i l hi hl l0 h2
      rw [ek, ← e] at a
      rw [el] at b
      rw [cr_swap] at b
      omega

/-- Two polygons with the same corners, that begin with the same one, are the same. -/
theorem same_all {n m : Nat} {P Q : Nat → Pt} (hP : Cvx n P) (hn : 3 ≤ n) (hQ : Cvx m Q) (hm : 3 ≤ m) (hpq : ∀ i, i < n → ∃ j, j < m ∧ Q j = P i) (hqp : ∀ j, j < m → ∃ i, i < n ∧ P i = Q j) (e0 : P 0 = Q 0) : n = m ∧ ∀ i, i < n → P i = Q i := by
  have step : ∀ i, i < n → i < m → P i = Q i := by
    intro i
    induction i with
    | zero => intro _ _; exact e0
    | succ i ih =>
      intro h1 h2
      have := next_same hP hn hQ hm hpq hqp (i := i) (j := i) (by omega) (by omega) (ih (by omega) (by omega))
      rwa [Nat.mod_eq_of_lt h1, Nat.mod_eq_of_lt h2] at this
  have hnm : n = m := by
    by_cases h1 : n < m
    · have := next_same hP hn hQ hm hpq hqp (i := n - 1) (j := n - 1) (by omega) (by omega) (step (n - 1) (by omega) (by omega))
      rw [show n - 1 + 1 = n by omega, Nat.mod_self, Nat.mod_eq_of_lt h1, e0] at this
      exact absurd this (corners_ne hQ hm (by omega) h1 (by omega))
    · by_cases h2 : m < n
      · have := next_same hP hn hQ hm hpq hqp (i := m - 1) (j := m - 1) (by omega) (by omega) (step (m - 1) (by omega) (by omega))
        rw [show m - 1 + 1 = m by omega, Nat.mod_self, Nat.mod_eq_of_lt h2, ← e0] at this
        exact absurd this.symm (corners_ne hP hn (by omega) h2 (by omega))
      · omega
  exact ⟨hnm, fun i hi => step i hi (by omega)⟩
end Hl
end Go.Proofs.YtpiajdahmcelnaaGreat
