/-
  Plain geometry: what the least values say of a polygon; the eight-sided hull.
  Plain geometry: corners of a hull are its own.
  Plain geometry: with a further place the area of a hull is greater.
  Plain geometry: sides that have all points on their left, and turn left, are the sides of a hull.
-/
import Derived.Test.YtpiajdahmcelnaaMHullCon
namespace Go.Proofs.Ytpiajdahmcelnaa
namespace Hl
/-- A point that no half-plane parts from points that a polygon has, is in the polygon. -/
theorem hs_of_least {q : List Pt} {x : Pt} (L : List Pt) (hq : Pg q) (hL : ∀ y, y ∈ L → Hs q y) (h : ∀ u v k : Int, ∃ y, y ∈ L ∧ af u v k y ≤ af u v k x) : Hs q x := by
  by_cases h1 : q.length = 1
  · rw [hs1 h1]
    have key : ∀ y, y ∈ L → y = at' q 0 := fun y hy => ((hs1 h1).1 (hL y hy)).symm
    obtain ⟨y1, m1, e1⟩ := h 1 0 0
    obtain ⟨y2, m2, e2⟩ := h (-1) 0 0
    obtain ⟨y3, m3, e3⟩ := h 0 1 0
    obtain ⟨y4, m4, e4⟩ := h 0 (-1) 0
    rw [key _ m1] at e1
    rw [key _ m2] at e2
    rw [key _ m3] at e3
    rw [key _ m4] at e4
    unfold af at e1 e2 e3 e4
    exact Prod.ext (by omega) (by omega)
  · by_cases h2 : q.length = 2
    · rw [hs2 h2]
      have key : ∀ y, y ∈ L → cr (at' q 0) (at' q 1) y = 0 ∧ btw (at' q 0) (at' q 1) y := fun y hy => (hs2 h2).1 (hL y hy)
      have hl := hq.2.1 1 (by omega) (by omega)
      refine ⟨?_, ?_⟩
      · have c1 : 0 ≤ cr (at' q 0) (at' q 1) x := by
          obtain ⟨y, m, e⟩ := h (-((at' q 1).2 - (at' q 0).2)) ((at' q 1).1 - (at' q 0).1) (((at' q 1).2 - (at' q 0).2) * (at' q 0).1 - ((at' q 1).1 - (at' q 0).1) * (at' q 0).2)
          rw [← cr_af, ← cr_af, (key y m).1] at e
          exact e
        have c2 : 0 ≤ cr (at' q 1) (at' q 0) x := by
          obtain ⟨y, m, e⟩ := h (-((at' q 0).2 - (at' q 1).2)) ((at' q 0).1 - (at' q 1).1) (((at' q 0).2 - (at' q 1).2) * (at' q 1).1 - ((at' q 0).1 - (at' q 1).1) * (at' q 1).2)
          rw [← cr_af, ← cr_af, cr_swap2, (key y m).1] at e
          exact e
        rw [cr_swap2] at c2
        omega
      · obtain ⟨y1, m1, e1⟩ := h 1 0 0
        obtain ⟨y2, m2, e2⟩ := h (-1) 0 0
        obtain ⟨y3, m3, e3⟩ := h 0 1 0
        obtain ⟨y4, m4, e4⟩ := h 0 (-1) 0
        have k1 := (key _ m1).2
        have k2 := (key _ m2).2
        have k3 := (key _ m3).2
        have k4 := (key _ m4).2
        unfold af at e1 e2 e3 e4
        unfold btw at k1 k2 k3 k4 ⊢
        unfold ls at hl
        omega
    · have h3 : 3 ≤ q.length := by have := hq.1; omega
      rw [hs3 h3]
      intro i hi
      obtain ⟨y, m, e⟩ := h (-((at' q ((i + 1) % q.length)).2 - (at' q i).2)) ((at' q ((i + 1) % q.length)).1 - (at' q i).1) (((at' q ((i + 1) % q.length)).2 - (at' q i).2) * (at' q i).1 - ((at' q ((i + 1) % q.length)).1 - (at' q i).1) * (at' q i).2)
      rw [← cr_af, ← cr_af] at e
      have := (hs3 h3).1 (hL y m) i hi
      omega

/-- Different corners in a list: no more than the list has. -/
theorem count_le (P : Nat → Pt) : ∀ (n : Nat) (L : List Pt), (∀ i j, i < n → j < n → i ≠ j → P i ≠ P j) → (∀ i, i < n → P i ∈ L) → n ≤ L.length
  | 0, _, _, _ => Nat.zero_le _
  | n + 1, L, hd, hm => by
    have h := count_le P n (L.erase (P n)) (fun i j hi hj => hd i j (by omega) (by omega)) (fun i hi => (List.mem_erase_of_ne (hd i n (by omega) (by omega) (by omega))).2 (hm i (by omega)))
    rw [List.length_erase_of_mem (hm n (by omega))] at h
    have : 0 < L.length := List.length_pos_of_mem (hm n (by omega))
    omega
theorem pg_distinct {q : List Pt} (h : Pg q) {i j : Nat} (hi : i < q.length) (hj : j < q.length) (hne : i ≠ j) : at' q i ≠ at' q j := by
  by_cases h3 : 3 ≤ q.length
  · exact corners_ne (h.2.2 (by omega)) h3 hi hj hne
  · have h2 := pg_ne h (by omega)
    by_cases e : i = 0
    · obtain rfl : j = 1 := by omega
      subst e; exact h2
    · obtain rfl : i = 1 := by omega
      obtain rfl : j = 0 := by omega
      exact fun e => h2 e.symm

/-- Bounds that belong together: each is met by a point that keeps the others. -/
structure Bd (a b c d s t i j : Int) : Prop where
  wa : ∃ x y : Int, x = a ∧ (a ≤ x ∧ x ≤ b) ∧ (c ≤ y ∧ y ≤ d) ∧ (s ≤ x + y ∧ x + y ≤ t) ∧ (i ≤ x - y ∧ x - y ≤ j)
  wb : ∃ x y : Int, x = b ∧ (a ≤ x ∧ x ≤ b) ∧ (c ≤ y ∧ y ≤ d) ∧ (s ≤ x + y ∧ x + y ≤ t) ∧ (i ≤ x - y ∧ x - y ≤ j)
  wc : ∃ x y : Int, y = c ∧ (a ≤ x ∧ x ≤ b) ∧ (c ≤ y ∧ y ≤ d) ∧ (s ≤ x + y ∧ x + y ≤ t) ∧ (i ≤ x - y ∧ x - y ≤ j)
  wd : ∃ x y : Int, y = d ∧ (a ≤ x ∧ x ≤ b) ∧ (c ≤ y ∧ y ≤ d) ∧ (s ≤ x + y ∧ x + y ≤ t) ∧ (i ≤ x - y ∧ x - y ≤ j)
  ws : ∃ x y : Int, x + y = s ∧ (a ≤ x ∧ x ≤ b) ∧ (c ≤ y ∧ y ≤ d) ∧ (s ≤ x + y ∧ x + y ≤ t) ∧ (i ≤ x - y ∧ x - y ≤ j)
  wt : ∃ x y : Int, x + y = t ∧ (a ≤ x ∧ x ≤ b) ∧ (c ≤ y ∧ y ≤ d) ∧ (s ≤ x + y ∧ x + y ≤ t) ∧ (i ≤ x - y ∧ x - y ≤ j)
  wi : ∃ x y : Int, x - y = i ∧ (a ≤ x ∧ x ≤ b) ∧ (c ≤ y ∧ y ≤ d) ∧ (s ≤ x + y ∧ x + y ≤ t) ∧ (i ≤ x - y ∧ x - y ≤ j)
  wj : ∃ x y : Int, x - y = j ∧ (a ≤ x ∧ x ≤ b) ∧ (c ≤ y ∧ y ≤ d) ∧ (s ≤ x + y ∧ x + y ≤ t) ∧ (i ≤ x - y ∧ x - y ≤ j)

/-- A bound that the polygon's points keep, and one of them meets, is the polygon's. -/
theorem min_hull {L q : List Pt} {u v m : Int} (hq : IsHull L q) (hlo : ∀ x, x ∈ L → m ≤ u * x.1 + v * x.2) (hat : ∃ x, x ∈ L ∧ u * x.1 + v * x.2 = m) : IsMin q u v m := by
  obtain ⟨x, hx, e⟩ := hat
  obtain ⟨k, hk, hle⟩ := hs_least hq.1 (hq.2.2 x hx) u v 0
  have hlo' : ∀ y, y ∈ q → m ≤ u * y.1 + v * y.2 := fun y hy => hlo y (hq.2.1 y hy)
  refine ⟨⟨at' q k, at_mem hk, ?_⟩, hlo'⟩
  have := hlo' _ (at_mem hk)
  unfold af at hle
  omega
theorem box_has {p : List Pt} {lo hi x : Pt} (hp : Pg p) (h : IsBox p lo hi) (hx : Hs p x) : lo.1 ≤ x.1 ∧ x.1 ≤ hi.1 ∧ lo.2 ≤ x.2 ∧ x.2 ≤ hi.2 := by
  obtain ⟨p1, p2, p3, p4⟩ := h
  have g : ∀ u v m, IsMin p u v m → m ≤ u * x.1 + v * x.2 := by
    intro u v m hm
    obtain ⟨n, hn, hle⟩ := hs_least hp hx u v 0
    have := hm.2 _ (at_mem hn)
    unfold af at hle
    omega
  have e1 := g _ _ _ p1
  have e2 := g _ _ _ p2
  have e3 := g _ _ _ p3
  have e4 := g _ _ _ p4
  omega
end Hl
end Go.Proofs.Ytpiajdahmcelnaa
namespace Go.Proofs.Ytpiajdahmcelnaa
namespace Hl
theorem hull_plcs {l q : List Pt} (h : IsHull l q) (hp : Plcs l) : Plcs q := fun i hi => by
  obtain ⟨j, hj, e⟩ := mem_at (h.2.1 _ (at_mem hi))
  rw [← e]; exact hp j hj
end Hl
end Go.Proofs.Ytpiajdahmcelnaa
namespace Go.Proofs.Ytpiajdahmcelnaa
namespace Hl
/-! ### Sums over some of the sides -/
/-! ### A side that sees the place on its left is a side of the greater hull -/
def dt (a b y : Pt) : Int := (b.1 - a.1) * (y.1 - a.1) + (b.2 - a.2) * (y.2 - a.2)
theorem dt_cr (v a b y : Pt) : cr v a b * dt a b y = cr v a y * dt a b b + cr a b y * ((b.1 - a.1) * (v.1 - a.1) + (b.2 - a.2) * (v.2 - a.2)) := by unfold cr dt; grind
theorem dt_cr' (a b n y : Pt) : cr a b n * dt b a y = cr b n y * dt b a a + cr a b y * ((a.1 - b.1) * (n.1 - b.1) + (a.2 - b.2) * (n.2 - b.2)) := by unfold cr dt; grind
theorem dt_pos {a b : Pt} (h : a ≠ b) : 0 < dt a b b := by
  have e : dt a b b = (b.1 - a.1) * (b.1 - a.1) + (b.2 - a.2) * (b.2 - a.2) := rfl
  rw [e]
  have s1 : 0 ≤ (b.1 - a.1) * (b.1 - a.1) := by
    rcases Int.le_total 0 (b.1 - a.1) with k | k
    · exact Int.mul_nonneg k k
    · have := Int.mul_nonneg (show 0 ≤ -(b.1 - a.1) by omega) (show 0 ≤ -(b.1 - a.1) by omega)
      rwa [Int.neg_mul_neg] at this
  have s2 : 0 ≤ (b.2 - a.2) * (b.2 - a.2) := by
    rcases Int.le_total 0 (b.2 - a.2) with k | k
    · exact Int.mul_nonneg k k
    · have := Int.mul_nonneg (show 0 ≤ -(b.2 - a.2) by omega) (show 0 ≤ -(b.2 - a.2) by omega)
      rwa [Int.neg_mul_neg] at this
  by_cases e1 : b.1 - a.1 = 0
  · have e2 : b.2 - a.2 ≠ 0 := fun e2 => h (Prod.ext (by omega) (by omega))
    rcases Int.lt_or_gt_of_ne e2 with k | k
    · have := Int.mul_pos (show 0 < -(b.2 - a.2) by omega) (show 0 < -(b.2 - a.2) by omega)
      rw [Int.neg_mul_neg] at this
      omega
    · have := Int.mul_pos (show 0 < b.2 - a.2 by omega) (show 0 < b.2 - a.2 by omega)
      omega
  · rcases Int.lt_or_gt_of_ne e1 with k | k
    · have := Int.mul_pos (show 0 < -(b.1 - a.1) by omega) (show 0 < -(b.1 - a.1) by omega)
      rw [Int.neg_mul_neg] at this
      omega
    · have := Int.mul_pos (show 0 < b.1 - a.1 by omega) (show 0 < b.1 - a.1 by omega)
      omega
section
variable {l p q : List Pt} {x : Pt}
end
end Hl
end Go.Proofs.Ytpiajdahmcelnaa
namespace Go.Proofs.Ytpiajdahmcelnaa
namespace Hl
/-- A point on the line of a side, on the left of the sides before and behind it, lies between its ends. -/
theorem on_side {v a b n y : Pt} (h1 : 0 < cr v a b) (h2 : 0 < cr a b n) (e : cr a b y = 0) (g1 : 0 ≤ cr v a y) (g2 : 0 ≤ cr b n y) : 0 ≤ dt a b y ∧ 0 ≤ dt b a y := by
  have hne : a ≠ b := fun ee => by rw [ee] at h2; rw [cr_same] at h2; omega
  have d1 := dt_pos hne
  have d2 := dt_pos hne.symm
  have e1 := dt_cr v a b y
  have e2 := dt_cr' a b n y
  rw [e, Int.zero_mul, Int.add_zero] at e1 e2
  refine ⟨nonneg_of h1 ?_, nonneg_of h2 ?_⟩
  · rw [e1]; exact Int.mul_nonneg g1 (Int.le_of_lt d1)
  · rw [e2]; exact Int.mul_nonneg g2 (Int.le_of_lt d2)
/-- What holds of a point between two others, on the left of a line that has both on its left. -/
theorem mid_zero {u v a b y : Pt} (e : cr a b y = 0) (hy : cr u v y = 0) (ga : 0 ≤ cr u v a) (gb : 0 ≤ cr u v b) (h1 : 0 < dt a b y) (h2 : 0 < dt b a y) : cr u v a = 0 ∧ cr u v b = 0 := by
  have hne : a ≠ b := fun ee => by
    rw [ee] at h1
    have : dt b b y = 0 := by unfold dt; grind
    omega
  have d := dt_pos hne
  have k : dt b a y * cr u v a + dt a b y * cr u v b = dt a b b * cr u v y - cr a b y * ((v.1 - u.1) * (b.1 - a.1) + (v.2 - u.2) * (b.2 - a.2)) := by unfold dt cr; grind
  rw [e, hy, Int.mul_zero, Int.zero_mul, Int.sub_zero] at k
  have m1 := Int.mul_nonneg (Int.le_of_lt h2) ga
  have m2 := Int.mul_nonneg (Int.le_of_lt h1) gb
  refine ⟨?_, ?_⟩
  · by_cases z : cr u v a = 0
    · exact z
    · have := Int.mul_pos h2 (show 0 < cr u v a by omega)
      omega
  · by_cases z : cr u v b = 0
    · exact z
    · have := Int.mul_pos h1 (show 0 < cr u v b by omega)
      omega
theorem dt_zero {a b y : Pt} (h : a ≠ b) (e : cr a b y = 0) (d : dt a b y = 0) : y = a := by
  have p := dt_pos h
  have k1 : dt a b b * (y.1 - a.1) = dt a b y * (b.1 - a.1) - cr a b y * (b.2 - a.2) := by unfold dt cr; grind
  have k2 : dt a b b * (y.2 - a.2) = dt a b y * (b.2 - a.2) + cr a b y * (b.1 - a.1) := by unfold dt cr; grind
  rw [d, e, Int.zero_mul, Int.zero_mul] at k1 k2
  have z1 : y.1 - a.1 = 0 := by
    rcases Int.mul_eq_zero.1 (show dt a b b * (y.1 - a.1) = 0 by omega) with h | h
    · omega
    · exact h
  have z2 : y.2 - a.2 = 0 := by
    rcases Int.mul_eq_zero.1 (show dt a b b * (y.2 - a.2) = 0 by omega) with h | h
    · omega
    · exact h
  exact Prod.ext (by omega) (by omega)
/-- Different corners, all points of l on the left of all sides, left turns only: a convex polygon. -/
theorem cvx_of_sides {n : Nat} {P : Nat → Pt} (hn : 3 ≤ n) (hd : ∀ i j, i < n → j < n → i ≠ j → P i ≠ P j) (hl : ∀ i k, i < n → k < n → 0 ≤ cr (P i) (P ((i + 1) % n)) (P k)) (ht : ∀ i, i < n → 0 < cr (P (pv n i)) (P i) (P ((i + 1) % n))) : Cvx n P := by
  intro i k hi hk hki hki'
  have h0 := hl i k hi hk
  by_cases z : cr (P i) (P ((i + 1) % n)) (P k) = 0
  · exfalso
    have hi' : (i + 1) % n < n := Nat.mod_lt _ (by omega)
    have t1 := ht i hi
    have t2 := ht _ hi'
    have epv : pv n ((i + 1) % n) = i := by
      unfold pv
      by_cases e : i + 1 = n
      · rw [e, Nat.mod_self, Nat.zero_add, Nat.mod_eq_of_lt (by omega)]; omega
      · have h1 : i + 1 < n := by omega
        rw [Nat.mod_eq_of_lt h1]
        have h2 : i + 1 + (n - 1) = n + i := by omega
        rw [h2, Nat.add_mod_left, Nat.mod_eq_of_lt hi]
    rw [epv] at t2
    have hv : pv n i < n := Nat.mod_lt _ (by omega)
    have g1 : 0 ≤ cr (P (pv n i)) (P i) (P k) := by
      have := hl (pv n i) k hv hk
      rwa [pv_next hi] at this
    have g2 := hl ((i + 1) % n) k hi' hk
    obtain ⟨d1, d2⟩ := on_side t1 t2 z g1 g2
    have hne := hd i _ hi hi' (fun e => nx_ne (by omega) hi e.symm)
    have z' : cr (P ((i + 1) % n)) (P i) (P k) = 0 := by rw [cr_swap2]; omega
    have p1 : 0 < dt (P i) (P ((i + 1) % n)) (P k) := by
      by_cases e : dt (P i) (P ((i + 1) % n)) (P k) = 0
      · exact absurd (dt_zero hne z e) (hd k i hk hi hki)
      · omega
    have p2 : 0 < dt (P ((i + 1) % n)) (P i) (P k) := by
      by_cases e : dt (P ((i + 1) % n)) (P i) (P k) = 0
      · exact absurd (dt_zero hne.symm z' e) (hd k _ hk hi' hki')
      · omega
    have tk := ht k hk
    have hkv : pv n k < n := Nat.mod_lt _ (by omega)
    have a1 : 0 ≤ cr (P (pv n k)) (P k) (P i) := by have := hl (pv n k) i hkv hi; rwa [pv_next hk] at this
    have a2 : 0 ≤ cr (P (pv n k)) (P k) (P ((i + 1) % n)) := by have := hl (pv n k) _ hkv hi'; rwa [pv_next hk] at this
    have m1 := mid_zero z (cr_self' _ _) a1 a2 p1 p2
    have m2 := mid_zero z (cr_self _ _) (hl k i hk hi) (hl k _ hk hi') p1 p2
    -- both sides at k lie on one line
    have hk' : (k + 1) % n < n := Nat.mod_lt _ (by omega)
    have nk := hd k i hk hi hki
    have q1 : cr (P k) (P i) (P (pv n k)) = 0 := by rw [← cr_rot]; exact m1.1
    have q2 : cr (P k) (P i) (P ((k + 1) % n)) = 0 := by rw [cr_swap]; rw [m2.1]; rfl
    have q3 : cr (P k) (P i) (P k) = 0 := cr_self _ _
    have := on_line nk q1 q3 q2
    omega
  · omega
theorem hull_of_sides {l p : List Pt} (hn : 3 ≤ p.length) (hm : ∀ x, x ∈ p → x ∈ l) (hd : ∀ i j, i < p.length → j < p.length → i ≠ j → at' p i ≠ at' p j) (hl : ∀ i, i < p.length → ∀ y, y ∈ l → 0 ≤ cr (at' p i) (at' p ((i + 1) % p.length)) y)
    (ht : ∀ i, i < p.length → 0 < cr (at' p (pv p.length i)) (at' p i) (at' p ((i + 1) % p.length))) (h0 : ∀ i, 1 ≤ i → i < p.length → ls (at' p 0) (at' p i)) : IsHull l p :=
  ⟨⟨by omega, h0, fun _ => cvx_of_sides hn hd (fun i k hi hk => hl i hi _ (hm _ (at_mem hk))) ht⟩, hm, fun y hy => (hs3 hn).2 (fun i hi => hl i hi y hy)⟩
end Hl
end Go.Proofs.Ytpiajdahmcelnaa
