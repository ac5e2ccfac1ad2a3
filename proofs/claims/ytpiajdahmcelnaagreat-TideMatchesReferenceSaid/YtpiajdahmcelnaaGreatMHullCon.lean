/-
  What package hull owes, a contract each, and what follows of it at the examples.
  The examples of chapter 3: what they are as points.
  The examples at the head of the statements about layer 3.
  Plain geometry: what the least values say of a polygon; the eight-sided hull.
  Plain geometry: corners of a hull are its own.
  Plain geometry: with a further place the area of a hull is greater.
  Plain geometry: sides that have all points on their left, and turn left, are the sides of a hull.
  Plain geometry: a chain of corners that grows by a sorted list of points.
-/
import Derived.IntWalk
import Derived.Test.YtpiajdahmcelnaaGreatMHullRef
import Derived.Test.YtpiajdahmcelnaaGreatMHullSame
namespace Go.Proofs.YtpiajdahmcelnaaGreat
open Go.RowKit
namespace Hl
/-- The bounds of points: the least and the greatest of u X + v Y. -/
def IsMin (p : List Pt) (u v m : Int) : Prop := (∃ x, x ∈ p ∧ u * x.1 + v * x.2 = m) ∧ ∀ x, x ∈ p → m ≤ u * x.1 + v * x.2
/-- The corners of the eight-sided hull, out of the bounds: X from a to b, Y from c to d, X + Y from s to t, X - Y from i to j. -/
def octL (a b c d s t i j : Int) : List Pt := [(b, b - j), (b, t - b), (t - d, d), (d + i, d), (a, a - i), (a, s - a), (s - c, c), (c + j, c)]
def IsOct (p q : List Pt) : Prop := ∃ a b c d s t i j : Int, IsMin p 1 0 a ∧ IsMin p (-1) 0 (-b) ∧ IsMin p 0 1 c ∧ IsMin p 0 (-1) (-d) ∧ IsMin p 1 1 s ∧ IsMin p (-1) (-1) (-t) ∧ IsMin p 1 (-1) i ∧ IsMin p (-1) 1 (-j) ∧ IsHull (octL a b c d s t i j) q
def Empty (k : Int) (w : World) (e : Ending) (w' : World) : Prop := ∃ v, e = .returned (.tuple #[v, .int .i64 k]) ∧ Sl w' v [] ∧ Grew w w'
def HullSays (l : List Pt) (w : World) (e : Ending) (w' : World) : Prop := ∃ q, IsHull l q ∧ ((q.length ≤ 64 ∧ ∃ v, e = .returned (.tuple #[v, .int .i64 0]) ∧ Sl w' v q ∧ Grew w w') ∨ (64 < q.length ∧ Empty 2 w e w'))
def EightSays (p : List Pt) (w : World) (e : Ending) (w' : World) : Prop := ∃ q v, IsOct p q ∧ e = .returned (.tuple #[v, .int .i64 0]) ∧ Sl w' v q ∧ Grew w w'
structure Code : Prop where
  valid : ∀ (p : List Pt) (v : Value) (w : World), Sl w v p → p.length ≤ 9223372036854775807 → Calls Tryz.prog 62 #[v] w (Tells (Vl p) w)
  hull_big : ∀ (l : List Pt) (v : Value) (w : World), Sl w v l → l.length ≤ 9223372036854775807 → 4000 < l.length → Calls Tryz.prog 38 #[v] w (Empty 2 w)
  hull_bad : ∀ (l : List Pt) (v : Value) (w : World), Sl w v l → l.length ≤ 4000 → (l = [] ∨ ¬ Plcs l) → Calls Tryz.prog 38 #[v] w (Empty 1 w)
  hull_ok : ∀ (l : List Pt) (v : Value) (w : World), Sl w v l → l.length ≤ 4000 → l ≠ [] → Plcs l → Calls Tryz.prog 38 #[v] w (HullSays l w)
/-! ### Points in a new block -/
def cellsOf (p : List Pt) : List Value := p.flatMap fun x => [.int .i64 x.1, .int .i64 x.2]
theorem cellsOf_at : ∀ (p : List Pt) (i : Nat), i < p.length → (cellsOf p)[i * 2]? = some (.int .i64 (at' p i).1) ∧ (cellsOf p)[i * 2 + 1]? = some (.int .i64 (at' p i).2)
  | [], i, h => absurd h (by simp)
  | x :: p, 0, _ => ⟨rfl, rfl⟩
  | x :: p, i + 1, h => by
    have ih := cellsOf_at p i (by simpa using h)
    have e1 : (i + 1) * 2 = i * 2 + 1 + 1 := by omega
    have e2 : at' (x :: p) (i + 1) = at' p i := rfl
    rw [e1, e2]
    exact ih
theorem row_new (p : List Pt) (cs : Array Value) (h : (cellsOf p).toArray = cs) (w : World) (t : TypeId) : Row (w.alloc (.cells cs t)) w.heap.size 0 p := by
  refine ⟨by simp, fun i hi => ?_⟩
  obtain ⟨a, b⟩ := cellsOf_at p i hi
  subst h
  have key : ∀ (j : Nat) (v : Value), (cellsOf p)[j]? = some v → (w.alloc (.cells (cellsOf p).toArray t)).cell? ⟨w.heap.size, 0 + j, none⟩ = some v := by
    intro j v hj
    simp [go_sem, hj]
  exact ⟨key _ _ a, by have := key _ _ b; rwa [← Nat.add_assoc] at this⟩
end Hl
end Go.Proofs.YtpiajdahmcelnaaGreat
namespace Go.Proofs.YtpiajdahmcelnaaGreat
open Go.RowKit
namespace Hl
def o4 : List Pt := [(0, 0), (4, 0), (5, 1), (1, 1)]
instance (a b : Pt) : Decidable (ls a b) := by unfold ls; infer_instance
theorem vl_of {p : List Pt} (h : Pg p) (hl : p.length ≤ 64) (hp : Plcs p) : Vl p := ⟨⟨h.1, hl⟩, hp, h.2.1, h.2.2⟩
theorem plcs_of {p : List Pt} (h : ∀ x, x ∈ p → Plc x) : Plcs p := fun _ hi => h _ (at_mem hi)
theorem IsMin.one {p : List Pt} {u v m m' : Int} (h : IsMin p u v m) (k : IsMin p u v m') : m = m' := by
  obtain ⟨⟨x, hx, e⟩, h2⟩ := h
  obtain ⟨⟨y, hy, e'⟩, k2⟩ := k
  have := h2 y hy
  have := k2 x hx
  omega
end Hl
end Go.Proofs.YtpiajdahmcelnaaGreat
namespace Go.Proofs.YtpiajdahmcelnaaGreat
open Go.RowKit
namespace Hl
theorem Sl.row {w : World} {v : Value} {p : List Pt} (h : Sl w v p) (hn : p ≠ []) : ∃ b o c, v = .slice (some ⟨b, o, none⟩) p.length c ∧ Row w b o p := by
  rcases h with ⟨h, _⟩ | h
  · exact absurd h hn
  · exact h
theorem Sl.of {w : World} {b o c : Nat} {p : List Pt} (h : Row w b o p) : Sl w (.slice (some ⟨b, o, none⟩) p.length c) p := Or.inr ⟨b, o, c, rfl, h⟩
end Hl
end Go.Proofs.YtpiajdahmcelnaaGreat
namespace Go.Proofs.YtpiajdahmcelnaaGreat
namespace Hl
/-- Different corners in a list: no more than the list has. -/
theorem count_le (P : Nat → Pt) : ∀ (n : Nat) (L : List Pt), (∀ i j, i < n → j < n → i ≠ j → P i ≠ P j) → (∀ i, i < n → P i ∈ L) → n ≤ L.length
  | 0, _, _, _ => Nat.zero_le _
  | n + 1, L, hd, hm => by
    have h := count_le P n (L.erase (P n)) (fun i j hi hj => hd i j (by omega) (by omega)) (fun i hi => (List.mem_erase_of_ne (hd i n (by omega) (by omega) (by omega))).2 (hm i (by omega)))
    rw [List.length_erase_of_mem (hm n (by omega))] at h
    have : 0 < L.length := List.length_pos_of_mem (hm n (by omega))
    omega
theorem pg_distinct {q : List Pt} (h : Pg q) {i j : Nat} (hi : i < q.length) (hj : j < q.length) (hne : i ≠ j) : at' q i ≠ at' q j := by
  by_cases h3 : 3 ≤ q.length
  · exact corners_ne (h.2.2 (by omega)) h3 hi hj hne
  · have h2 := pg_ne h (by omega)
    by_cases e : i = 0
    · obtain rfl : j = 1 := by omega
      subst e; exact h2
    · obtain rfl : i = 1 := by omega
      obtain rfl : j = 0 := by omega
      exact fun e => h2 e.symm

/-- Bounds that belong together: each is met by a point that keeps the others. -/
structure Bd (a b c d s t i j : Int) : Prop where
  wa : ∃ x y : Int, x = a ∧ (a ≤ x ∧ x ≤ b) ∧ (c ≤ y ∧ y ≤ d) ∧ (s ≤ x + y ∧ x + y ≤ t) ∧ (i ≤ x - y ∧ x - y ≤ j)
  wb : ∃ x y : Int, x = b ∧ (a ≤ x ∧ x ≤ b) ∧ (c ≤ y ∧ y ≤ d) ∧ (s ≤ x + y ∧ x + y ≤ t) ∧ (i ≤ x - y ∧ x - y ≤ j)
  wc : ∃ x y : Int, y = c ∧ (a ≤ x ∧ x ≤ b) ∧ (c ≤ y ∧ y ≤ d) ∧ (s ≤ x + y ∧ x + y ≤ t) ∧ (i ≤ x - y ∧ x - y ≤ j)
  wd : ∃ x y : Int, y = d ∧ (a ≤ x ∧ x ≤ b) ∧ (c ≤ y ∧ y ≤ d) ∧ (s ≤ x + y ∧ x + y ≤ t) ∧ (i ≤ x - y ∧ x - y ≤ j)
  ws : ∃ x y : Int, x + y = s ∧ (a ≤ x ∧ x ≤ b) ∧ (c ≤ y ∧ y ≤ d) ∧ (s ≤ x + y ∧ x + y ≤ t) ∧ (i ≤ x - y ∧ x - y ≤ j)
  wt : ∃ x y : Int, x + y = t ∧ (a ≤ x ∧ x ≤ b) ∧ (c ≤ y ∧ y ≤ d) ∧ (s ≤ x + y ∧ x + y ≤ t) ∧ (i ≤ x - y ∧ x - y ≤ j)
  wi : ∃ x y : Int, x - y = i ∧ (a ≤ x ∧ x ≤ b) ∧ (c ≤ y ∧ y ≤ d) ∧ (s ≤ x + y ∧ x + y ≤ t) ∧ (i ≤ x - y ∧ x - y ≤ j)
  wj : ∃ x y : Int, x - y = j ∧ (a ≤ x ∧ x ≤ b) ∧ (c ≤ y ∧ y ≤ d) ∧ (s ≤ x + y ∧ x + y ≤ t) ∧ (i ≤ x - y ∧ x - y ≤ j)

end Hl
end Go.Proofs.YtpiajdahmcelnaaGreat
namespace Go.Proofs.YtpiajdahmcelnaaGreat
namespace Hl
theorem hull_plcs {l q : List Pt} (h : IsHull l q) (hp : Plcs l) : Plcs q := fun i hi => by
  obtain ⟨j, hj, e⟩ := mem_at (h.2.1 _ (at_mem hi))
  rw [← e]; exact hp j hj
end Hl
end Go.Proofs.YtpiajdahmcelnaaGreat
namespace Go.Proofs.YtpiajdahmcelnaaGreat
namespace Hl
/-! ### Sums over some of the sides -/
/-! ### A side that sees the place on its left is a side of the greater hull -/
def dt (a b y : Pt) : Int := (b.1 - a.1) * (y.1 - a.1) + (b.2 - a.2) * (y.2 - a.2)
theorem dt_af (a b y : Pt) : dt a b y = af (b.1 - a.1) (b.2 - a.2) (-((b.1 - a.1) * a.1 + (b.2 - a.2) * a.2)) y := by unfold dt af; grind
theorem dt_self (a b : Pt) : dt a b a = 0 := by unfold dt; grind
theorem dt_cr (v a b y : Pt) : cr v a b * dt a b y = cr v a y * dt a b b + cr a b y * ((b.1 - a.1) * (v.1 - a.1) + (b.2 - a.2) * (v.2 - a.2)) := by unfold cr dt; grind
theorem dt_cr' (a b n y : Pt) : cr a b n * dt b a y = cr b n y * dt b a a + cr a b y * ((a.1 - b.1) * (n.1 - b.1) + (a.2 - b.2) * (n.2 - b.2)) := by unfold cr dt; grind
theorem dt_pos {a b : Pt} (h : a ≠ b) : 0 < dt a b b := by
  have e : dt a b b = (b.1 - a.1) * (b.1 - a.1) + (b.2 - a.2) * (b.2 - a.2) := rfl
  rw [e]
  have s1 : 0 ≤ (b.1 - a.1) * (b.1 - a.1) := by
    rcases Int.le_total 0 (b.1 - a.1) with k | k
    · exact Int.mul_nonneg k k
    · have := Int.mul_nonneg (show 0 ≤ -(b.1 - a.1) by omega) (show 0 ≤ -(b.1 - a.1) by omega)
      rwa [Int.neg_mul_neg] at this
  have s2 : 0 ≤ (b.2 - a.2) * (b.2 - a.2) := by
    rcases Int.le_total 0 (b.2 - a.2) with k | k
    · exact Int.mul_nonneg k k
    · have := Int.mul_nonneg (show 0 ≤ -(b.2 - a.2) by omega) (show 0 ≤ -(b.2 - a.2) by omega)
      rwa [Int.neg_mul_neg] at this
  by_cases e1 : b.1 - a.1 = 0
  · have e2 : b.2 - a.2 ≠ 0 := fun e2 => h (Prod.ext (by omega) (by omega))
    rcases Int.lt_or_gt_of_ne e2 with k | k
    · have := Int.mul_pos (show 0 < -(b.2 - a.2) by omega) (show 0 < -(b.2 - a.2) by omega)
      rw [Int.neg_mul_neg] at this
      omega
    · have := Int.mul_pos (show 0 < b.2 - a.2 by omega) (show 0 < b.2 - a.2 by omega)
      omega
  · rcases Int.lt_or_gt_of_ne e1 with k | k
    · have := Int.mul_pos (show 0 < -(b.1 - a.1) by omega) (show 0 < -(b.1 - a.1) by omega)
      rw [Int.neg_mul_neg] at this
      omega
    · have := Int.mul_pos (show 0 < b.1 - a.1 by omega) (show 0 < b.1 - a.1 by omega)
      omega
section
variable {l p q : List Pt} {x : Pt}
end
end Hl
end Go.Proofs.YtpiajdahmcelnaaGreat
namespace Go.Proofs.YtpiajdahmcelnaaGreat
namespace Hl
/-- A point on the line of a side, on the left of the sides before and behind it, lies between its ends. -/
theorem on_side {v a b n y : Pt} (h1 : 0 < cr v a b) (h2 : 0 < cr a b n) (e : cr a b y = 0) (g1 : 0 ≤ cr v a y) (g2 : 0 ≤ cr b n y) : 0 ≤ dt a b y ∧ 0 ≤ dt b a y := by
  have hne : a ≠ b := fun ee => by rw [ee] at h2; rw [cr_same] at h2; omega
  have d1 := dt_pos hne
  have d2 := dt_pos hne.symm
  have e1 := dt_cr v a b y
  have e2 := dt_cr' a b n y
  rw [e, Int.zero_mul, Int.add_zero] at e1 e2
  refine ⟨nonneg_of h1 ?_, nonneg_of h2 ?_⟩
  · rw [e1]; exact Int.mul_nonneg g1 (Int.le_of_lt d1)
  · rw [e2]; exact Int.mul_nonneg g2 (Int.le_of_lt d2)
/-- What holds of a point between two others, on the left of a line that has both on its left. -/
theorem mid_zero {u v a b y : Pt} (e : cr a b y = 0) (hy : cr u v y = 0) (ga : 0 ≤ cr u v a) (gb : 0 ≤ cr u v b) (h1 : 0 < dt a b y) (h2 : 0 < dt b a y) : cr u v a = 0 ∧ cr u v b = 0 := by
  have hne : a ≠ b := fun ee => by
    rw [ee] at h1
    have : dt b b y = 0 := by unfold dt; grind
    omega
  have d := dt_pos hne
  have k : dt b a y * cr u v a + dt a b y * cr u v b = dt a b b * cr u v y - cr a b y * ((v.1 - u.1) * (b.1 - a.1) + (v.2 - u.2) * (b.2 - a.2)) := by unfold dt cr; grind
  rw [e, hy, Int.mul_zero, Int.zero_mul, Int.sub_zero] at k
  have m1 := Int.mul_nonneg (Int.le_of_lt h2) ga
  have m2 := Int.mul_nonneg (Int.le_of_lt h1) gb
  refine ⟨?_, ?_⟩
  · by_cases z : cr u v a = 0
    · exact z
    · have := Int.mul_pos h2 (show 0 < cr u v a by omega)
      omega
  · by_cases z : cr u v b = 0
    · exact z
    · have := Int.mul_pos h1 (show 0 < cr u v b by omega)
      omega
theorem dt_zero {a b y : Pt} (h : a ≠ b) (e : cr a b y = 0) (d : dt a b y = 0) : y = a := by
  have p := dt_pos h
  have k1 : dt a b b * (y.1 - a.1) = dt a b y * (b.1 - a.1) - cr a b y * (b.2 - a.2) := by unfold dt cr; grind
  have k2 : dt a b b * (y.2 - a.2) = dt a b y * (b.2 - a.2) + cr a b y * (b.1 - a.1) := by unfold dt cr; grind
  rw [d, e, Int.zero_mul, Int.zero_mul] at k1 k2
  have z1 : y.1 - a.1 = 0 := by
    rcases Int.mul_eq_zero.1 (show dt a b b * (y.1 - a.1) = 0 by omega) with h | h
    · omega
    · exact h
  have z2 : y.2 - a.2 = 0 := by
    rcases Int.mul_eq_zero.1 (show dt a b b * (y.2 - a.2) = 0 by omega) with h | h
    · omega
    · exact h
  exact Prod.ext (by omega) (by omega)
/-- Different corners, all points of l on the left of all sides, left turns only: a convex polygon. -/
theorem cvx_of_sides {n : Nat} {P : Nat → Pt} (hn : 3 ≤ n) (hd : ∀ i j, i < n → j < n → i ≠ j → P i ≠ P j) (hl : ∀ i k, i < n → k < n → 0 ≤ cr (P i) (P ((i + 1) % n)) (P k)) (ht : ∀ i, i < n → 0 < cr (P (pv n i)) (P i) (P ((i + 1) % n))) : Cvx n P := by
  intro i k hi hk hki hki'
  have h0 := hl i k hi hk
  by_cases z : cr (P i) (P ((i + 1) % n)) (P k) = 0
  · exfalso
    have hi' : (i + 1) % n < n := Nat.mod_lt _ (by omega)
    have t1 := ht i hi
    have t2 := ht _ hi'
    have epv : pv n ((i + 1) % n) = i := by
      unfold pv
      by_cases e : i + 1 = n
      · rw [e, Nat.mod_self, Nat.zero_add, Nat.mod_eq_of_lt (by omega)]; omega
      · have h1 : i + 1 < n := by omega
        rw [Nat.mod_eq_of_lt h1]
        have h2 : i + 1 + (n - 1) = n + i := by omega
        rw [h2, Nat.add_mod_left, Nat.mod_eq_of_lt hi]
    rw [epv] at t2
    have hv : pv n i < n := Nat.mod_lt _ (by omega)
    have g1 : 0 ≤ cr (P (pv n i)) (P i) (P k) := by
      have := hl (pv n i) k hv hk
      rwa [pv_next hi] at this
    have g2 := hl ((i + 1) % n) k hi' hk
    obtain ⟨d1, d2⟩ := on_side t1 t2 z g1 g2
    have hne := hd i _ hi hi' (fun e => nx_ne (by omega) hi e.symm)
    have z' : cr (P ((i + 1) % n)) (P i) (P k) = 0 := by rw [cr_swap2]; omega
    have p1 : 0 < dt (P i) (P ((i + 1) % n)) (P k) := by
      by_cases e : dt (P i) (P ((i + 1) % n)) (P k) = 0
      · exact absurd (dt_zero hne z e) (hd k i hk hi hki)
      · omega
    have p2 : 0 < dt (P ((i + 1) % n)) (P i) (P k) := by
      by_cases e : dt (P ((i + 1) % n)) (P i) (P k) = 0
      · exact absurd (dt_zero hne.symm z' e) (hd k _ hk hi' hki')
      · omega
    have tk := ht k hk
    have hkv : pv n k < n := Nat.mod_lt _ (by omega)
    have a1 : 0 ≤ cr (P (pv n k)) (P k) (P i) := by have := hl (pv n k) i hkv hi; rwa [pv_next hk] at this
    have a2 : 0 ≤ cr (P (pv n k)) (P k) (P ((i + 1) % n)) := by have := hl (pv n k) _ hkv hi'; rwa [pv_next hk] at this
    have m1 := mid_zero z (cr_self' _ _) a1 a2 p1 p2
    have m2 := mid_zero z (cr_self _ _) (hl k i hk hi) (hl k _ hk hi') p1 p2
    -- both sides at k lie on one line
    have hk' : (k + 1) % n < n := Nat.mod_lt _ (by omega)
    have nk := hd k i hk hi hki
    have q1 : cr (P k) (P i) (P (pv n k)) = 0 := by rw [← cr_rot]; exact m1.1
    have q2 : cr (P k) (P i) (P ((k + 1) % n)) = 0 := by rw [cr_swap]; rw [m2.1]; rfl
    have q3 : cr (P k) (P i) (P k) = 0 := cr_self _ _
    have := on_line nk q1 q3 q2
    omega
  · omega
theorem hull_of_sides {l p : List Pt} (hn : 3 ≤ p.length) (hm : ∀ x, x ∈ p → x ∈ l) (hd : ∀ i j, i < p.length → j < p.length → i ≠ j → at' p i ≠ at' p j) (hl : ∀ i, i < p.length → ∀ y, y ∈ l → 0 ≤ cr (at' p i) (at' p ((i + 1) % p.length)) y)
    (ht : ∀ i, i < p.length → 0 < cr (at' p (pv p.length i)) (at' p i) (at' p ((i + 1) % p.length))) (h0 : ∀ i, 1 ≤ i → i < p.length → ls (at' p 0) (at' p i)) : IsHull l p :=
  ⟨⟨by omega, h0, fun _ => cvx_of_sides hn hd (fun i k hi hk => hl i hi _ (hm _ (at_mem hk))) ht⟩, hm, fun y hy => (hs3 hn).2 (fun i hi => hl i hi y hy)⟩
end Hl
end Go.Proofs.YtpiajdahmcelnaaGreat
namespace Go.Proofs.YtpiajdahmcelnaaGreat
namespace Hl
/-- A chain over the points L: it goes on by the functional, turns left, has all of L on its left; it begins at the least one of L and ends at the greatest one. -/
structure Chain (u v k : Int) (L : Pt → Prop) (S : List Pt) : Prop where
  some' : 1 ≤ S.length
  inc : ∀ i, i + 1 < S.length → af u v k (at' S i) < af u v k (at' S (i + 1))
  turns : ∀ i, i + 2 < S.length → 0 < cr (at' S i) (at' S (i + 1)) (at' S (i + 2))
  left : ∀ i, i + 1 < S.length → ∀ y, L y → 0 ≤ cr (at' S i) (at' S (i + 1)) y
  low : ∀ y, L y → af u v k (at' S 0) ≤ af u v k y
  mem : ∀ i, i < S.length → L (at' S i)
/-- The same with a further point x that is to come: behind the end of the chain nothing is on the right of the side to x. -/
structure Pend (u v k : Int) (L : Pt → Prop) (S : List Pt) (x : Pt) : Prop extends Chain u v k L S where
  up : ∀ y, L y → af u v k y < af u v k x
  fine : ∀ y, L y → af u v k (at' S (S.length - 1)) ≤ af u v k y → 0 ≤ cr (at' S (S.length - 1)) x y
theorem at_append {p q : List Pt} {i : Nat} (h : i < p.length) : at' (p ++ q) i = at' p i := by
  unfold at'
  simp [List.getD, List.getElem?_append_left h]
theorem at_last (p : List Pt) (x : Pt) : at' (p ++ [x]) p.length = x := by
  unfold at'
  simp [List.getD]
theorem at_take {p : List Pt} {n i : Nat} (h : i < n) (_hn : n ≤ p.length) : at' (p.take n) i = at' p i := by
  unfold at'
  simp [List.getD, h]
theorem Chain.one {u v k : Int} {x : Pt} : Chain u v k (fun y => y = x) [x] :=
  ⟨by simp, fun i h => by simp at h, fun i h => by simp at h, fun i h => by simp at h, fun y h => by rw [h]; exact Int.le_refl _, fun i h => by
    have e : i = 0 := by simpa using h
    subst e; rfl⟩
theorem inc_all {u v k : Int} {S : List Pt} (h : ∀ i, i + 1 < S.length → af u v k (at' S i) < af u v k (at' S (i + 1))) : ∀ i j, i < j → j < S.length → af u v k (at' S i) < af u v k (at' S j) := by
  intro i j hij
  induction j with
  | zero => omega
  | succ j ih =>
    intro hj
    have h1 := h j hj
    by_cases e : i = j
    · rw [e]; exact h1
    · have := ih (by omega) (by omega)
      omega
/-- A point of L behind which nothing lies is where the chain ends: at first nothing is popped. -/
theorem Chain.pend {u v k : Int} {L : Pt → Prop} {S : List Pt} (h : Chain u v k L S) {x : Pt} (hx : ∀ y, L y → af u v k y < af u v k x) (hi : ∀ y, L y → af u v k (at' S (S.length - 1)) ≤ af u v k y → y = at' S (S.length - 1)) : Pend u v k L S x :=
  ⟨h, hx, fun y hy hle => by rw [hi y hy hle, cr_self]; exact Int.le_refl _⟩
/-- The end is popped: the side to it, and to x, does not turn left. -/
theorem Pend.pop {u v k : Int} {L : Pt → Prop} {S : List Pt} {x : Pt} (h : Pend u v k L S x) (h2 : 2 ≤ S.length) (hc : cr (at' S (S.length - 2)) (at' S (S.length - 1)) x ≤ 0) : Pend u v k L (S.take (S.length - 1)) x := by
  have hl : (S.take (S.length - 1)).length = S.length - 1 := by simp
  have hb : S.length - 2 + 1 = S.length - 1 := by omega
  refine ⟨⟨by omega, fun i hi => ?_, fun i hi => ?_, fun i hi y hy => ?_, fun y hy => ?_, fun i hi => ?_⟩, h.up, fun y hy hle => ?_⟩
  · rw [hl] at hi
    rw [at_take (by omega) (by omega), at_take (by omega) (by omega)]
    exact h.inc i (by omega)
  · rw [hl] at hi
    rw [at_take (by omega) (by omega), at_take (by omega) (by omega), at_take (by omega) (by omega)]
    exact h.turns i (by omega)
  · rw [hl] at hi
    rw [at_take (by omega) (by omega), at_take (by omega) (by omega)]
    exact h.left i (by omega) y hy
  · rw [at_take (by omega) (by omega)]
    exact h.low y hy
  · rw [hl] at hi
    rw [at_take (by omega) (by omega)]
    exact h.mem i (by omega)
  · rw [hl] at hle ⊢
    have e : S.length - 1 - 1 = S.length - 2 := by omega
    rw [e, at_take (by omega) (by omega)] at hle ⊢
    have i1 := h.inc (S.length - 2) (by omega)
    have l1 := h.left (S.length - 2) (by omega) y hy
    rw [hb] at i1 l1
    have u1 := h.up _ (h.mem (S.length - 1) (by omega))
    exact pop_left i1 (by omega) hle hc l1
theorem back_left {u v k : Int} {z a x y : Pt} (hza : af u v k z < af u v k a) (hax : af u v k a < af u v k x) (hya : af u v k y ≤ af u v k a) (c1 : 0 < cr z a x) (c2 : 0 ≤ cr z a y) : 0 ≤ cr a x y := by
  have e := tri u v k a z x y
  rw [cr_swap2 z a y, cr_swap2 z a x] at e
  have m1 := Int.mul_nonneg c2 (show 0 ≤ af u v k x - af u v k a by omega)
  have m2 := Int.mul_nonneg (Int.le_of_lt c1) (show 0 ≤ af u v k a - af u v k y by omega)
  refine nonneg_of (show 0 < af u v k a - af u v k z by omega) ?_
  have e2 : (af u v k a - af u v k z) * cr a x y = cr z a y * (af u v k x - af u v k a) + cr z a x * (af u v k a - af u v k y) := by grind
  rw [e2]
  omega
/-- Nothing is to be popped any more: x is the chain's new end. -/
theorem Pend.push {u v k : Int} {L : Pt → Prop} {S : List Pt} {x : Pt} (h : Pend u v k L S x) (hc : 2 ≤ S.length → 0 < cr (at' S (S.length - 2)) (at' S (S.length - 1)) x) : Chain u v k (fun y => L y ∨ y = x) (S ++ [x]) := by
  have hs := h.some'
  have hl : (S ++ [x]).length = S.length + 1 := by simp
  have hinc : ∀ i, i + 1 < (S ++ [x]).length → af u v k (at' (S ++ [x]) i) < af u v k (at' (S ++ [x]) (i + 1)) := by
    intro i hi
    rw [hl] at hi
    rw [at_append (by omega)]
    by_cases e : i + 1 = S.length
    · rw [e, at_last]
      exact h.up _ (h.mem i (by omega))
    · rw [at_append (by omega)]
      exact h.inc i (by omega)
  have hturn : ∀ i, i + 2 < (S ++ [x]).length → 0 < cr (at' (S ++ [x]) i) (at' (S ++ [x]) (i + 1)) (at' (S ++ [x]) (i + 2)) := by
    intro i hi
    rw [hl] at hi
    rw [at_append (by omega), at_append (by omega)]
    by_cases e : i + 2 = S.length
    · rw [e, at_last]
      have e1 : S.length - 2 = i := by omega
      have e2 : S.length - 1 = i + 1 := by omega
      have := hc (by omega)
      rwa [e1, e2] at this
    · rw [at_append (by omega)]
      exact h.turns i (by omega)
  have hall := chain_all (u := u) (v := v) (k := k) (P := at' (S ++ [x])) (S ++ [x]).length hinc hturn
  refine ⟨by omega, hinc, hturn, fun i hi y hy => ?_, fun y hy => ?_, fun i hi => ?_⟩
  · rw [hl] at hi
    rcases hy with hy | rfl
    · rw [at_append (by omega)]
      by_cases e : i + 1 = S.length
      · rw [e, at_last]
        have ei : S.length - 1 = i := by omega
        by_cases hle : af u v k (at' S i) ≤ af u v k y
        · have := h.fine y hy (by rw [ei]; exact hle)
          rwa [ei] at this
        · have h1 : 1 ≤ i := by
            by_cases e0 : i = 0
            · subst e0; exact absurd (h.low y hy) hle
            · omega
          have ez : i - 1 + 1 = i := by omega
          have z1 := h.inc (i - 1) (by omega)
          have z2 := h.left (i - 1) (by omega) y hy
          have z3 := hc (by omega)
          have e2 : S.length - 2 = i - 1 := by omega
          rw [ez] at z1 z2
          rw [ei, e2] at z3
          exact back_left z1 (h.up _ (h.mem i (by omega))) (by omega) z3 z2
      · rw [at_append (by omega)]
        exact h.left i (by omega) y hy
    · by_cases e : i + 1 = S.length
      · rw [e, at_last, cr_self']; exact Int.le_refl _
      · have := hall i (i + 1) S.length (by omega) (by omega) (by omega)
        rw [at_last] at this
        omega
  · rw [at_append (by omega)]
    rcases hy with hy | rfl
    · exact h.low y hy
    · exact Int.le_of_lt (h.up _ (h.mem 0 (by omega)))
  · rw [hl] at hi
    by_cases e : i = S.length
    · rw [e, at_last]; exact Or.inr rfl
    · rw [at_append (by omega)]; exact Or.inl (h.mem i (by omega))
end Hl
end Go.Proofs.YtpiajdahmcelnaaGreat
