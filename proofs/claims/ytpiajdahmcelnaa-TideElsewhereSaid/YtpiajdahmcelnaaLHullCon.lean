/-
  What package hull owes, a contract each, and what follows of it at the examples.
  The examples of chapter 3: what they are as points.
  The examples at the head of the statements about layer 3.
  Plain geometry: what the least values say of a polygon; the eight-sided hull.
  Plain geometry: corners of a hull are its own.
  Plain geometry: with a further place the area of a hull is greater.
-/
import Derived.IntWalk
import Derived.Test.YtpiajdahmcelnaaLHullSl
namespace Go.Proofs.Ytpiajdahmcelnaa
open Go.RowKit
namespace Hl
/-- The bounds of points: the least and the greatest of u X + v Y. -/
def IsMin (p : List Pt) (u v m : Int) : Prop := (∃ x, x ∈ p ∧ u * x.1 + v * x.2 = m) ∧ ∀ x, x ∈ p → m ≤ u * x.1 + v * x.2
/-- The corners of the eight-sided hull, out of the bounds: X from a to b, Y from c to d, X + Y from s to t, X - Y from i to j. -/
def octL (a b c d s t i j : Int) : List Pt := [(b, b - j), (b, t - b), (t - d, d), (d + i, d), (a, a - i), (a, s - a), (s - c, c), (c + j, c)]
def IsOct (p q : List Pt) : Prop := ∃ a b c d s t i j : Int, IsMin p 1 0 a ∧ IsMin p (-1) 0 (-b) ∧ IsMin p 0 1 c ∧ IsMin p 0 (-1) (-d) ∧ IsMin p 1 1 s ∧ IsMin p (-1) (-1) (-t) ∧ IsMin p 1 (-1) i ∧ IsMin p (-1) 1 (-j) ∧ IsHull (octL a b c d s t i j) q
def IsBox (p : List Pt) (lo hi : Pt) : Prop := IsMin p 1 0 lo.1 ∧ IsMin p (-1) 0 (-hi.1) ∧ IsMin p 0 1 lo.2 ∧ IsMin p 0 (-1) (-hi.2)

def Empty (k : Int) (w : World) (e : Ending) (w' : World) : Prop := ∃ v, e = .returned (.tuple #[v, .int .i64 k]) ∧ Sl w' v [] ∧ Grew w w'
def HasSays (p : List Pt) (x : Pt) (w : World) (e : Ending) (w' : World) : Prop := ∃ r : Bool, e = .returned (.tuple #[.bool r, .int .i64 0]) ∧ (r = true ↔ Hs p x) ∧ Grew w w'
def HullSays (l : List Pt) (w : World) (e : Ending) (w' : World) : Prop := ∃ q, IsHull l q ∧ ((q.length ≤ 64 ∧ ∃ v, e = .returned (.tuple #[v, .int .i64 0]) ∧ Sl w' v q ∧ Grew w w') ∨ (64 < q.length ∧ Empty 2 w e w'))
def EightSays (p : List Pt) (w : World) (e : Ending) (w' : World) : Prop := ∃ q v, IsOct p q ∧ e = .returned (.tuple #[v, .int .i64 0]) ∧ Sl w' v q ∧ Grew w w'
def BoxSays (p : List Pt) (w : World) (e : Ending) (w' : World) : Prop := ∃ lo hi : Pt, IsBox p lo hi ∧ e = .returned (.tuple #[.agg #[.int .i64 lo.1, .int .i64 lo.2], .agg #[.int .i64 hi.1, .int .i64 hi.2], .int .i64 0]) ∧ Grew w w'

structure Code : Prop where
  valid : ∀ (p : List Pt) (v : Value) (w : World), Sl w v p → p.length ≤ 9223372036854775807 → Calls Try.prog 44 #[v] w (Tells (Vl p) w)
  has_ok : ∀ (p : List Pt) (x : Pt) (v : Value) (w : World), Sl w v p → Vl p → Plc x → Calls Try.prog 22 #[v, .agg #[.int .i64 x.1, .int .i64 x.2]] w (HasSays p x w)
  has_bad : ∀ (p : List Pt) (x : Pt) (v : Value) (w : World), Sl w v p → p.length ≤ 9223372036854775807 → ¬ (Vl p ∧ Plc x) → Calls Try.prog 22 #[v, .agg #[.int .i64 x.1, .int .i64 x.2]] w fun e w' => e = .returned (.tuple #[.bool false, .int .i64 1]) ∧ Grew w w'
  hull_big : ∀ (l : List Pt) (v : Value) (w : World), Sl w v l → l.length ≤ 9223372036854775807 → 4000 < l.length → Calls Try.prog 43 #[v] w (Empty 2 w)
  hull_bad : ∀ (l : List Pt) (v : Value) (w : World), Sl w v l → l.length ≤ 4000 → (l = [] ∨ ¬ Plcs l) → Calls Try.prog 43 #[v] w (Empty 1 w)
  hull_ok : ∀ (l : List Pt) (v : Value) (w : World), Sl w v l → l.length ≤ 4000 → l ≠ [] → Plcs l → Calls Try.prog 43 #[v] w (HullSays l w)
  box_ok : ∀ (p : List Pt) (v : Value) (w : World), Sl w v p → Vl p → Calls Try.prog 23 #[v] w (BoxSays p w)
  box_bad : ∀ (p : List Pt) (v : Value) (w : World), Sl w v p → p.length ≤ 9223372036854775807 → ¬ Vl p → Calls Try.prog 23 #[v] w fun e w' => e = .returned (.tuple #[.agg #[.int .i64 ((0, 0) : Pt).1, .int .i64 ((0, 0) : Pt).2], .agg #[.int .i64 ((0, 0) : Pt).1, .int .i64 ((0, 0) : Pt).2], .int .i64 1]) ∧ Grew w w'
/-! ### Points in a new block -/
def cellsOf (p : List Pt) : List Value := p.flatMap fun x => [.int .i64 x.1, .int .i64 x.2]
theorem cellsOf_at : ∀ (p : List Pt) (i : Nat), i < p.length → (cellsOf p)[i * 2]? = some (.int .i64 (at' p i).1) ∧ (cellsOf p)[i * 2 + 1]? = some (.int .i64 (at' p i).2)
  | [], i, h => absurd h (by simp)
  | x :: p, 0, _ => ⟨rfl, rfl⟩
  | x :: p, i + 1, h => by
    have ih := cellsOf_at p i (by simpa using h)
    have e1 : (i + 1) * 2 = i * 2 + 1 + 1 := by omega
    have e2 : at' (x :: p) (i + 1) = at' p i := rfl
    rw [e1, e2]
    exact ih
theorem row_new (p : List Pt) (cs : Array Value) (h : (cellsOf p).toArray = cs) (w : World) (t : TypeId) : Row (w.alloc (.cells cs t)) w.heap.size 0 p := by
  refine ⟨by simp, fun i hi => ?_⟩
  obtain ⟨a, b⟩ := cellsOf_at p i hi
  subst h
  have key : ∀ (j : Nat) (v : Value), (cellsOf p)[j]? = some v → (w.alloc (.cells (cellsOf p).toArray t)).cell? ⟨w.heap.size, 0 + j, none⟩ = some v := by
    intro j v hj
    simp [go_sem, hj]
  exact ⟨key _ _ a, by have := key _ _ b; rwa [← Nat.add_assoc] at this⟩
end Hl
end Go.Proofs.Ytpiajdahmcelnaa
namespace Go.Proofs.Ytpiajdahmcelnaa
open Go.RowKit
namespace Hl
def o4 : List Pt := [(0, 0), (4, 0), (5, 1), (1, 1)]
instance (a b : Pt) : Decidable (ls a b) := by unfold ls; infer_instance
theorem vl_of {p : List Pt} (h : Pg p) (hl : p.length ≤ 64) (hp : Plcs p) : Vl p := ⟨⟨h.1, hl⟩, hp, h.2.1, h.2.2⟩
theorem plcs_of {p : List Pt} (h : ∀ x, x ∈ p → Plc x) : Plcs p := fun _ hi => h _ (at_mem hi)
theorem IsMin.one {p : List Pt} {u v m m' : Int} (h : IsMin p u v m) (k : IsMin p u v m') : m = m' := by
  obtain ⟨⟨x, hx, e⟩, h2⟩ := h
  obtain ⟨⟨y, hy, e'⟩, k2⟩ := k
  have := h2 y hy
  have := k2 x hx
  omega
end Hl
end Go.Proofs.Ytpiajdahmcelnaa
namespace Go.Proofs.Ytpiajdahmcelnaa
open Go.RowKit
namespace Hl
theorem Sl.row {w : World} {v : Value} {p : List Pt} (h : Sl w v p) (hn : p ≠ []) : ∃ b o c, v = .slice (some ⟨b, o, none⟩) p.length c ∧ Row w b o p := by
  rcases h with ⟨h, _⟩ | h
  · exact absurd h hn
  · exact h
theorem Sl.of {w : World} {b o c : Nat} {p : List Pt} (h : Row w b o p) : Sl w (.slice (some ⟨b, o, none⟩) p.length c) p := Or.inr ⟨b, o, c, rfl, h⟩
end Hl
end Go.Proofs.Ytpiajdahmcelnaa
namespace Go.Proofs.Ytpiajdahmcelnaa
namespace Hl
/-- Different corners in a list: no more than the list has. -/
theorem count_le (P : Nat → Pt) : ∀ (n : Nat) (L : List Pt), (∀ i j, i < n → j < n → i ≠ j → P i ≠ P j) → (∀ i, i < n → P i ∈ L) → n ≤ L.length
  | 0, _, _, _ => Nat.zero_le _
  | n + 1, L, hd, hm => by
    have h := count_le P n (L.erase (P n)) (fun i j hi hj => hd i j (by omega) (by omega)) (fun i hi => (List.mem_erase_of_ne (hd i n (by omega) (by omega) (by omega))).2 (hm i (by omega)))
    rw [List.length_erase_of_mem (hm n (by omega))] at h
    have : 0 < L.length := List.length_pos_of_mem (hm n (by omega))
    omega
theorem pg_distinct {q : List Pt} (h : Pg q) {i j : Nat} (hi : i < q.length) (hj : j < q.length) (hne : i ≠ j) : at' q i ≠ at' q j := by
  by_cases h3 : 3 ≤ q.length
  · exact corners_ne (h.2.2 (by omega)) h3 hi hj hne
  · have h2 := pg_ne h (by omega)
    by_cases e : i = 0
    · obtain rfl : j = 1 := by omega
      subst e; exact h2
    · obtain rfl : i = 1 := by omega
      obtain rfl : j = 0 := by omega
      exact fun e => h2 e.symm

/-- Bounds that belong together: each is met by a point that keeps the others. -/
structure Bd (a b c d s t i j : Int) : Prop where
  wa : ∃ x y : Int, x = a ∧ (a ≤ x ∧ x ≤ b) ∧ (c ≤ y ∧ y ≤ d) ∧ (s ≤ x + y ∧ x + y ≤ t) ∧ (i ≤ x - y ∧ x - y ≤ j)
  wb : ∃ x y : Int, x = b ∧ (a ≤ x ∧ x ≤ b) ∧ (c ≤ y ∧ y ≤ d) ∧ (s ≤ x + y ∧ x + y ≤ t) ∧ (i ≤ x - y ∧ x - y ≤ j)
  wc : ∃ x y : Int, y = c ∧ (a ≤ x ∧ x ≤ b) ∧ (c ≤ y ∧ y ≤ d) ∧ (s ≤ x + y ∧ x + y ≤ t) ∧ (i ≤ x - y ∧ x - y ≤ j)
  wd : ∃ x y : Int, y = d ∧ (a ≤ x ∧ x ≤ b) ∧ (c ≤ y ∧ y ≤ d) ∧ (s ≤ x + y ∧ x + y ≤ t) ∧ (i ≤ x - y ∧ x - y ≤ j)
  ws : ∃ x y : Int, x + y = s ∧ (a ≤ x ∧ x ≤ b) ∧ (c ≤ y ∧ y ≤ d) ∧ (s ≤ x + y ∧ x + y ≤ t) ∧ (i ≤ x - y ∧ x - y ≤ j)
  wt : ∃ x y : Int, x + y = t ∧ (a ≤ x ∧ x ≤ b) ∧ (c ≤ y ∧ y ≤ d) ∧ (s ≤ x + y ∧ x + y ≤ t) ∧ (i ≤ x - y ∧ x - y ≤ j)
  wi : ∃ x y : Int, x - y = i ∧ (a ≤ x ∧ x ≤ b) ∧ (c ≤ y ∧ y ≤ d) ∧ (s ≤ x + y ∧ x + y ≤ t) ∧ (i ≤ x - y ∧ x - y ≤ j)
  wj : ∃ x y : Int, x - y = j ∧ (a ≤ x ∧ x ≤ b) ∧ (c ≤ y ∧ y ≤ d) ∧ (s ≤ x + y ∧ x + y ≤ t) ∧ (i ≤ x - y ∧ x - y ≤ j)

theorem box_has {p : List Pt} {lo hi x : Pt} (hp : Pg p) (h : IsBox p lo hi) (hx : Hs p x) : lo.1 ≤ x.1 ∧ x.1 ≤ hi.1 ∧ lo.2 ≤ x.2 ∧ x.2 ≤ hi.2 := by
  obtain ⟨p1, p2, p3, p4⟩ := h
  have g : ∀ u v m, IsMin p u v m → m ≤ u * x.1 + v * x.2 := by
    intro u v m hm
    obtain ⟨n, hn, hle⟩ := hs_least hp hx u v 0
    have := hm.2 _ (at_mem hn)
    unfold af at hle
    omega
  have e1 := g _ _ _ p1
  have e2 := g _ _ _ p2
  have e3 := g _ _ _ p3
  have e4 := g _ _ _ p4
  omega
end Hl
end Go.Proofs.Ytpiajdahmcelnaa
namespace Go.Proofs.Ytpiajdahmcelnaa
namespace Hl
theorem hull_plcs {l q : List Pt} (h : IsHull l q) (hp : Plcs l) : Plcs q := fun i hi => by
  obtain ⟨j, hj, e⟩ := mem_at (h.2.1 _ (at_mem hi))
  rw [← e]; exact hp j hj
end Hl
end Go.Proofs.Ytpiajdahmcelnaa
namespace Go.Proofs.Ytpiajdahmcelnaa
namespace Hl
/-! ### Sums over some of the sides -/
/-! ### A side that sees the place on its left is a side of the greater hull -/
def dt (a b y : Pt) : Int := (b.1 - a.1) * (y.1 - a.1) + (b.2 - a.2) * (y.2 - a.2)
theorem dt_cr (v a b y : Pt) : cr v a b * dt a b y = cr v a y * dt a b b + cr a b y * ((b.1 - a.1) * (v.1 - a.1) + (b.2 - a.2) * (v.2 - a.2)) := by unfold cr dt; grind
theorem dt_cr' (a b n y : Pt) : cr a b n * dt b a y = cr b n y * dt b a a + cr a b y * ((a.1 - b.1) * (n.1 - b.1) + (a.2 - b.2) * (n.2 - b.2)) := by unfold cr dt; grind
theorem dt_pos {a b : Pt} (h : a ≠ b) : 0 < dt a b b := by
  have e : dt a b b = (b.1 - a.1) * (b.1 - a.1) + (b.2 - a.2) * (b.2 - a.2) := rfl
  rw [e]
  have s1 : 0 ≤ (b.1 - a.1) * (b.1 - a.1) := by
    rcases Int.le_total 0 (b.1 - a.1) with k | k
    · exact Int.mul_nonneg k k
    · have := Int.mul_nonneg (show 0 ≤ -(b.1 - a.1) by omega) (show 0 ≤ -(b.1 - a.1) by omega)
      rwa [Int.neg_mul_neg] at this
  have s2 : 0 ≤ (b.2 - a.2) * (b.2 - a.2) := by
    rcases Int.le_total 0 (b.2 - a.2) with k | k
    · exact Int.mul_nonneg k k
    · have := Int.mul_nonneg (show 0 ≤ -(b.2 - a.2) by omega) (show 0 ≤ -(b.2 - a.2) by omega)
      rwa [Int.neg_mul_neg] at this
  by_cases e1 : b.1 - a.1 = 0
  · have e2 : b.2 - a.2 ≠ 0 := fun e2 => h (Prod.ext (by omega) (by omega))
    rcases Int.lt_or_gt_of_ne e2 with k | k
    · have := Int.mul_pos (show 0 < -(b.2 - a.2) by omega) (show 0 < -(b.2 - a.2) by omega)
      rw [Int.neg_mul_neg] at this
      omega
    · have := Int.mul_pos (show 0 < b.2 - a.2 by omega) (show 0 < b.2 - a.2 by omega)
      omega
  · rcases Int.lt_or_gt_of_ne e1 with k | k
    · have := Int.mul_pos (show 0 < -(b.1 - a.1) by omega) (show 0 < -(b.1 - a.1) by omega)
      rw [Int.neg_mul_neg] at this
      omega
    · have := Int.mul_pos (show 0 < b.1 - a.1 by omega) (show 0 < b.1 - a.1 by omega)
      omega
section
variable {l p q : List Pt} {x : Pt}
end
end Hl
end Go.Proofs.Ytpiajdahmcelnaa
