/-
  What package hull owes, a contract each, and what follows of it at the examples.
-/
import Derived.Test.YtmijlfbmmegfbaaHullInB
import Derived.Test.YtmijlfbmmegfbaaHullSame
namespace Go.Proofs.Ytmijlfbmmegfbaa
open Go.RowKit
namespace Hl
/-- The bounds of points: the least and the greatest of u X + v Y. -/
def IsMin (p : List Pt) (u v m : Int) : Prop := (∃ x, x ∈ p ∧ u * x.1 + v * x.2 = m) ∧ ∀ x, x ∈ p → m ≤ u * x.1 + v * x.2
/-- The corners of the eight-sided hull, out of the bounds: X from a to b, Y from c to d, X + Y from s to t, X - Y from i to j. -/
def octL (a b c d s t i j : Int) : List Pt := [(b, b - j), (b, t - b), (t - d, d), (d + i, d), (a, a - i), (a, s - a), (s - c, c), (c + j, c)]
def IsOct (p q : List Pt) : Prop := ∃ a b c d s t i j : Int, IsMin p 1 0 a ∧ IsMin p (-1) 0 (-b) ∧ IsMin p 0 1 c ∧ IsMin p 0 (-1) (-d) ∧ IsMin p 1 1 s ∧ IsMin p (-1) (-1) (-t) ∧ IsMin p 1 (-1) i ∧ IsMin p (-1) 1 (-j) ∧ IsHull (octL a b c d s t i j) q
def IsBox (p : List Pt) (lo hi : Pt) : Prop := IsMin p 1 0 lo.1 ∧ IsMin p (-1) 0 (-hi.1) ∧ IsMin p 0 1 lo.2 ∧ IsMin p 0 (-1) (-hi.2)

def Empty (k : Int) (w : World) (e : Ending) (w' : World) : Prop := ∃ v, e = .returned (.tuple #[v, .int .i64 k]) ∧ Sl w' v [] ∧ Grew w w'
def HasSays (p : List Pt) (x : Pt) (w : World) (e : Ending) (w' : World) : Prop := ∃ r : Bool, e = .returned (.tuple #[.bool r, .int .i64 0]) ∧ (r = true ↔ Hs p x) ∧ Grew w w'
def HullSays (l : List Pt) (w : World) (e : Ending) (w' : World) : Prop := ∃ q, IsHull l q ∧ ((q.length ≤ 64 ∧ ∃ v, e = .returned (.tuple #[v, .int .i64 0]) ∧ Sl w' v q ∧ Grew w w') ∨ (64 < q.length ∧ Empty 2 w e w'))
def EightSays (p : List Pt) (w : World) (e : Ending) (w' : World) : Prop := ∃ q v, IsOct p q ∧ e = .returned (.tuple #[v, .int .i64 0]) ∧ Sl w' v q ∧ Grew w w'
def BoxSays (p : List Pt) (w : World) (e : Ending) (w' : World) : Prop := ∃ lo hi : Pt, IsBox p lo hi ∧ e = .returned (.tuple #[.agg #[.int .i64 lo.1, .int .i64 lo.2], .agg #[.int .i64 hi.1, .int .i64 hi.2], .int .i64 0]) ∧ Grew w w'

structure Code : Prop where
  valid : ∀ (p : List Pt) (v : Value) (w : World), Sl w v p → p.length ≤ 9223372036854775807 → Calls Try.prog 12 #[v] w (Tells (Vl p) w)
  has_ok : ∀ (p : List Pt) (x : Pt) (v : Value) (w : World), Sl w v p → Vl p → Plc x → Calls Try.prog 15 #[v, .agg #[.int .i64 x.1, .int .i64 x.2]] w (HasSays p x w)
  has_bad : ∀ (p : List Pt) (x : Pt) (v : Value) (w : World), Sl w v p → p.length ≤ 9223372036854775807 → ¬ (Vl p ∧ Plc x) → Calls Try.prog 15 #[v, .agg #[.int .i64 x.1, .int .i64 x.2]] w fun e w' => e = .returned (.tuple #[.bool false, .int .i64 1]) ∧ Grew w w'
  hull_big : ∀ (l : List Pt) (v : Value) (w : World), Sl w v l → l.length ≤ 9223372036854775807 → 4000 < l.length → Calls Try.prog 43 #[v] w (Empty 2 w)
  hull_bad : ∀ (l : List Pt) (v : Value) (w : World), Sl w v l → l.length ≤ 4000 → (l = [] ∨ ¬ Plcs l) → Calls Try.prog 43 #[v] w (Empty 1 w)
  hull_ok : ∀ (l : List Pt) (v : Value) (w : World), Sl w v l → l.length ≤ 4000 → l ≠ [] → Plcs l → Calls Try.prog 43 #[v] w (HullSays l w)
  box_ok : ∀ (p : List Pt) (v : Value) (w : World), Sl w v p → Vl p → Calls Try.prog 11 #[v] w (BoxSays p w)
  box_bad : ∀ (p : List Pt) (v : Value) (w : World), Sl w v p → p.length ≤ 9223372036854775807 → ¬ Vl p → Calls Try.prog 11 #[v] w fun e w' => e = .returned (.tuple #[.agg #[.int .i64 ((0, 0) : Pt).1, .int .i64 ((0, 0) : Pt).2], .agg #[.int .i64 ((0, 0) : Pt).1, .int .i64 ((0, 0) : Pt).2], .int .i64 1]) ∧ Grew w w'
  eight_ok : ∀ (p : List Pt) (v : Value) (w : World), Sl w v p → Vl p → Calls Try.prog 67 #[v] w (EightSays p w)
  eight_bad : ∀ (p : List Pt) (v : Value) (w : World), Sl w v p → p.length ≤ 9223372036854775807 → ¬ Vl p → Calls Try.prog 67 #[v] w (Empty 1 w)
/-! ### Points in a new block -/
def cellsOf (p : List Pt) : List Value := p.flatMap fun x => [.int .i64 x.1, .int .i64 x.2]
theorem cellsOf_at : ∀ (p : List Pt) (i : Nat), i < p.length → (cellsOf p)[i * 2]? = some (.int .i64 (at' p i).1) ∧ (cellsOf p)[i * 2 + 1]? = some (.int .i64 (at' p i).2)
  | [], i, h => absurd h (by simp)
  | x :: p, 0, _ => ⟨rfl, rfl⟩
  | x :: p, i + 1, h => by
    have ih := cellsOf_at p i (by simpa using h)
    have e1 : (i + 1) * 2 = i * 2 + 1 + 1 := by omega
    have e2 : at' (x :: p) (i + 1) = at' p i := rfl
    rw [e1, e2]
    exact ih
theorem row_new (p : List Pt) (cs : Array Value) (h : (cellsOf p).toArray = cs) (w : World) (t : TypeId) : Row (w.alloc (.cells cs t)) w.heap.size 0 p := by
  refine ⟨by simp, fun i hi => ?_⟩
  obtain ⟨a, b⟩ := cellsOf_at p i hi
  subst h
  have key : ∀ (j : Nat) (v : Value), (cellsOf p)[j]? = some v → (w.alloc (.cells (cellsOf p).toArray t)).cell? ⟨w.heap.size, 0 + j, none⟩ = some v := by
    intro j v hj
    simp [go_sem, hj]
  exact ⟨key _ _ a, by have := key _ _ b; rwa [← Nat.add_assoc] at this⟩
end Hl
end Go.Proofs.Ytmijlfbmmegfbaa
