/-
  What package hull owes, a contract each, and what follows of it at the examples.
  The examples of chapter 3: what they are as points.
  Plain geometry: what the least values say of a polygon; the eight-sided hull.
  Plain geometry: corners of a hull are its own.
-/
import Derived.Test.YteglefjnbkocgaaHullIn
import Derived.Test.YteglefjnbkocgaaHullSame
namespace Go.Proofs.Yteglefjnbkocgaa
open Go.RowKit
namespace Hl
/-- The bounds of points: the least and the greatest of u X + v Y. -/
def IsMin (p : List Pt) (u v m : Int) : Prop := (∃ x, x ∈ p ∧ u * x.1 + v * x.2 = m) ∧ ∀ x, x ∈ p → m ≤ u * x.1 + v * x.2
/-- The corners of the eight-sided hull, out of the bounds: X from a to b, Y from c to d, X + Y from s to t, X - Y from i to j. -/
def octL (a b c d s t i j : Int) : List Pt := [(b, b - j), (b, t - b), (t - d, d), (d + i, d), (a, a - i), (a, s - a), (s - c, c), (c + j, c)]
def IsOct (p q : List Pt) : Prop := ∃ a b c d s t i j : Int, IsMin p 1 0 a ∧ IsMin p (-1) 0 (-b) ∧ IsMin p 0 1 c ∧ IsMin p 0 (-1) (-d) ∧ IsMin p 1 1 s ∧ IsMin p (-1) (-1) (-t) ∧ IsMin p 1 (-1) i ∧ IsMin p (-1) 1 (-j) ∧ IsHull (octL a b c d s t i j) q
def IsBox (p : List Pt) (lo hi : Pt) : Prop := IsMin p 1 0 lo.1 ∧ IsMin p (-1) 0 (-hi.1) ∧ IsMin p 0 1 lo.2 ∧ IsMin p 0 (-1) (-hi.2)

def Empty (k : Int) (w : World) (e : Ending) (w' : World) : Prop := ∃ v, e = .returned (.tuple #[v, .int .i64 k]) ∧ Sl w' v [] ∧ Grew w w'
def HasSays (p : List Pt) (x : Pt) (w : World) (e : Ending) (w' : World) : Prop := ∃ r : Bool, e = .returned (.tuple #[.bool r, .int .i64 0]) ∧ (r = true ↔ Hs p x) ∧ Grew w w'
def HullSays (l : List Pt) (w : World) (e : Ending) (w' : World) : Prop := ∃ q, IsHull l q ∧ ((q.length ≤ 64 ∧ ∃ v, e = .returned (.tuple #[v, .int .i64 0]) ∧ Sl w' v q ∧ Grew w w') ∨ (64 < q.length ∧ Empty 2 w e w'))
def EightSays (p : List Pt) (w : World) (e : Ending) (w' : World) : Prop := ∃ q v, IsOct p q ∧ e = .returned (.tuple #[v, .int .i64 0]) ∧ Sl w' v q ∧ Grew w w'
def BoxSays (p : List Pt) (w : World) (e : Ending) (w' : World) : Prop := ∃ lo hi : Pt, IsBox p lo hi ∧ e = .returned (.tuple #[.agg #[.int .i64 lo.1, .int .i64 lo.2], .agg #[.int .i64 hi.1, .int .i64 hi.2], .int .i64 0]) ∧ Grew w w'

structure Code : Prop where
  valid : ∀ (p : List Pt) (v : Value) (w : World), Sl w v p → p.length ≤ 9223372036854775807 → Calls Try.prog 25 #[v] w (Tells (Vl p) w)
  has_ok : ∀ (p : List Pt) (x : Pt) (v : Value) (w : World), Sl w v p → Vl p → Plc x → Calls Try.prog 24 #[v, .agg #[.int .i64 x.1, .int .i64 x.2]] w (HasSays p x w)
  has_bad : ∀ (p : List Pt) (x : Pt) (v : Value) (w : World), Sl w v p → p.length ≤ 9223372036854775807 → ¬ (Vl p ∧ Plc x) → Calls Try.prog 24 #[v, .agg #[.int .i64 x.1, .int .i64 x.2]] w fun e w' => e = .returned (.tuple #[.bool false, .int .i64 1]) ∧ Grew w w'
  hull_big : ∀ (l : List Pt) (v : Value) (w : World), Sl w v l → l.length ≤ 9223372036854775807 → 4000 < l.length → Calls Try.prog 38 #[v] w (Empty 2 w)
  hull_bad : ∀ (l : List Pt) (v : Value) (w : World), Sl w v l → l.length ≤ 4000 → (l = [] ∨ ¬ Plcs l) → Calls Try.prog 38 #[v] w (Empty 1 w)
  hull_ok : ∀ (l : List Pt) (v : Value) (w : World), Sl w v l → l.length ≤ 4000 → l ≠ [] → Plcs l → Calls Try.prog 38 #[v] w (HullSays l w)
  eight_ok : ∀ (p : List Pt) (v : Value) (w : World), Sl w v p → Vl p → Calls Try.prog 30 #[v] w (EightSays p w)
  eight_bad : ∀ (p : List Pt) (v : Value) (w : World), Sl w v p → p.length ≤ 9223372036854775807 → ¬ Vl p → Calls Try.prog 30 #[v] w (Empty 1 w)
/-! ### Points in a new block -/
def cellsOf (p : List Pt) : List Value := p.flatMap fun x => [.int .i64 x.1, .int .i64 x.2]
theorem cellsOf_at : ∀ (p : List Pt) (i : Nat), i < p.length → (cellsOf p)[i * 2]? = some (.int .i64 (at' p i).1) ∧ (cellsOf p)[i * 2 + 1]? = some (.int .i64 (at' p i).2)
  | [], i, h => absurd h (by simp)
  | x :: p, 0, _ => ⟨rfl, rfl⟩
  | x :: p, i + 1, h => by
    have ih := cellsOf_at p i (by simpa using h)
    have e1 : (i + 1) * 2 = i * 2 + 1 + 1 := by omega
    have e2 : at' (x :: p) (i + 1) = at' p i := rfl
    rw [e1, e2]
    exact ih
theorem row_new (p : List Pt) (cs : Array Value) (h : (cellsOf p).toArray = cs) (w : World) (t : TypeId) : Row (w.alloc (.cells cs t)) w.heap.size 0 p := by
  refine ⟨by simp, fun i hi => ?_⟩
  obtain ⟨a, b⟩ := cellsOf_at p i hi
  subst h
  have key : ∀ (j : Nat) (v : Value), (cellsOf p)[j]? = some v → (w.alloc (.cells (cellsOf p).toArray t)).cell? ⟨w.heap.size, 0 + j, none⟩ = some v := by
    intro j v hj
    simp [go_sem, hj]
  exact ⟨key _ _ a, by have := key _ _ b; rwa [← Nat.add_assoc] at this⟩
end Hl
end Go.Proofs.Yteglefjnbkocgaa
namespace Go.Proofs.Yteglefjnbkocgaa
open Go.RowKit
namespace Hl
def l6 : List Pt := [(0, 0), (4, 0), (2, 1), (4, 4), (2, 0), (0, 4)]
def sq : List Pt := [(0, 0), (4, 0), (4, 4), (0, 4)]
def seg : List Pt := [(0, 0), (5, 1)]
def o4 : List Pt := [(0, 0), (4, 0), (5, 1), (1, 1)]
instance (a b : Pt) : Decidable (ls a b) := by unfold ls; infer_instance
/-- A polygon, as a test over all pairs. -/
def pgB (p : List Pt) : Bool := decide (1 ≤ p.length) && decide (∀ i, i < p.length → 1 ≤ i → ls (at' p 0) (at' p i)) && decide (∀ i, i < p.length → ∀ k, k < p.length → k ≠ i → k ≠ (i + 1) % p.length → 0 < cr (at' p i) (at' p ((i + 1) % p.length)) (at' p k))
theorem pg_of {p : List Pt} (h : pgB p = true) : Pg p := by
  unfold pgB at h
  simp only [Bool.and_eq_true, decide_eq_true_eq] at h
  exact ⟨h.1.1, fun i hi hl => h.1.2 i hl hi, fun _ i k hi hk h1 h2 => h.2 i hi k hk h1 h2⟩
def insB (p : List Pt) (x : Pt) : Bool := decide (∀ i, i < p.length → 0 ≤ cr (at' p i) (at' p ((i + 1) % p.length)) x)
theorem hs_of {p : List Pt} {x : Pt} (hp : 3 ≤ p.length) (h : insB p x = true) : Hs p x := (hs3 hp).2 (by
  unfold insB at h
  rw [decide_eq_true_eq] at h
  exact h)
theorem hs_not {p : List Pt} {x : Pt} (hp : 3 ≤ p.length) (h : insB p x = false) : ¬ Hs p x := fun t => by
  have := (hs3 hp).1 t
  unfold insB at h
  rw [decide_eq_false_iff_not] at h
  exact h this
theorem vl_of {p : List Pt} (h : Pg p) (hl : p.length ≤ 64) (hp : Plcs p) : Vl p := ⟨⟨h.1, hl⟩, hp, h.2.1, h.2.2⟩
theorem Vl.pg {p : List Pt} (h : Vl p) : Pg p := ⟨h.1.1, h.2.2.1, h.2.2.2⟩
theorem plcs_of {p : List Pt} (h : ∀ x, x ∈ p → Plc x) : Plcs p := fun _ hi => h _ (at_mem hi)
theorem sq_pg : Pg sq := pg_of (by decide)
theorem sq_vl : Vl sq := vl_of sq_pg (by decide) (plcs_of (by decide))
theorem seg_pg : Pg seg := ⟨by decide, fun i h1 h2 => by
  have h2' : i < 2 := h2
  obtain rfl : i = 1 := by omega
  decide, fun h => absurd h (by decide)⟩
theorem seg_vl : Vl seg := vl_of seg_pg (by decide) (plcs_of (by decide))
theorem six_hull : IsHull l6 sq := ⟨sq_pg, by decide, fun x hx => hs_of (by decide) (by
  revert x
  decide)⟩
theorem six_is {q : List Pt} (h : IsHull l6 q) : q = sq := hull_unique h six_hull
theorem six_plcs : Plcs l6 := plcs_of (by decide)
theorem sq_has : Hs sq (4, 3) := hs_of (by decide) (by decide)
theorem sq_not : ¬ Hs sq (5, 3) := hs_not (by decide) (by decide)
theorem sq_area : area sq.length (at' sq) = 32 := by decide
theorem far_not : ¬ Plcs [((500001, 0) : Pt)] := fun h => by
  have := (h 0 (by decide)).1.2
  exact absurd this (by decide)
theorem IsMin.one {p : List Pt} {u v m m' : Int} (h : IsMin p u v m) (k : IsMin p u v m') : m = m' := by
  obtain ⟨⟨x, hx, e⟩, h2⟩ := h
  obtain ⟨⟨y, hy, e'⟩, k2⟩ := k
  have := h2 y hy
  have := k2 x hx
  omega
def minB (p : List Pt) (u v m : Int) : Bool := p.any (fun x => u * x.1 + v * x.2 == m) && p.all (fun x => decide (m ≤ u * x.1 + v * x.2))
theorem min_of {p : List Pt} {u v m : Int} (h : minB p u v m = true) : IsMin p u v m := by
  unfold minB at h
  simp only [Bool.and_eq_true, List.any_eq_true, List.all_eq_true, beq_iff_eq, decide_eq_true_eq] at h
  exact ⟨h.1, h.2⟩
theorem sq_box {lo hi : Pt} (h : IsBox sq lo hi) : lo = (0, 0) ∧ hi = (4, 4) := by
  obtain ⟨h1, h2, h3, h4⟩ := h
  have e1 := h1.one (m' := 0) (min_of (by decide))
  have e2 := h2.one (m' := -4) (min_of (by decide))
  have e3 := h3.one (m' := 0) (min_of (by decide))
  have e4 := h4.one (m' := -4) (min_of (by decide))
  exact ⟨Prod.ext e1 e3, Prod.ext (by simp; omega) (by simp; omega)⟩
theorem seg_oct {q : List Pt} (h : IsOct seg q) : q = o4 := by
  obtain ⟨a, b, c, d, s, t, i, j, h1, h2, h3, h4, h5, h6, h7, h8, h9⟩ := h
  have e1 := h1.one (m' := 0) (min_of (by decide))
  have e2 := h2.one (m' := -5) (min_of (by decide))
  have e3 := h3.one (m' := 0) (min_of (by decide))
  have e4 := h4.one (m' := -1) (min_of (by decide))
  have e5 := h5.one (m' := 0) (min_of (by decide))
  have e6 := h6.one (m' := -6) (min_of (by decide))
  have e7 := h7.one (m' := 0) (min_of (by decide))
  have e8 := h8.one (m' := -4) (min_of (by decide))
  obtain rfl : a = 0 := e1
  obtain rfl : b = 5 := by omega
  obtain rfl : c = 0 := e3
  obtain rfl : d = 1 := by omega
  obtain rfl : s = 0 := e5
  obtain rfl : t = 6 := by omega
  obtain rfl : i = 0 := e7
  obtain rfl : j = 4 := by omega
  have k : IsHull (octL 0 5 0 1 0 6 0 4) o4 := ⟨pg_of (by decide), by decide, fun x hx => hs_of (by decide) (by
    revert x
    decide)⟩
  exact hull_unique h9 k
end Hl
end Go.Proofs.Yteglefjnbkocgaa
namespace Go.Proofs.Yteglefjnbkocgaa
namespace Hl
/-- A point that no half-plane parts from points that a polygon has, is in the polygon. -/
theorem hs_of_least {q : List Pt} {x : Pt} (L : List Pt) (hq : Pg q) (hL : ∀ y, y ∈ L → Hs q y) (h : ∀ u v k : Int, ∃ y, y ∈ L ∧ af u v k y ≤ af u v k x) : Hs q x := by
  by_cases h1 : q.length = 1
  · rw [hs1 h1]
    have key : ∀ y, y ∈ L → y = at' q 0 := fun y hy => ((hs1 h1).1 (hL y hy)).symm
    obtain ⟨y1, m1, e1⟩ := h 1 0 0
    obtain ⟨y2, m2, e2⟩ := h (-1) 0 0
    obtain ⟨y3, m3, e3⟩ := h 0 1 0
    obtain ⟨y4, m4, e4⟩ := h 0 (-1) 0
    rw [key _ m1] at e1
    rw [key _ m2] at e2
    rw [key _ m3] at e3
    rw [key _ m4] at e4
    unfold af at e1 e2 e3 e4
    exact Prod.ext (by omega) (by omega)
  · by_cases h2 : q.length = 2
    · rw [hs2 h2]
      have key : ∀ y, y ∈ L → cr (at' q 0) (at' q 1) y = 0 ∧ btw (at' q 0) (at' q 1) y := fun y hy => (hs2 h2).1 (hL y hy)
      have hl := hq.2.1 1 (by omega) (by omega)
      refine ⟨?_, ?_⟩
      · have c1 : 0 ≤ cr (at' q 0) (at' q 1) x := by
          obtain ⟨y, m, e⟩ := h (-((at' q 1).2 - (at' q 0).2)) ((at' q 1).1 - (at' q 0).1) (((at' q 1).2 - (at' q 0).2) * (at' q 0).1 - ((at' q 1).1 - (at' q 0).1) * (at' q 0).2)
          rw [← cr_af, ← cr_af, (key y m).1] at e
          exact e
        have c2 : 0 ≤ cr (at' q 1) (at' q 0) x := by
          obtain ⟨y, m, e⟩ := h (-((at' q 0).2 - (at' q 1).2)) ((at' q 0).1 - (at' q 1).1) (((at' q 0).2 - (at' q 1).2) * (at' q 1).1 - ((at' q 0).1 - (at' q 1).1) * (at' q 1).2)
          rw [← cr_af, ← cr_af, cr_swap2, (key y m).1] at e
          exact e
        rw [cr_swap2] at c2
        omega
      · obtain ⟨y1, m1, e1⟩ := h 1 0 0
        obtain ⟨y2, m2, e2⟩ := h (-1) 0 0
        obtain ⟨y3, m3, e3⟩ := h 0 1 0
        obtain ⟨y4, m4, e4⟩ := h 0 (-1) 0
        have k1 := (key _ m1).2
        have k2 := (key _ m2).2
        have k3 := (key _ m3).2
        have k4 := (key _ m4).2
        unfold af at e1 e2 e3 e4
        unfold btw at k1 k2 k3 k4 ⊢
        unfold ls at hl
        omega
    · have h3 : 3 ≤ q.length := by have := hq.1; omega
      rw [hs3 h3]
      intro i hi
      obtain ⟨y, m, e⟩ := h (-((at' q ((i + 1) % q.length)).2 - (at' q i).2)) ((at' q ((i + 1) % q.length)).1 - (at' q i).1) (((at' q ((i + 1) % q.length)).2 - (at' q i).2) * (at' q i).1 - ((at' q ((i + 1) % q.length)).1 - (at' q i).1) * (at' q i).2)
      rw [← cr_af, ← cr_af] at e
      have := (hs3 h3).1 (hL y m) i hi
      omega

/-- Different corners in a list: no more than the list has. -/
theorem count_le (P : Nat → Pt) : ∀ (n : Nat) (L : List Pt), (∀ i j, i < n → j < n → i ≠ j → P i ≠ P j) → (∀ i, i < n → P i ∈ L) → n ≤ L.length
  | 0, _, _, _ => Nat.zero_le _
  | n + 1, L, hd, hm => by
    have h := count_le P n (L.erase (P n)) (fun i j hi hj => hd i j (by omega) (by omega)) (fun i hi => (List.mem_erase_of_ne (hd i n (by omega) (by omega) (by omega))).2 (hm i (by omega)))
    rw [List.length_erase_of_mem (hm n (by omega))] at h
    have : 0 < L.length := List.length_pos_of_mem (hm n (by omega))
    omega
theorem pg_distinct {q : List Pt} (h : Pg q) {i j : Nat} (hi : i < q.length) (hj : j < q.length) (hne : i ≠ j) : at' q i ≠ at' q j := by
  by_cases h3 : 3 ≤ q.length
  · exact corners_ne (h.2.2 (by omega)) h3 hi hj hne
  · have h2 := pg_ne h (by omega)
    by_cases e : i = 0
    · obtain rfl : j = 1 := by omega
      subst e; exact h2
    · obtain rfl : i = 1 := by omega
      obtain rfl : j = 0 := by omega
      exact fun e => h2 e.symm

/-- Bounds that belong together: each is met by a point that keeps the others. -/
structure Bd (a b c d s t i j : Int) : Prop where
  wa : ∃ x y : Int, x = a ∧ (a ≤ x ∧ x ≤ b) ∧ (c ≤ y ∧ y ≤ d) ∧ (s ≤ x + y ∧ x + y ≤ t) ∧ (i ≤ x - y ∧ x - y ≤ j)
  wb : ∃ x y : Int, x = b ∧ (a ≤ x ∧ x ≤ b) ∧ (c ≤ y ∧ y ≤ d) ∧ (s ≤ x + y ∧ x + y ≤ t) ∧ (i ≤ x - y ∧ x - y ≤ j)
  wc : ∃ x y : Int, y = c ∧ (a ≤ x ∧ x ≤ b) ∧ (c ≤ y ∧ y ≤ d) ∧ (s ≤ x + y ∧ x + y ≤ t) ∧ (i ≤ x - y ∧ x - y ≤ j)
  wd : ∃ x y : Int, y = d ∧ (a ≤ x ∧ x ≤ b) ∧ (c ≤ y ∧ y ≤ d) ∧ (s ≤ x + y ∧ x + y ≤ t) ∧ (i ≤ x - y ∧ x - y ≤ j)
  ws : ∃ x y : Int, x + y = s ∧ (a ≤ x ∧ x ≤ b) ∧ (c ≤ y ∧ y ≤ d) ∧ (s ≤ x + y ∧ x + y ≤ t) ∧ (i ≤ x - y ∧ x - y ≤ j)
  wt : ∃ x y : Int, x + y = t ∧ (a ≤ x ∧ x ≤ b) ∧ (c ≤ y ∧ y ≤ d) ∧ (s ≤ x + y ∧ x + y ≤ t) ∧ (i ≤ x - y ∧ x - y ≤ j)
  wi : ∃ x y : Int, x - y = i ∧ (a ≤ x ∧ x ≤ b) ∧ (c ≤ y ∧ y ≤ d) ∧ (s ≤ x + y ∧ x + y ≤ t) ∧ (i ≤ x - y ∧ x - y ≤ j)
  wj : ∃ x y : Int, x - y = j ∧ (a ≤ x ∧ x ≤ b) ∧ (c ≤ y ∧ y ≤ d) ∧ (s ≤ x + y ∧ x + y ≤ t) ∧ (i ≤ x - y ∧ x - y ≤ j)

def Keeps (a b c d s t i j : Int) (x : Pt) : Prop := (a ≤ x.1 ∧ x.1 ≤ b) ∧ (c ≤ x.2 ∧ x.2 ≤ d) ∧ (s ≤ x.1 + x.2 ∧ x.1 + x.2 ≤ t) ∧ (i ≤ x.1 - x.2 ∧ x.1 - x.2 ≤ j)
theorem oct_keeps {a b c d s t i j : Int} (h : Bd a b c d s t i j) : ∀ x, x ∈ octL a b c d s t i j → Keeps a b c d s t i j x := by
  intro x hx
  unfold octL at hx
  simp only [List.mem_cons, List.not_mem_nil, or_false] at hx
  rcases hx with rfl | rfl | rfl | rfl | rfl | rfl | rfl | rfl
  · obtain ⟨x1, y1, e1, ⟨_, _⟩, ⟨_, _⟩, ⟨_, _⟩, ⟨_, _⟩⟩ := h.wb
    obtain ⟨x2, y2, e2, ⟨_, _⟩, ⟨_, _⟩, ⟨_, _⟩, ⟨_, _⟩⟩ := h.wj
    unfold Keeps
    simp only
    omega
  · obtain ⟨x1, y1, e1, ⟨_, _⟩, ⟨_, _⟩, ⟨_, _⟩, ⟨_, _⟩⟩ := h.wb
    obtain ⟨x2, y2, e2, ⟨_, _⟩, ⟨_, _⟩, ⟨_, _⟩, ⟨_, _⟩⟩ := h.wt
    unfold Keeps
    simp only
    omega
  · obtain ⟨x1, y1, e1, ⟨_, _⟩, ⟨_, _⟩, ⟨_, _⟩, ⟨_, _⟩⟩ := h.wt
    obtain ⟨x2, y2, e2, ⟨_, _⟩, ⟨_, _⟩, ⟨_, _⟩, ⟨_, _⟩⟩ := h.wd
    unfold Keeps
    simp only
    omega
  · obtain ⟨x1, y1, e1, ⟨_, _⟩, ⟨_, _⟩, ⟨_, _⟩, ⟨_, _⟩⟩ := h.wd
    obtain ⟨x2, y2, e2, ⟨_, _⟩, ⟨_, _⟩, ⟨_, _⟩, ⟨_, _⟩⟩ := h.wi
    unfold Keeps
    simp only
    omega
  · obtain ⟨x1, y1, e1, ⟨_, _⟩, ⟨_, _⟩, ⟨_, _⟩, ⟨_, _⟩⟩ := h.wa
    obtain ⟨x2, y2, e2, ⟨_, _⟩, ⟨_, _⟩, ⟨_, _⟩, ⟨_, _⟩⟩ := h.wi
    unfold Keeps
    simp only
    omega
  · obtain ⟨x1, y1, e1, ⟨_, _⟩, ⟨_, _⟩, ⟨_, _⟩, ⟨_, _⟩⟩ := h.wa
    obtain ⟨x2, y2, e2, ⟨_, _⟩, ⟨_, _⟩, ⟨_, _⟩, ⟨_, _⟩⟩ := h.ws
    unfold Keeps
    simp only
    omega
  · obtain ⟨x1, y1, e1, ⟨_, _⟩, ⟨_, _⟩, ⟨_, _⟩, ⟨_, _⟩⟩ := h.ws
    obtain ⟨x2, y2, e2, ⟨_, _⟩, ⟨_, _⟩, ⟨_, _⟩, ⟨_, _⟩⟩ := h.wc
    unfold Keeps
    simp only
    omega
  · obtain ⟨x1, y1, e1, ⟨_, _⟩, ⟨_, _⟩, ⟨_, _⟩, ⟨_, _⟩⟩ := h.wc
    obtain ⟨x2, y2, e2, ⟨_, _⟩, ⟨_, _⟩, ⟨_, _⟩, ⟨_, _⟩⟩ := h.wj
    unfold Keeps
    simp only
    omega

theorem oct_least {a b c d s t i j : Int} {x : Pt} (h : Keeps a b c d s t i j x) (u v k : Int) : ∃ y, y ∈ octL a b c d s t i j ∧ af u v k y ≤ af u v k x := by
  obtain ⟨⟨h1, h2⟩, ⟨h3, h4⟩, ⟨h5, h6⟩, ⟨h7, h8⟩⟩ := h
  by_cases hu : 0 ≤ u
  · by_cases hv : 0 ≤ v
    · by_cases hc : v ≤ u
      · refine ⟨(a, s - a), by simp [octL], ?_⟩
        have p1 := Int.mul_nonneg (show 0 ≤ u - v by omega) (show 0 ≤ x.1 - a by omega)
        have p2 := Int.mul_nonneg hv (show 0 ≤ x.1 + x.2 - s by omega)
        have e : af u v k x - af u v k (a, s - a) = (u - v) * (x.1 - a) + v * (x.1 + x.2 - s) := by unfold af; grind
        omega
      · refine ⟨(s - c, c), by simp [octL], ?_⟩
        have p1 := Int.mul_nonneg (show 0 ≤ v - u by omega) (show 0 ≤ x.2 - c by omega)
        have p2 := Int.mul_nonneg hu (show 0 ≤ x.1 + x.2 - s by omega)
        have e : af u v k x - af u v k (s - c, c) = (v - u) * (x.2 - c) + u * (x.1 + x.2 - s) := by unfold af; grind
        omega
    · by_cases hc : -v ≤ u
      · refine ⟨(a, a - i), by simp [octL], ?_⟩
        have p1 := Int.mul_nonneg (show 0 ≤ u + v by omega) (show 0 ≤ x.1 - a by omega)
        have p2 := Int.mul_nonneg (show 0 ≤ -v by omega) (show 0 ≤ x.1 - x.2 - i by omega)
        have e : af u v k x - af u v k (a, a - i) = (u + v) * (x.1 - a) + (-v) * (x.1 - x.2 - i) := by unfold af; grind
        omega
      · refine ⟨(d + i, d), by simp [octL], ?_⟩
        have p1 := Int.mul_nonneg (show 0 ≤ -(u + v) by omega) (show 0 ≤ d - x.2 by omega)
        have p2 := Int.mul_nonneg hu (show 0 ≤ x.1 - x.2 - i by omega)
        have e : af u v k x - af u v k (d + i, d) = (-(u + v)) * (d - x.2) + u * (x.1 - x.2 - i) := by unfold af; grind
        omega
  · by_cases hv : 0 ≤ v
    · by_cases hc : v ≤ -u
      · refine ⟨(b, b - j), by simp [octL], ?_⟩
        have p1 := Int.mul_nonneg (show 0 ≤ -(u + v) by omega) (show 0 ≤ b - x.1 by omega)
        have p2 := Int.mul_nonneg hv (show 0 ≤ j - (x.1 - x.2) by omega)
        have e : af u v k x - af u v k (b, b - j) = (-(u + v)) * (b - x.1) + v * (j - (x.1 - x.2)) := by unfold af; grind
        omega
      · refine ⟨(c + j, c), by simp [octL], ?_⟩
        have p1 := Int.mul_nonneg (show 0 ≤ u + v by omega) (show 0 ≤ x.2 - c by omega)
        have p2 := Int.mul_nonneg (show 0 ≤ -u by omega) (show 0 ≤ j - (x.1 - x.2) by omega)
        have e : af u v k x - af u v k (c + j, c) = (u + v) * (x.2 - c) + (-u) * (j - (x.1 - x.2)) := by unfold af; grind
        omega
    · by_cases hc : -v ≤ -u
      · refine ⟨(b, t - b), by simp [octL], ?_⟩
        have p1 := Int.mul_nonneg (show 0 ≤ -(u - v) by omega) (show 0 ≤ b - x.1 by omega)
        have p2 := Int.mul_nonneg (show 0 ≤ -v by omega) (show 0 ≤ t - (x.1 + x.2) by omega)
        have e : af u v k x - af u v k (b, t - b) = (-(u - v)) * (b - x.1) + (-v) * (t - (x.1 + x.2)) := by unfold af; grind
        omega
      · refine ⟨(t - d, d), by simp [octL], ?_⟩
        have p1 := Int.mul_nonneg (show 0 ≤ -(v - u) by omega) (show 0 ≤ d - x.2 by omega)
        have p2 := Int.mul_nonneg (show 0 ≤ -u by omega) (show 0 ≤ t - (x.1 + x.2) by omega)
        have e : af u v k x - af u v k (t - d, d) = (-(v - u)) * (d - x.2) + (-u) * (t - (x.1 + x.2)) := by unfold af; grind
        omega

/-- The bounds of points belong together, and the points keep them. -/
theorem bd_of {p : List Pt} {a b c d s t i j : Int} (h1 : IsMin p 1 0 a) (h2 : IsMin p (-1) 0 (-b)) (h3 : IsMin p 0 1 c) (h4 : IsMin p 0 (-1) (-d)) (h5 : IsMin p 1 1 s) (h6 : IsMin p (-1) (-1) (-t)) (h7 : IsMin p 1 (-1) i) (h8 : IsMin p (-1) 1 (-j)) : Bd a b c d s t i j ∧ ∀ x, x ∈ p → Keeps a b c d s t i j x := by
  have K : ∀ x, x ∈ p → Keeps a b c d s t i j x := by
    intro x hx
    have e1 := h1.2 x hx
    have e2 := h2.2 x hx
    have e3 := h3.2 x hx
    have e4 := h4.2 x hx
    have e5 := h5.2 x hx
    have e6 := h6.2 x hx
    have e7 := h7.2 x hx
    have e8 := h8.2 x hx
    unfold Keeps
    omega
  refine ⟨⟨?_, ?_, ?_, ?_, ?_, ?_, ?_, ?_⟩, K⟩
  · obtain ⟨x, hx, e⟩ := h1.1
    exact ⟨x.1, x.2, by omega, K x hx⟩
  · obtain ⟨x, hx, e⟩ := h2.1
    exact ⟨x.1, x.2, by omega, K x hx⟩
  · obtain ⟨x, hx, e⟩ := h3.1
    exact ⟨x.1, x.2, by omega, K x hx⟩
  · obtain ⟨x, hx, e⟩ := h4.1
    exact ⟨x.1, x.2, by omega, K x hx⟩
  · obtain ⟨x, hx, e⟩ := h5.1
    exact ⟨x.1, x.2, by omega, K x hx⟩
  · obtain ⟨x, hx, e⟩ := h6.1
    exact ⟨x.1, x.2, by omega, K x hx⟩
  · obtain ⟨x, hx, e⟩ := h7.1
    exact ⟨x.1, x.2, by omega, K x hx⟩
  · obtain ⟨x, hx, e⟩ := h8.1
    exact ⟨x.1, x.2, by omega, K x hx⟩

/-- A bound that the polygon's points keep, and one of them meets, is the polygon's. -/
theorem min_hull {L q : List Pt} {u v m : Int} (hq : IsHull L q) (hlo : ∀ x, x ∈ L → m ≤ u * x.1 + v * x.2) (hat : ∃ x, x ∈ L ∧ u * x.1 + v * x.2 = m) : IsMin q u v m := by
  obtain ⟨x, hx, e⟩ := hat
  obtain ⟨k, hk, hle⟩ := hs_least hq.1 (hq.2.2 x hx) u v 0
  have hlo' : ∀ y, y ∈ q → m ≤ u * y.1 + v * y.2 := fun y hy => hlo y (hq.2.1 y hy)
  refine ⟨⟨at' q k, at_mem hk, ?_⟩, hlo'⟩
  have := hlo' _ (at_mem hk)
  unfold af at hle
  omega
theorem oct_min {a b c d s t i j : Int} (B : Bd a b c d s t i j) {q : List Pt} (hq : IsHull (octL a b c d s t i j) q) : IsMin q 1 0 a ∧ IsMin q (-1) 0 (-b) ∧ IsMin q 0 1 c ∧ IsMin q 0 (-1) (-d) ∧ IsMin q 1 1 s ∧ IsMin q (-1) (-1) (-t) ∧ IsMin q 1 (-1) i ∧ IsMin q (-1) 1 (-j) := by
  have K := oct_keeps B
  refine ⟨?_, ?_, ?_, ?_, ?_, ?_, ?_, ?_⟩
  · exact min_hull hq (fun x hx => by have := K x hx; unfold Keeps at this; omega) ⟨(a, a - i), by simp [octL], by simp; try omega⟩
  · exact min_hull hq (fun x hx => by have := K x hx; unfold Keeps at this; omega) ⟨(b, b - j), by simp [octL], by simp; try omega⟩
  · exact min_hull hq (fun x hx => by have := K x hx; unfold Keeps at this; omega) ⟨(s - c, c), by simp [octL], by simp; try omega⟩
  · exact min_hull hq (fun x hx => by have := K x hx; unfold Keeps at this; omega) ⟨(t - d, d), by simp [octL], by simp; try omega⟩
  · exact min_hull hq (fun x hx => by have := K x hx; unfold Keeps at this; omega) ⟨(a, s - a), by simp [octL], by simp; try omega⟩
  · exact min_hull hq (fun x hx => by have := K x hx; unfold Keeps at this; omega) ⟨(b, t - b), by simp [octL], by simp; try omega⟩
  · exact min_hull hq (fun x hx => by have := K x hx; unfold Keeps at this; omega) ⟨(d + i, d), by simp [octL], by simp; try omega⟩
  · exact min_hull hq (fun x hx => by have := K x hx; unfold Keeps at this; omega) ⟨(b, b - j), by simp [octL], by simp; try omega⟩

theorem oct_facts {p q : List Pt} (hp : Vl p) (h : IsOct p q) : Vl q ∧ q.length ≤ 8 ∧ (∀ r, IsOct q r → r = q) ∧ (∀ x, Hs p x → Hs q x) ∧ (∀ lo hi lo' hi', IsBox p lo hi → IsBox q lo' hi' → lo' = lo ∧ hi' = hi) := by
  obtain ⟨a, b, c, d, s, t, i, j, h1, h2, h3, h4, h5, h6, h7, h8, hq⟩ := h
  obtain ⟨B, K⟩ := bd_of h1 h2 h3 h4 h5 h6 h7 h8
  obtain ⟨m1, m2, m3, m4, m5, m6, m7, m8⟩ := oct_min B hq
  have O := oct_keeps B
  have hn : q.length ≤ 8 := count_le (at' q) q.length (octL a b c d s t i j) (fun i j hi hj hne => pg_distinct hq.1 hi hj hne) (fun i hi => hq.2.1 _ (at_mem hi))
  have hpl : Plcs q := fun n hn => by
    have hk := O _ (hq.2.1 _ (at_mem hn))
    obtain ⟨y1, g1, e1⟩ := h1.1
    obtain ⟨y2, g2, e2⟩ := h2.1
    obtain ⟨y3, g3, e3⟩ := h3.1
    obtain ⟨y4, g4, e4⟩ := h4.1
    obtain ⟨n1, l1, r1⟩ := mem_at g1
    obtain ⟨n2, l2, r2⟩ := mem_at g2
    obtain ⟨n3, l3, r3⟩ := mem_at g3
    obtain ⟨n4, l4, r4⟩ := mem_at g4
    have p1 := hp.2.1 n1 l1
    have p2 := hp.2.1 n2 l2
    have p3 := hp.2.1 n3 l3
    have p4 := hp.2.1 n4 l4
    rw [r1] at p1
    rw [r2] at p2
    rw [r3] at p3
    rw [r4] at p4
    unfold Keeps at hk
    unfold Plc at p1 p2 p3 p4 ⊢
    omega
  refine ⟨vl_of hq.1 (by omega) hpl, hn, ?_, ?_, ?_⟩
  · intro r ⟨a', b', c', d', s', t', i', j', k1, k2, k3, k4, k5, k6, k7, k8, hr⟩
    obtain rfl := k1.one m1
    obtain rfl : b' = b := by have := k2.one m2; omega
    obtain rfl := k3.one m3
    obtain rfl : d' = d := by have := k4.one m4; omega
    obtain rfl := k5.one m5
    obtain rfl : t' = t := by have := k6.one m6; omega
    obtain rfl := k7.one m7
    obtain rfl : j' = j := by have := k8.one m8; omega
    exact hull_unique hr hq
  · intro x hx
    have hk : Keeps a b c d s t i j x := by
      have g : ∀ u v m, IsMin p u v m → m ≤ u * x.1 + v * x.2 := by
        intro u v m hm
        obtain ⟨n, hn, hle⟩ := hs_least hp.pg hx u v 0
        have := hm.2 _ (at_mem hn)
        unfold af at hle
        omega
      have e1 := g _ _ _ h1
      have e2 := g _ _ _ h2
      have e3 := g _ _ _ h3
      have e4 := g _ _ _ h4
      have e5 := g _ _ _ h5
      have e6 := g _ _ _ h6
      have e7 := g _ _ _ h7
      have e8 := g _ _ _ h8
      unfold Keeps
      omega
    exact hs_of_least _ hq.1 hq.2.2 (oct_least hk)
  · intro lo hi lo' hi' ⟨p1, p2, p3, p4⟩ ⟨q1, q2, q3, q4⟩
    have e1 := p1.one h1
    have e2 := p2.one h2
    have e3 := p3.one h3
    have e4 := p4.one h4
    have f1 := q1.one m1
    have f2 := q2.one m2
    have f3 := q3.one m3
    have f4 := q4.one m4
    exact ⟨Prod.ext (by omega) (by omega), Prod.ext (by omega) (by omega)⟩
theorem box_has {p : List Pt} {lo hi x : Pt} (hp : Pg p) (h : IsBox p lo hi) (hx : Hs p x) : lo.1 ≤ x.1 ∧ x.1 ≤ hi.1 ∧ lo.2 ≤ x.2 ∧ x.2 ≤ hi.2 := by
  obtain ⟨p1, p2, p3, p4⟩ := h
  have g : ∀ u v m, IsMin p u v m → m ≤ u * x.1 + v * x.2 := by
    intro u v m hm
    obtain ⟨n, hn, hle⟩ := hs_least hp hx u v 0
    have := hm.2 _ (at_mem hn)
    unfold af at hle
    omega
  have e1 := g _ _ _ p1
  have e2 := g _ _ _ p2
  have e3 := g _ _ _ p3
  have e4 := g _ _ _ p4
  omega
end Hl
end Go.Proofs.Yteglefjnbkocgaa
namespace Go.Proofs.Yteglefjnbkocgaa
namespace Hl
theorem hull_plcs {l q : List Pt} (h : IsHull l q) (hp : Plcs l) : Plcs q := fun i hi => by
  obtain ⟨j, hj, e⟩ := mem_at (h.2.1 _ (at_mem hi))
  rw [← e]; exact hp j hj
theorem hs_corner {p : List Pt} (h : Pg p) {i : Nat} (hi : i < p.length) : Hs p (at' p i) := by
  by_cases h1 : p.length = 1
  · obtain rfl : i = 0 := by omega
    exact (hs1 h1).2 rfl
  · by_cases h2 : p.length = 2
    · rw [hs2 h2]
      by_cases e : i = 0
      · subst e; exact ⟨cr_self _ _, by unfold btw; omega⟩
      · obtain rfl : i = 1 := by omega
        exact ⟨cr_self' _ _, by unfold btw; omega⟩
    · have h3 : 3 ≤ p.length := by have := h.1; omega
      rw [hs3 h3]
      intro j hj
      by_cases e1 : i = j
      · rw [e1, cr_self]; exact Int.le_refl _
      · by_cases e2 : i = (j + 1) % p.length
        · rw [← e2, cr_self']; exact Int.le_refl _
        · exact Int.le_of_lt (h.2.2 (by omega) j i hj hi e1 e2)
theorem hull_self {q : List Pt} (h : Pg q) : IsHull q q := ⟨h, fun _ hx => hx, fun x hx => by
  obtain ⟨i, hi, e⟩ := mem_at hx
  rw [← e]; exact hs_corner h hi⟩
end Hl
end Go.Proofs.Yteglefjnbkocgaa
