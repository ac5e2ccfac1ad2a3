/-
  Plain geometry: what the least values say of a polygon; the eight-sided hull.
-/
import Derived.Test.YtlookcbokhknfaaGreatHullLay
namespace Go.Proofs.YtlookcbokhknfaaGreat
namespace Hl
/-- A point that no half-plane parts from points that a polygon has, is in the polygon. -/
theorem hs_of_least {q : List Pt} {x : Pt} (L : List Pt) (hq : Pg q) (hL : ∀ y, y ∈ L → Hs q y) (h : ∀ u v k : Int, ∃ y, y ∈ L ∧ af u v k y ≤ af u v k x) : Hs q x := by
  by_cases h1 : q.length = 1
  · rw [hs1 h1]
    have key : ∀ y, y ∈ L → y = at' q 0 := fun y hy => ((hs1 h1).1 (hL y hy)).symm
    obtain ⟨y1, m1, e1⟩ := h 1 0 0
    obtain ⟨y2, m2, e2⟩ := h (-1) 0 0
    obtain ⟨y3, m3, e3⟩ := h 0 1 0
    obtain ⟨y4, m4, e4⟩ := h 0 (-1) 0
    rw [key _ m1] at e1
    rw [key _ m2] at e2
    rw [key _ m3] at e3
    rw [key _ m4] at e4
    unfold af at e1 e2 e3 e4
    exact Prod.ext (by omega) (by omega)
  · by_cases h2 : q.length = 2
    · rw [hs2 h2]
      have key : ∀ y, y ∈ L → cr (at' q 0) (at' q 1) y = 0 ∧ btw (at' q 0) (at' q 1) y := fun y hy => (hs2 h2).1 (hL y hy)
      have hl := hq.2.1 1 (by omega) (by omega)
      refine ⟨?_, ?_⟩
      · have c1 : 0 ≤ cr (at' q 0) (at' q 1) x := by
          obtain ⟨y, m, e⟩ := h (-((at' q 1).2 - (at' q 0).2)) ((at' q 1).1 - (at' q 0).1) (((at' q 1).2 - (at' q 0).2) * (at' q 0).1 - ((at' q 1).1 - (at' q 0).1) * (at' q 0).2)
          rw [← cr_af, ← cr_af, (key y m).1] at e
          exact e
        have c2 : 0 ≤ cr (at' q 1) (at' q 0) x := by
          obtain ⟨y, m, e⟩ := h (-((at' q 0).2 - (at' q 1).2)) ((at' q 0).1 - (at' q 1).1) (((at' q 0).2 - (at' q 1).2) * (at' q 1).1 - ((at' q 0).1 - (at' q 1).1) * (at' q 1).2)
          rw [← cr_af, ← cr_af, cr_swap2, (key y m).1] at e
          exact e
        rw [cr_swap2] at c2
        omega
      · obtain ⟨y1, m1, e1⟩ := h 1 0 0
        obtain ⟨y2, m2, e2⟩ := h (-1) 0 0
        obtain ⟨y3, m3, e3⟩ := h 0 1 0
        obtain ⟨y4, m4, e4⟩ := h 0 (-1) 0
        have k1 := (key _ m1).2
        have k2 := (key _ m2).2
        have k3 := (key _ m3).2
        have k4 := (key _ m4).2
        unfold af at e1 e2 e3 e4
        unfold btw at k1 k2 k3 k4 ⊢
        unfold ls at hl
        omega
    · have h3 : 3 ≤ q.length := by have := hq.1; omega
      rw [hs3 h3]
      intro i hi
      obtain ⟨y, m, e⟩ := h (-((at' q ((i + 1) % q.length)).2 - (at' q i).2)) ((at' q ((i + 1) % q.length)).1 - (at' q i).1) (((at' q ((i + 1) % q.length)).2 - (at' q i).2) * (at' q i).1 - ((at' q ((i + 1) % q.length)).1 - (at' q i).1) * (at' q i).2)
      rw [← cr_af, ← cr_af] at e
      have := (hs3 h3).1 (hL y m) i hi
      omega

/-- Different corners in a list: no more than the list has. -/
theorem count_le (P : Nat → Pt) : ∀ (n : Nat) (L : List Pt), (∀ i j, i < n → j < n → i ≠ j → P i ≠ P j) → (∀ i, i < n → P i ∈ L) → n ≤ L.length
  | 0, _, _, _ => Nat.zero_le _
  | n + 1, L, hd, hm => by
    have h := count_le P n (L.erase (P n)) (fun i j hi hj => hd i j (by omega) (by omega)) (fun i hi => (List.mem_erase_of_ne (hd i n (by omega) (by omega) (by omega))).2 (hm i (by omega)))
    rw [List.length_erase_of_mem (hm n (by omega))] at h
    have : 0 < L.length := List.length_pos_of_mem (hm n (by omega))
    omega
theorem pg_distinct {q : List Pt} (h : Pg q) {i j : Nat} (hi : i < q.length) (hj : j < q.length) (hne : i ≠ j) : at' q i ≠ at' q j := by
  by_cases h3 : 3 ≤ q.length
  · exact corners_ne (h.2.2 (by omega)) h3 hi hj hne
  · have h2 := pg_ne h (by omega)
    by_cases e : i = 0
    · obtain rfl : j = 1 := by omega
      subst e; exact h2
    · obtain rfl : i = 1 := by omega
      obtain rfl : j = 0 := by omega
      exact fun e => h2 e.symm

/-- Bounds that belong together: each is met by a point that keeps the others. -/
structure Bd (a b c d s t i j : Int) : Prop where
  wa : ∃ x y : Int, x = a ∧ (a ≤ x ∧ x ≤ b) ∧ (c ≤ y ∧ y ≤ d) ∧ (s ≤ x + y ∧ x + y ≤ t) ∧ (i ≤ x - y ∧ x - y ≤ j)
  wb : ∃ x y : Int, x = b ∧ (a ≤ x ∧ x ≤ b) ∧ (c ≤ y ∧ y ≤ d) ∧ (s ≤ x + y ∧ x + y ≤ t) ∧ (i ≤ x - y ∧ x - y ≤ j)
  wc : ∃ x y : Int, y = c ∧ (a ≤ x ∧ x ≤ b) ∧ (c ≤ y ∧ y ≤ d) ∧ (s ≤ x + y ∧ x + y ≤ t) ∧ (i ≤ x - y ∧ x - y ≤ j)
  wd : ∃ x y : Int, y = d ∧ (a ≤ x ∧ x ≤ b) ∧ (c ≤ y ∧ y ≤ d) ∧ (s ≤ x + y ∧ x + y ≤ t) ∧ (i ≤ x - y ∧ x - y ≤ j)
  ws : ∃ x y : Int, x + y = s ∧ (a ≤ x ∧ x ≤ b) ∧ (c ≤ y ∧ y ≤ d) ∧ (s ≤ x + y ∧ x + y ≤ t) ∧ (i ≤ x - y ∧ x - y ≤ j)
  wt : ∃ x y : Int, x + y = t ∧ (a ≤ x ∧ x ≤ b) ∧ (c ≤ y ∧ y ≤ d) ∧ (s ≤ x + y ∧ x + y ≤ t) ∧ (i ≤ x - y ∧ x - y ≤ j)
  wi : ∃ x y : Int, x - y = i ∧ (a ≤ x ∧ x ≤ b) ∧ (c ≤ y ∧ y ≤ d) ∧ (s ≤ x + y ∧ x + y ≤ t) ∧ (i ≤ x - y ∧ x - y ≤ j)
  wj : ∃ x y : Int, x - y = j ∧ (a ≤ x ∧ x ≤ b) ∧ (c ≤ y ∧ y ≤ d) ∧ (s ≤ x + y ∧ x + y ≤ t) ∧ (i ≤ x - y ∧ x - y ≤ j)

def Keeps (a b c d s t i j : Int) (x : Pt) : Prop := (a ≤ x.1 ∧ x.1 ≤ b) ∧ (c ≤ x.2 ∧ x.2 ≤ d) ∧ (s ≤ x.1 + x.2 ∧ x.1 + x.2 ≤ t) ∧ (i ≤ x.1 - x.2 ∧ x.1 - x.2 ≤ j)
theorem oct_keeps {a b c d s t i j : Int} (h : Bd a b c d s t i j) : ∀ x, x ∈ octL a b c d s t i j → Keeps a b c d s t i j x := by
  intro x hx
  unfold octL at hx
  simp only [List.mem_cons, List.not_mem_nil, or_false] at hx
  rcases hx with rfl | rfl | rfl | rfl | rfl | rfl | rfl | rfl
  · obtain ⟨x1, y1, e1, ⟨_, _⟩, ⟨_, _⟩, ⟨_, _⟩, ⟨_, _⟩⟩ := h.wb
    obtain ⟨x2, y2, e2, ⟨_, _⟩, ⟨_, _⟩, ⟨_, _⟩, ⟨_, _⟩⟩ := h.wj
    unfold Keeps
    simp only
    omega
  · obtain ⟨x1, y1, e1, ⟨_, _⟩, ⟨_, _⟩, ⟨_, _⟩, ⟨_, _⟩⟩ := h.wb
    obtain ⟨x2, y2, e2, ⟨_, _⟩, ⟨_, _⟩, ⟨_, _⟩, ⟨_, _⟩⟩ := h.wt
    unfold Keeps
    simp only
    omega
  · obtain ⟨x1, y1, e1, ⟨_, _⟩, ⟨_, _⟩, ⟨_, _⟩, ⟨_, _⟩⟩ := h.wt
    obtain ⟨x2, y2, e2, ⟨_, _⟩, ⟨_, _⟩, ⟨_, _⟩, ⟨_, _⟩⟩ := h.wd
    unfold Keeps
    simp only
    omega
  · obtain ⟨x1, y1, e1, ⟨_, _⟩, ⟨_, _⟩, ⟨_, _⟩, ⟨_, _⟩⟩ := h.wd
    obtain ⟨x2, y2, e2, ⟨_, _⟩, ⟨_, _⟩, ⟨_, _⟩, ⟨_, _⟩⟩ := h.wi
    unfold Keeps
    simp only
    omega
  · obtain ⟨x1, y1, e1, ⟨_, _⟩, ⟨_, _⟩, ⟨_, _⟩, ⟨_, _⟩⟩ := h.wa
    obtain ⟨x2, y2, e2, ⟨_, _⟩, ⟨_, _⟩, ⟨_, _⟩, ⟨_, _⟩⟩ := h.wi
    unfold Keeps
    simp only
    omega
  · obtain ⟨x1, y1, e1, ⟨_, _⟩, ⟨_, _⟩, ⟨_, _⟩, ⟨_, _⟩⟩ := h.wa
    obtain ⟨x2, y2, e2, ⟨_, _⟩, ⟨_, _⟩, ⟨_, _⟩, ⟨_, _⟩⟩ := h.ws
    unfold Keeps
    simp only
    omega
  · obtain ⟨x1, y1, e1, ⟨_, _⟩, ⟨_, _⟩, ⟨_, _⟩, ⟨_, _⟩⟩ := h.ws
    obtain ⟨x2, y2, e2, ⟨_, _⟩, ⟨_, _⟩, ⟨_, _⟩, ⟨_, _⟩⟩ := h.wc
    unfold Keeps
    simp only
    omega
  · obtain ⟨x1, y1, e1, ⟨_, _⟩, ⟨_, _⟩, ⟨_, _⟩, ⟨_, _⟩⟩ := h.wc
    obtain ⟨x2, y2, e2, ⟨_, _⟩, ⟨_, _⟩, ⟨_, _⟩, ⟨_, _⟩⟩ := h.wj
    unfold Keeps
    simp only
    omega

theorem oct_least {a b c d s t i j : Int} {x : Pt} (h : Keeps a b c d s t i j x) (u v k : Int) : ∃ y, y ∈ octL a b c d s t i j ∧ af u v k y ≤ af u v k x := by
  obtain ⟨⟨h1, h2⟩, ⟨h3, h4⟩, ⟨h5, h6⟩, ⟨h7, h8⟩⟩ := h
  by_cases hu : 0 ≤ u
  · by_cases hv : 0 ≤ v
    · by_cases hc : v ≤ u
      · refine ⟨(a, s - a), by simp [octL], ?_⟩
        have p1 := Int.mul_nonneg (show 0 ≤ u - v by omega) (show 0 ≤ x.1 - a by omega)
        have p2 := Int.mul_nonneg hv (show 0 ≤ x.1 + x.2 - s by omega)
        have e : af u v k x - af u v k (a, s - a) = (u - v) * (x.1 - a) + v * (x.1 + x.2 - s) := by unfold af; grind
        omega
      · refine ⟨(s - c, c), by simp [octL], ?_⟩
        have p1 := Int.mul_nonneg (show 0 ≤ v - u by omega) (show 0 ≤ x.2 - c by omega)
        have p2 := Int.mul_nonneg hu (show 0 ≤ x.1 + x.2 - s by omega)
        have e : af u v k x - af u v k (s - c, c) = (v - u) * (x.2 - c) + u * (x.1 + x.2 - s) := by unfold af; grind
        omega
    · by_cases hc : -v ≤ u
      · refine ⟨(a, a - i), by simp [octL], ?_⟩
        have p1 := Int.mul_nonneg (show 0 ≤ u + v by omega) (show 0 ≤ x.1 - a by omega)
        have p2 := Int.mul_nonneg (show 0 ≤ -v by omega) (show 0 ≤ x.1 - x.2 - i by omega)
        have e : af u v k x - af u v k (a, a - i) = (u + v) * (x.1 - a) + (-v) * (x.1 - x.2 - i) := by unfold af; grind
        omega
      · refine ⟨(d + i, d), by simp [octL], ?_⟩
        have p1 := Int.mul_nonneg (show 0 ≤ -(u + v) by omega) (show 0 ≤ d - x.2 by omega)
        have p2 := Int.mul_nonneg hu (show 0 ≤ x.1 - x.2 - i by omega)
        have e : af u v k x - af u v k (d + i, d) = (-(u + v)) * (d - x.2) + u * (x.1 - x.2 - i) := by unfold af; grind
        omega
  · by_cases hv : 0 ≤ v
    · by_cases hc : v ≤ -u
      · refine ⟨(b, b - j), by simp [octL], ?_⟩
        have p1 := Int.mul_nonneg (show 0 ≤ -(u + v) by omega) (show 0 ≤ b - x.1 by omega)
        have p2 := Int.mul_nonneg hv (show 0 ≤ j - (x.1 - x.2) by omega)
        have e : af u v k x - af u v k (b, b - j) = (-(u + v)) * (b - x.1) + v * (j - (x.1 - x.2)) := by unfold af; grind
        omega
      · refine ⟨(c + j, c), by simp [octL], ?_⟩
        have p1 := Int.mul_nonneg (show 0 ≤ u + v by omega) (show 0 ≤ x.2 - c by omega)
        have p2 := Int.mul_nonneg (show 0 ≤ -u by omega) (show 0 ≤ j - (x.1 - x.2) by omega)
        have e : af u v k x - af u v k (c + j, c) = (u + v) * (x.2 - c) + (-u) * (j - (x.1 - x.2)) := by unfold af; grind
        omega
    · by_cases hc : -v ≤ -u
      · refine ⟨(b, t - b), by simp [octL], ?_⟩
        have p1 := Int.mul_nonneg (show 0 ≤ -(u - v) by omega) (show 0 ≤ b - x.1 by omega)
        have p2 := Int.mul_nonneg (show 0 ≤ -v by omega) (show 0 ≤ t - (x.1 + x.2) by omega)
        have e : af u v k x - af u v k (b, t - b) = (-(u - v)) * (b - x.1) + (-v) * (t - (x.1 + x.2)) := by unfold af; grind
        omega
      · refine ⟨(t - d, d), by simp [octL], ?_⟩
        have p1 := Int.mul_nonneg (show 0 ≤ -(v - u) by omega) (show 0 ≤ d - x.2 by omega)
        have p2 := Int.mul_nonneg (show 0 ≤ -u by omega) (show 0 ≤ t - (x.1 + x.2) by omega)
        have e : af u v k x - af u v k (t - d, d) = (-(v - u)) * (d - x.2) + (-u) * (t - (x.1 + x.2)) := by unfold af; grind
        omega

/-- The bounds of points belong together, and the points keep them. -/
theorem bd_of {p : List Pt} {a b c d s t i j : Int} (h1 : IsMin p 1 0 a) (h2 : IsMin p (-1) 0 (-b)) (h3 : IsMin p 0 1 c) (h4 : IsMin p 0 (-1) (-d)) (h5 : IsMin p 1 1 s) (h6 : IsMin p (-1) (-1) (-t)) (h7 : IsMin p 1 (-1) i) (h8 : IsMin p (-1) 1 (-j)) : Bd a b c d s t i j ∧ ∀ x, x ∈ p → Keeps a b c d s t i j x := by
  have K : ∀ x, x ∈ p → Keeps a b c d s t i j x := by
    intro x hx
    have e1 := h1.2 x hx
    have e2 := h2.2 x hx
    have e3 := h3.2 x hx
    have e4 := h4.2 x hx
    have e5 := h5.2 x hx
    have e6 := h6.2 x hx
    have e7 := h7.2 x hx
    have e8 := h8.2 x hx
    unfold Keeps
    omega
  refine ⟨⟨?_, ?_, ?_, ?_, ?_, ?_, ?_, ?_⟩, K⟩
  · obtain ⟨x, hx, e⟩ := h1.1
    exact ⟨x.1, x.2, by omega, K x hx⟩
  · obtain ⟨x, hx, e⟩ := h2.1
    exact ⟨x.1, x.2, by omega, K x hx⟩
  · obtain ⟨x, hx, e⟩ := h3.1
    exact ⟨x.1, x.2, by omega, K x hx⟩
  · obtain ⟨x, hx, e⟩ := h4.1
    exact ⟨x.1, x.2, by omega, K x hx⟩
  · obtain ⟨x, hx, e⟩ := h5.1
    exact ⟨x.1, x.2, by omega, K x hx⟩
  · obtain ⟨x, hx, e⟩ := h6.1
    exact ⟨x.1, x.2, by omega, K x hx⟩
  · obtain ⟨x, hx, e⟩ := h7.1
    exact ⟨x.1, x.2, by omega, K x hx⟩
  · obtain ⟨x, hx, e⟩ := h8.1
    exact ⟨x.1, x.2, by omega, K x hx⟩

/-- A bound that the polygon's points keep, and one of them meets, is the polygon's. -/
theorem min_hull {L q : List Pt} {u v m : Int} (hq : IsHull L q) (hlo : ∀ x, x ∈ L → m ≤ u * x.1 + v * x.2) (hat : ∃ x, x ∈ L ∧ u * x.1 + v * x.2 = m) : IsMin q u v m := by
  obtain ⟨x, hx, e⟩ := hat
  obtain ⟨k, hk, hle⟩ := hs_least hq.1 (hq.2.2 x hx) u v 0
  have hlo' : ∀ y, y ∈ q → m ≤ u * y.1 + v * y.2 := fun y hy => hlo y (hq.2.1 y hy)
  refine ⟨⟨at' q k, at_mem hk, ?_⟩, hlo'⟩
  have := hlo' _ (at_mem hk)
  unfold af at hle
  omega
theorem oct_min {a b c d s t i j : Int} (B : Bd a b c d s t i j) {q : List Pt} (hq : IsHull (octL a b c d s t i j) q) : IsMin q 1 0 a ∧ IsMin q (-1) 0 (-b) ∧ IsMin q 0 1 c ∧ IsMin q 0 (-1) (-d) ∧ IsMin q 1 1 s ∧ IsMin q (-1) (-1) (-t) ∧ IsMin q 1 (-1) i ∧ IsMin q (-1) 1 (-j) := by
  have K := oct_keeps B
  refine ⟨?_, ?_, ?_, ?_, ?_, ?_, ?_, ?_⟩
  · exact min_hull hq (fun x hx => by have := K x hx; unfold Keeps at this; omega) ⟨(a, a - i), by simp [octL], by simp; try omega⟩
  · exact min_hull hq (fun x hx => by have := K x hx; unfold Keeps at this; omega) ⟨(b, b - j), by simp [octL], by simp; try omega⟩
  · exact min_hull hq (fun x hx => by have := K x hx; unfold Keeps at this; omega) ⟨(s - c, c), by simp [octL], by simp; try omega⟩
  · exact min_hull hq (fun x hx => by have := K x hx; unfold Keeps at this; omega) ⟨(t - d, d), by simp [octL], by simp; try omega⟩
  · exact min_hull hq (fun x hx => by have := K x hx; unfold Keeps at this; omega) ⟨(a, s - a), by simp [octL], by simp; try omega⟩
  · exact min_hull hq (fun x hx => by have := K x hx; unfold Keeps at this; omega) ⟨(b, t - b), by simp [octL], by simp; try omega⟩
  · exact min_hull hq (fun x hx => by have := K x hx; unfold Keeps at this; omega) ⟨(d + i, d), by simp [octL], by simp; try omega⟩
  · exact min_hull hq (fun x hx => by have := K x hx; unfold Keeps at this; omega) ⟨(b, b - j), by simp [octL], by simp; try omega⟩

theorem oct_facts {p q : List Pt} (hp : Vl p) (h : IsOct p q) : Vl q ∧ q.length ≤ 8 ∧ (∀ r, IsOct q r → r = q) ∧ (∀ x, Hs p x → Hs q x) ∧ (∀ lo hi lo' hi', IsBox p lo hi → IsBox q lo' hi' → lo' = lo ∧ hi' = hi) := by
  obtain ⟨a, b, c, d, s, t, i, j, h1, h2, h3, h4, h5, h6, h7, h8, hq⟩ := h
  obtain ⟨B, K⟩ := bd_of h1 h2 h3 h4 h5 h6 h7 h8
  obtain ⟨m1, m2, m3, m4, m5, m6, m7, m8⟩ := oct_min B hq
  have O := oct_keeps B
  have hn : q.length ≤ 8 := count_le (at' q) q.length (octL a b c d s t i j) (fun i j hi hj hne => pg_distinct hq.1 hi hj hne) (fun i hi => hq.2.1 _ (at_mem hi))
  have hpl : Plcs q := fun n hn => by
    have hk := O _ (hq.2.1 _ (at_mem hn))
    obtain ⟨y1, g1, e1⟩ := h1.1
    obtain ⟨y2, g2, e2⟩ := h2.1
    obtain ⟨y3, g3, e3⟩ := h3.1
    obtain ⟨y4, g4, e4⟩ := h4.1
    obtain ⟨n1, l1, r1⟩ := mem_at g1
    obtain ⟨n2, l2, r2⟩ := mem_at g2
    obtain ⟨n3, l3, r3⟩ := mem_at g3
    obtain ⟨n4, l4, r4⟩ := mem_at g4
    have p1 := hp.2.1 n1 l1
    have p2 := hp.2.1 n2 l2
    have p3 := hp.2.1 n3 l3
    have p4 := hp.2.1 n4 l4
    rw [r1] at p1
    rw [r2] at p2
    rw [r3] at p3
    rw [r4] at p4
    unfold Keeps at hk
    unfold Plc at p1 p2 p3 p4 ⊢
    omega
  refine ⟨vl_of hq.1 (by omega) hpl, hn, ?_, ?_, ?_⟩
  · intro r ⟨a', b', c', d', s', t', i', j', k1, k2, k3, k4, k5, k6, k7, k8, hr⟩
    obtain rfl := k1.one m1
    obtain rfl : b' = b := by have := k2.one m2; omega
    obtain rfl := k3.one m3
    obtain rfl : d' = d := by have := k4.one m4; omega
    obtain rfl := k5.one m5
    obtain rfl : t' = t := by have := k6.one m6; omega
    obtain rfl := k7.one m7
    obtain rfl : j' = j := by have := k8.one m8; omega
    exact hull_unique hr hq
  · intro x hx
    have hk : Keeps a b c d s t i j x := by
      have g : ∀ u v m, IsMin p u v m → m ≤ u * x.1 + v * x.2 := by
        intro u v m hm
        obtain ⟨n, hn, hle⟩ := hs_least hp.pg hx u v 0
        have := hm.2 _ (at_mem hn)
        unfold af at hle
        omega
      have e1 := g _ _ _ h1
      have e2 := g _ _ _ h2
      have e3 := g _ _ _ h3
      have e4 := g _ _ _ h4
      have e5 := g _ _ _ h5
      have e6 := g _ _ _ h6
      have e7 := g _ _ _ h7
      have e8 := g _ _ _ h8
      unfold Keeps
      omega
    exact hs_of_least _ hq.1 hq.2.2 (oct_least hk)
  · intro lo hi lo' hi' ⟨p1, p2, p3, p4⟩ ⟨q1, q2, q3, q4⟩
    have e1 := p1.one h1
    have e2 := p2.one h2
    have e3 := p3.one h3
    have e4 := p4.one h4
    have f1 := q1.one m1
    have f2 := q2.one m2
    have f3 := q3.one m3
    have f4 := q4.one m4
    exact ⟨Prod.ext (by omega) (by omega), Prod.ext (by omega) (by omega)⟩
theorem box_has {p : List Pt} {lo hi x : Pt} (hp : Pg p) (h : IsBox p lo hi) (hx : Hs p x) : lo.1 ≤ x.1 ∧ x.1 ≤ hi.1 ∧ lo.2 ≤ x.2 ∧ x.2 ≤ hi.2 := by
  obtain ⟨p1, p2, p3, p4⟩ := h
  have g : ∀ u v m, IsMin p u v m → m ≤ u * x.1 + v * x.2 := by
    intro u v m hm
    obtain ⟨n, hn, hle⟩ := hs_least hp hx u v 0
    have := hm.2 _ (at_mem hn)
    unfold af at hle
    omega
  have e1 := g _ _ _ p1
  have e2 := g _ _ _ p2
  have e3 := g _ _ _ p3
  have e4 := g _ _ _ p4
  omega
end Hl
end Go.Proofs.YtlookcbokhknfaaGreat
