/-
  Plain geometry: the sum of two eight-sided hulls is the eight-sided hull of the sum. No program.
-/
import Derived.Test.YteglefjnbkocgaaMinkOne
import Derived.Test.YteglefjnbkocgaaMinkMrg
namespace Go.Proofs.Yteglefjnbkocgaa
open Hl
namespace Mk
theorem up_to (g : Nat → Int) : ∀ n : Nat, ∃ N : Int, 0 ≤ N ∧ ∀ l, l < n → g l ≤ N
  | 0 => ⟨0, by omega, fun l h => by omega⟩
  | n + 1 => by
    obtain ⟨N, h0, h⟩ := up_to g n
    by_cases c : g n ≤ N
    · exact ⟨N, h0, fun l hl => by
        rcases (show l < n ∨ l = n by omega) with h1 | rfl
        · exact h l h1
        · exact c⟩
    · exact ⟨g n, by omega, fun l hl => by
        rcases (show l < n ∨ l = n by omega) with h1 | rfl
        · have := h l h1
          omega
        · omega⟩
/-- Where a corner alone is least, no other point of the polygon is as low. -/
theorem hs_strict {t : List Pt} (ht : Pg t) {i : Nat} {u v k : Int} (hst : ∀ j, j < t.length → j ≠ i → af u v k (at' t i) < af u v k (at' t j)) {y : Pt} (hy : Hs t y) (hle : af u v k y ≤ af u v k (at' t i)) : y = at' t i := by
  by_cases hne : y = at' t i
  · exact hne
  · exfalso
    obtain ⟨x, hx⟩ : ∃ x, at' t i = x := ⟨_, rfl⟩
    rw [hx] at hst hle hne
    obtain ⟨a, ha⟩ : ∃ a, x.1 - y.1 = a := ⟨_, rfl⟩
    obtain ⟨b, hb⟩ : ∃ b, x.2 - y.2 = b := ⟨_, rfl⟩
    have pos : 0 < a * a + b * b := by
      by_cases ea : a = 0
      · have eb : b ≠ 0 := fun eb => hne (Prod.ext (by omega) (by omega))
        have := sq_pos eb
        have := sq_nonneg a
        omega
      · have := sq_pos ea
        have := sq_nonneg b
        omega
    have dif : (a * x.1 + b * x.2) - (a * y.1 + b * y.2) = a * a + b * b := by
      rw [← ha, ← hb]
      grind
    obtain ⟨N, N0, hN⟩ := up_to (fun l => (a * x.1 + b * x.2) - (a * (at' t l).1 + b * (at' t l).2)) t.length
    obtain ⟨l, hl, e⟩ := hs_least ht hy (N * u + a) (N * v + b) 0
    have hNl := hN l hl
    unfold af at hst hle e
    have e1 : ∀ z : Pt, (N * u + a) * z.1 + (N * v + b) * z.2 + 0 = N * (u * z.1 + v * z.2) + (a * z.1 + b * z.2) := fun z => by grind
    rw [e1, e1] at e
    by_cases hli : l = i
    · rw [hli, hx] at e
      have := Int.mul_le_mul_of_nonneg_left (show u * y.1 + v * y.2 ≤ u * x.1 + v * x.2 by omega) N0
      omega
    · have h1 := hst l hl hli
      have h2 := Int.mul_le_mul_of_nonneg_left (show u * y.1 + v * y.2 ≤ u * x.1 + v * x.2 by omega) N0
      have h3 := Int.mul_le_mul_of_nonneg_left (show u * x.1 + v * x.2 + 1 ≤ u * (at' t l).1 + v * (at' t l).2 by omega) N0
      rw [Int.mul_add, Int.mul_one] at h3
      omega
theorem octL_split {a b c d s t i j a' b' c' d' s' t' i' j' : Int} {y : Pt} (hy : y ∈ octL (a + a') (b + b') (c + c') (d + d') (s + s') (t + t') (i + i') (j + j')) : ∃ x, x ∈ octL a b c d s t i j ∧ ∃ z, z ∈ octL a' b' c' d' s' t' i' j' ∧ plus x z = y := by
  unfold octL at hy
  simp only [List.mem_cons, List.not_mem_nil, or_false] at hy
  rcases hy with rfl | rfl | rfl | rfl | rfl | rfl | rfl | rfl
  · exact ⟨(b, b - j), by simp [octL], (b', b' - j'), by simp [octL], Prod.ext (by simp only [plus]) (by simp only [plus]; omega)⟩
  · exact ⟨(b, t - b), by simp [octL], (b', t' - b'), by simp [octL], Prod.ext (by simp only [plus]) (by simp only [plus]; omega)⟩
  · exact ⟨(t - d, d), by simp [octL], (t' - d', d'), by simp [octL], Prod.ext (by simp only [plus]; omega) (by simp only [plus])⟩
  · exact ⟨(d + i, d), by simp [octL], (d' + i', d'), by simp [octL], Prod.ext (by simp only [plus]; omega) (by simp only [plus])⟩
  · exact ⟨(a, a - i), by simp [octL], (a', a' - i'), by simp [octL], Prod.ext (by simp only [plus]) (by simp only [plus]; omega)⟩
  · exact ⟨(a, s - a), by simp [octL], (a', s' - a'), by simp [octL], Prod.ext (by simp only [plus]) (by simp only [plus]; omega)⟩
  · exact ⟨(s - c, c), by simp [octL], (s' - c', c'), by simp [octL], Prod.ext (by simp only [plus]; omega) (by simp only [plus])⟩
  · exact ⟨(c + j, c), by simp [octL], (c' + j', c'), by simp [octL], Prod.ext (by simp only [plus]; omega) (by simp only [plus])⟩
theorem keeps_plus {a b c d s t i j a' b' c' d' s' t' i' j' : Int} {x z : Pt} (h : Keeps a b c d s t i j x) (h' : Keeps a' b' c' d' s' t' i' j' z) : Keeps (a + a') (b + b') (c + c') (d + d') (s + s') (t + t') (i + i') (j + j') (plus x z) := by
  unfold Keeps plus at *
  simp only
  omega
theorem oct_sum {p q p8 q8 s r : List Pt} (hp : IsOct p p8) (hq : IsOct q q8) (hs : IsHull (sums p q) s) (hr : IsHull (sums p8 q8) r) : IsOct s r := by
  obtain ⟨a, b, c, d, m, n, i, j, h1, h2, h3, h4, h5, h6, h7, h8, hp8⟩ := hp
  obtain ⟨a', b', c', d', m', n', i', j', g1, g2, g3, g4, g5, g6, g7, g8, hq8⟩ := hq
  have neg2 : ∀ x y : Int, -x + -y = -(x + y) := fun x y => by omega
  refine ⟨a + a', b + b', c + c', d + d', m + m', n + n', i + i', j + j', min_sum hs h1 g1, by rw [← neg2]; exact min_sum hs h2 g2, min_sum hs h3 g3, by rw [← neg2]; exact min_sum hs h4 g4, min_sum hs h5 g5, by rw [← neg2]; exact min_sum hs h6 g6, min_sum hs h7 g7, by rw [← neg2]; exact min_sum hs h8 g8, ?_⟩
  have O := oct_keeps (bd_of h1 h2 h3 h4 h5 h6 h7 h8).1
  have O' := oct_keeps (bd_of g1 g2 g3 g4 g5 g6 g7 g8).1
  have all : ∀ y, y ∈ octL (a + a') (b + b') (c + c') (d + d') (m + m') (n + n') (i + i') (j + j') → Hs r y := fun y hy => by
    obtain ⟨x, hx, z, hz, rfl⟩ := octL_split hy
    exact sum_has hp8.1 hq8.1 hr (hp8.2.2 x hx) (hq8.2.2 z hz)
  refine ⟨hr.1, fun x hx => ?_, all⟩
  obtain ⟨l, hl, rfl⟩ := mem_at hx
  obtain ⟨u, v, k, hst⟩ := corner_strict hr.1 hl
  obtain ⟨x1, hx1, x2, hx2, e⟩ := mem_sums.1 (hr.2.1 _ hx)
  have K := keeps_plus (O x1 (hp8.2.1 _ hx1)) (O' x2 (hq8.2.1 _ hx2))
  rw [e] at K
  obtain ⟨y, hy, hle⟩ := oct_least K u v k
  rw [← hs_strict hr.1 hst (all y hy) hle]
  exact hy
theorem oct_plcs {s r : List Pt} (h : IsOct s r) : Plcs s ↔ Plcs r := by
  obtain ⟨a, b, c, d, m, n, i, j, h1, h2, h3, h4, h5, h6, h7, h8, hr⟩ := h
  obtain ⟨B, K⟩ := bd_of h1 h2 h3 h4 h5 h6 h7 h8
  obtain ⟨m1, m2, m3, m4, _⟩ := oct_min B hr
  have key : ∀ {x y : List Pt}, IsMin x 1 0 a → IsMin x (-1) 0 (-b) → IsMin x 0 1 c → IsMin x 0 (-1) (-d) → IsMin y 1 0 a → IsMin y (-1) 0 (-b) → IsMin y 0 1 c → IsMin y 0 (-1) (-d) → Plcs x → Plcs y := fun {x y} h1 h2 h3 h4 k1 k2 k3 k4 hx l hl => by
    obtain ⟨y1, g1, e1⟩ := h1.1
    obtain ⟨y2, g2, e2⟩ := h2.1
    obtain ⟨y3, g3, e3⟩ := h3.1
    obtain ⟨y4, g4, e4⟩ := h4.1
    obtain ⟨n1, l1, r1⟩ := mem_at g1
    obtain ⟨n2, l2, r2⟩ := mem_at g2
    obtain ⟨n3, l3, r3⟩ := mem_at g3
    obtain ⟨n4, l4, r4⟩ := mem_at g4
    have p1 := hx n1 l1
    have p2 := hx n2 l2
    have p3 := hx n3 l3
    have p4 := hx n4 l4
    rw [r1] at p1
    rw [r2] at p2
    rw [r3] at p3
    rw [r4] at p4
    have q1 := k1.2 _ (at_mem hl)
    have q2 := k2.2 _ (at_mem hl)
    have q3 := k3.2 _ (at_mem hl)
    have q4 := k4.2 _ (at_mem hl)
    unfold Plc at p1 p2 p3 p4 ⊢
    omega
  exact ⟨key h1 h2 h3 h4 m1 m2 m3 m4, key m1 m2 m3 m4 h1 h2 h3 h4⟩
end Mk
end Go.Proofs.Yteglefjnbkocgaa
