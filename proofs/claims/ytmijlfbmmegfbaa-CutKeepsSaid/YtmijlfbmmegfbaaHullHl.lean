/-
  Plain geometry: corners of a hull are its own.
-/
import Derived.Test.YtmijlfbmmegfbaaHullOct
namespace Go.Proofs.Ytmijlfbmmegfbaa
namespace Hl
theorem hull_plcs {l q : List Pt} (h : IsHull l q) (hp : Plcs l) : Plcs q := fun i hi => by
  obtain ⟨j, hj, e⟩ := mem_at (h.2.1 _ (at_mem hi))
  rw [← e]; exact hp j hj
theorem hs_corner {p : List Pt} (h : Pg p) {i : Nat} (hi : i < p.length) : Hs p (at' p i) := by
  by_cases h1 : p.length = 1
  · obtain rfl : i = 0 := by omega
    exact (hs1 h1).2 rfl
  · by_cases h2 : p.length = 2
    · rw [hs2 h2]
      by_cases e : i = 0
      · subst e; exact ⟨cr_self _ _, by unfold btw; omega⟩
      · obtain rfl : i = 1 := by omega
        exact ⟨cr_self' _ _, by unfold btw; omega⟩
    · have h3 : 3 ≤ p.length := by have := h.1; omega
      rw [hs3 h3]
      intro j hj
      by_cases e1 : i = j
      · rw [e1, cr_self]; exact Int.le_refl _
      · by_cases e2 : i = (j + 1) % p.length
        · rw [← e2, cr_self']; exact Int.le_refl _
        · exact Int.le_of_lt (h.2.2 (by omega) j i hj hi e1 e2)
theorem hull_self {q : List Pt} (h : Pg q) : IsHull q q := ⟨h, fun _ hx => hx, fun x hx => by
  obtain ⟨i, hi, e⟩ := mem_at hx
  rw [← e]; exact hs_corner h hi⟩
end Hl
end Go.Proofs.Ytmijlfbmmegfbaa
