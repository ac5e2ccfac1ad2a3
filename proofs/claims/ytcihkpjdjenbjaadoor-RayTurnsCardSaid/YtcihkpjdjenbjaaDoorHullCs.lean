/-
  Plain geometry: the places in their order, pushed one by one, and back again, make the hull.
-/
import Derived.Test.YtcihkpjdjenbjaaDoorHullCr
import Derived.Test.YtcihkpjdjenbjaaDoorHullCe
import Derived.Test.YtcihkpjdjenbjaaDoorHullTwo
import Derived.Test.YtcihkpjdjenbjaaDoorHullRef
namespace Go.Proofs.YtcihkpjdjenbjaaDoor
open Go.RowKit Go.Shelf
namespace Hl
theorem cho_chain (u v k : Int) (q : List Pt) (hinc : ∀ i j, i < j → j < q.length → af u v k (at' q i) < af u v k (at' q j)) : ∀ n, 1 ≤ n → n ≤ q.length → Chain u v k (fun y => ∃ j, j < n ∧ at' q j = y) (cho q n) ∧ at' (cho q n) ((cho q n).length - 1) = at' q (n - 1) := by
  intro n
  induction n with
  | zero => intro h; omega
  | succ n ih =>
    intro _ hn
    have hlast : at' (cho q (n + 1)) ((cho q (n + 1)).length - 1) = at' q (n + 1 - 1) := (pushP_len (at' q n) _ (cho q n) rfl).2.2
    refine ⟨?_, hlast⟩
    by_cases h0 : n = 0
    · subst h0
      have e : cho q (0 + 1) = [at' q 0] := rfl
      have ef : (fun y => ∃ j, j < 0 + 1 ∧ at' q j = y) = (fun y => y = at' q 0) := funext fun y => propext ⟨fun ⟨j, hj, e⟩ => by
        obtain rfl : j = 0 := by omega
        exact e.symm, fun h => ⟨0, by omega, h.symm⟩⟩
      rw [e, ef]
      exact Chain.one
    · obtain ⟨hc, hl⟩ := ih (by omega) (by omega)
      have ef : (fun y => ∃ j, j < n + 1 ∧ at' q j = y) = (fun y => (∃ j, j < n ∧ at' q j = y) ∨ y = at' q n) := funext fun y => propext ⟨fun ⟨j, hj, e⟩ => by
        by_cases ej : j = n
        · subst ej; exact Or.inr e.symm
        · exact Or.inl ⟨j, by omega, e⟩, fun h => by
        rcases h with ⟨j, hj, e⟩ | h
        · exact ⟨j, by omega, e⟩
        · exact ⟨n, by omega, h.symm⟩⟩
      rw [ef]
      refine Pend.pushP _ (cho q n) rfl (hc.pend ?_ ?_)
      · rintro y ⟨j, hj, rfl⟩
        exact hinc j n hj (by omega)
      · rintro y ⟨j, hj, rfl⟩ hle
        rw [hl] at hle ⊢
        by_cases ej : j = n - 1
        · rw [ej]
        · have := hinc j (n - 1) (by omega) (by omega)
          omega
theorem cho_all (u v k : Int) (q : List Pt) (hinc : ∀ i j, i < j → j < q.length → af u v k (at' q i) < af u v k (at' q j)) (h2 : 2 ≤ q.length) :
    Chain u v k (fun y => y ∈ q) (cho q q.length) ∧ at' (cho q q.length) ((cho q q.length).length - 1) = at' q (q.length - 1) ∧ at' (cho q q.length) 0 = at' q 0 ∧ 2 ≤ (cho q q.length).length := by
  obtain ⟨hc, hl⟩ := cho_chain u v k q hinc q.length (by omega) (Nat.le_refl _)
  have ef : (fun y => ∃ j, j < q.length ∧ at' q j = y) = (fun y => y ∈ q) := funext fun y => propext ⟨fun ⟨j, hj, e⟩ => by rw [← e]; exact at_mem hj, fun h => mem_at h⟩
  rw [ef] at hc
  have h0 : at' (cho q q.length) 0 = at' q 0 := by
    obtain ⟨j, hj, e⟩ := mem_at (hc.mem 0 hc.some')
    by_cases ej : j = 0
    · rw [← e, ej]
    · have h1 := hc.low _ (at_mem (show 0 < q.length by omega))
      have h3 := hinc 0 j (by omega) hj
      rw [e] at h3
      omega
  refine ⟨hc, hl, h0, ?_⟩
  have hs := hc.some'
  by_cases h1 : (cho q q.length).length = 1
  · rw [h1, Nat.sub_self, h0] at hl
    have := hinc 0 (q.length - 1) (by omega) (by omega)
    rw [hl] at this
    omega
  · omega
theorem at_rev {q : List Pt} {i : Nat} (h : i < q.length) : at' q.reverse i = at' q (q.length - 1 - i) := by
  unfold at'
  rw [List.getD_eq_getElem?_getD, List.getD_eq_getElem?_getD, List.getElem?_reverse h]
theorem corners_hull {l q : List Pt} (hp : Plcs q) (hs : ∀ i, i + 1 < q.length → ls (at' q i) (at' q (i + 1))) (h2 : 2 ≤ q.length) (hm : ∀ x, x ∈ q ↔ x ∈ l) :
    2 ≤ (cho q q.length).length ∧ 2 ≤ (cho q.reverse q.reverse.length).length ∧ IsHull l ((cho q q.length).take ((cho q q.length).length - 1) ++ (cho q.reverse q.reverse.length).take ((cho q.reverse q.reverse.length).length - 1)) := by
  have inc : ∀ i j, i < j → j < q.length → af 1000001 1 0 (at' q i) < af 1000001 1 0 (at' q j) := inc_all (fun i hi => (ls_steep (hp i (by omega)) (hp (i + 1) hi)).1 (hs i hi))
  obtain ⟨a1, a2, a3, a4⟩ := cho_all 1000001 1 0 q inc h2
  have hrl : q.reverse.length = q.length := List.length_reverse
  obtain ⟨b1, b2, b3, b4⟩ := cho_all (-1000001) (-1) (-0) q.reverse (fun i j hij hj => by
    rw [hrl] at hj
    rw [neg_af, neg_af, at_rev hj, at_rev (by omega)]
    have := inc (q.length - 1 - j) (q.length - 1 - i) (by omega) (by omega)
    omega) (by omega)
  have ef : (fun y => y ∈ q.reverse) = (fun y => y ∈ q) := funext fun y => propext List.mem_reverse
  rw [ef] at b1
  refine ⟨a4, b4, ?_⟩
  obtain ⟨g1, g2, g3⟩ := two_chains a1 b1 a4 b4 (by rw [a2, b3, at_rev (by omega)]; rfl) (by rw [b2, a3, hrl, at_rev (by omega)]; congr 1; omega)
    (fun y z hy hz h => by
      obtain ⟨i, hi, rfl⟩ := mem_at hy
      obtain ⟨j, hj, rfl⟩ := mem_at hz
      exact (ls_steep (hp i hi) (hp j hj)).2 h)
  exact ⟨g1, fun x hx => (hm x).1 (g2 x hx), fun x hx => g3 x ((hm x).2 hx)⟩
theorem one_hull {l q : List Pt} (h1 : q.length = 1) (hm : ∀ x, x ∈ q ↔ x ∈ l) : IsHull l q :=
  ⟨⟨by omega, fun i h h' => by omega, fun h => by omega⟩, fun x hx => (hm x).1 hx, fun x hx => (hs1 h1).2 (by
    obtain ⟨i, hi, e⟩ := mem_at ((hm x).2 hx)
    obtain rfl : i = 0 := by omega
    exact e)⟩
end Hl
end Go.Proofs.YtcihkpjdjenbjaaDoor
