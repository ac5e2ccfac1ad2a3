/-
  The examples of layer 13, without a program.
-/
import Derived.Test.YtpiajdahmcelnaaGreatMTdL
namespace Go.Proofs.YtpiajdahmcelnaaGreat
open Go.RowKit Hl
namespace Td
def exf : Fw := ⟨0, 0, 0, ⟨200, 300, 0, 0, 50, 60⟩⟩
def exr : Bd := ⟨-100, 100, -100, 100, 0, 0⟩
def ex : Ed := ⟨1, 7200, 2, ⟨0, 0, 0, exr⟩, [exf]⟩
theorem ex_tok : Tok ex := by
  refine ⟨by decide, by decide, by decide, by decide, by decide, by decide, fun i hi => ?_, fun i hi => ?_⟩
  · have : i < 1 := hi
    obtain rfl : i = 0 := by omega
    decide
  · have : i + 1 < 1 := hi
    omega
theorem ex_hd (x y s : Int) : Hd ex x y s = if x = 0 ∧ y = 0 ∧ s = 0 then exf.k else exr := by
  unfold Hd hd fnd
  by_cases h : x = 0 ∧ y = 0 ∧ s = 0
  · rw [if_pos h]
    obtain ⟨rfl, rfl, rfl⟩ := h
    rfl
  · rw [if_neg h]
    have e : hit x y s exf = false := by
      unfold hit
      rw [decide_eq_false_iff_not]
      intro k
      exact h ⟨k.1.symm, k.2.1.symm, k.2.2.symm⟩
    show ((([exf] : List Fw).find? (hit x y s)).map (·.k)).getD exr = exr
    rw [List.find?_cons_of_neg (by rw [e]; decide)]
    rfl
theorem ex_b1 : BOk ex (5, 5) (9999, 9) 7200 7300 := ⟨ex_tok, by decide, by decide⟩
theorem ex_o1 : OvB ex (5, 5) (9999, 9) 7200 7300 = exf.k := by
  show Ov ex 0 0 0 0 0 0 = _
  rw [Ov_one, ex_hd, if_pos ⟨rfl, rfl, rfl⟩]
theorem ex_b2 : BOk ex (-1, 5) (3, 9) 7200 10799 := ⟨ex_tok, by decide, by decide⟩
theorem ex_o2 : OvB ex (-1, 5) (3, 9) 7200 10799 = ⟨-100, 300, -100, 100, 0, 60⟩ := by
  show Ov ex (-1) 0 0 0 0 0 = _
  refine Ov_is (((Lst.one exr).add exf.k).of_iff fun c => ⟨?_, ?_⟩)
  · rintro (rfl | rfl)
    · exact ⟨-1, 0, 0, by unfold Bx; omega, by rw [ex_hd, if_neg (by omega)]⟩
    · exact ⟨0, 0, 0, by unfold Bx; omega, by rw [ex_hd, if_pos ⟨rfl, rfl, rfl⟩]⟩
  · rintro ⟨x, y, s, hb, rfl⟩
    rw [ex_hd]
    split
    · exact Or.inr rfl
    · exact Or.inl rfl
theorem ex_b3 : BOk ex (5, 5) (5, 5) 10800 10800 := ⟨ex_tok, by decide, by decide⟩
theorem ex_o3 : OvB ex (5, 5) (5, 5) 10800 10800 = exr := by
  show Ov ex 0 0 0 0 1 1 = _
  rw [Ov_one, ex_hd, if_neg (by omega)]
theorem ex_b4 : BOk ex (5, 5) (5, 5) 10799 10799 := ⟨ex_tok, by decide, by decide⟩
theorem ex_o4 : OvB ex (5, 5) (5, 5) 10799 10799 = exf.k := by
  show Ov ex 0 0 0 0 0 0 = _
  rw [Ov_one, ex_hd, if_pos ⟨rfl, rfl, rfl⟩]
theorem ex_b5 : ¬ BOk ex (2, 0) (1, 0) 0 1 := fun h => absurd h.2.1 (by decide)
theorem ex_b6 : BOk ex (0, 0) (0, 0) 0 100001 := ⟨ex_tok, by decide, by decide⟩
theorem ex_drl : drl exf.k (7300 - 7200) = [(200, 0), (300, 0), (300, 0), (200, 0)] := by decide
theorem ex_plcs : Plcs (drl exf.k (7300 - 7200)) := by
  rw [ex_drl]
  intro i hi
  have : i < 4 := hi
  have h : ∀ j : Fin 4, Plc (at' [(200, 0), (300, 0), (300, 0), (200, 0)] j) := by decide
  exact h ⟨i, this⟩
theorem ex_hull {q : List Pt} (h : IsHull (drl exf.k (7300 - 7200)) q) : q = [(200, 0), (300, 0)] := by
  rw [ex_drl] at h
  refine hull_unique h ⟨⟨by decide, fun i h1 h2 => ?_, fun h => absurd h (by decide)⟩, fun x hx => ?_, fun x hx => ?_⟩
  · obtain rfl : i = 1 := by have h2 : i < 2 := h2; omega
    exact Or.inl (by decide)
  · simp only [List.mem_cons, List.mem_nil_iff, or_false] at hx ⊢
    rcases hx with rfl | rfl <;> simp
  · simp only [List.mem_cons, List.mem_nil_iff, or_false] at hx
    refine (hs2 rfl).2 ?_
    rcases hx with rfl | rfl | rfl | rfl
    · exact ⟨by decide, by unfold btw; decide⟩
    · exact ⟨by decide, by unfold btw; decide⟩
    · exact ⟨by decide, by unfold btw; decide⟩
    · exact ⟨by decide, by unfold btw; decide⟩
theorem zero_tok : ¬ Tok ⟨0, 0, 0, f0, []⟩ := fun h => absurd h.1 (by decide)
end Td
end Go.Proofs.YtpiajdahmcelnaaGreat
