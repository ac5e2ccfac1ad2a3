/-
  Without a program: what is joined over slots, rows and columns; slots without flows.
-/
import Derived.Test.YtpiajdahmcelnaaGreatMTdZb
import Derived.Test.YtpiajdahmcelnaaGreatMTdLst
namespace Go.Proofs.YtpiajdahmcelnaaGreat
open Go.RowKit Hl
namespace Td
theorem hd_out {t : Ed} (h : Tok t) {x y q : Int} (hq : q < 0 ∨ t.n ≤ q) : Hd t x y q = t.r.k := by
  refine hd_none fun i hi e => ?_
  have := (h.2.2.2.2.2.2.1 i hi).2.2.2
  omega
theorem ov_clamp {t : Ed} (h : Tok t) {X X' Y Y' S S' : Int} (hX : X ≤ X') (hY : Y ≤ Y') (hS : S ≤ S') : Ov t X X' Y Y' S S' = Ov t X X' Y Y' (min (max (-1) S) t.n) (max (min t.n S') (-1)) := by
  have hn := h.2.2.1
  have hf : min (max (-1) S) t.n ≤ max (min t.n S') (-1) := by omega
  refine Ov_is ((Ov_lst t hX hY hf).of_iff fun c => ⟨?_, ?_⟩)
  · rintro ⟨x, y, q, hb, rfl⟩
    unfold Bx at hb
    by_cases h1 : S ≤ q
    · by_cases h2 : q ≤ S'
      · exact ⟨x, y, q, by unfold Bx; omega, rfl⟩
      · refine ⟨x, y, S', by unfold Bx; omega, ?_⟩
        rw [hd_out h (by omega), hd_out h (by omega)]
    · refine ⟨x, y, S, by unfold Bx; omega, ?_⟩
      rw [hd_out h (by omega), hd_out h (by omega)]
  · rintro ⟨x, y, q, hb, rfl⟩
    unfold Bx at hb
    refine ⟨x, y, min (max (-1) q) t.n, by unfold Bx; omega, ?_⟩
    by_cases e : min (max (-1) q) t.n = q
    · rw [e]
    · rw [hd_out h (by omega), hd_out h (by omega)]
section
variable {t : Ed} {X X' Y Y' S S' : Int} {h0 : Bd}
def Vo (t : Ed) (X X' Y Y' S S' s j i : Int) (c : Bd) : Prop := ∃ x y q, Bx X X' Y Y' S S' x y q ∧ (q < s ∨ (q = s ∧ (y < j ∨ (y = j ∧ x < i)))) ∧ c = Hd t x y q
def Wo (t : Ed) (X X' Y Y' S S' : Int) (h0 k : Bd) (s j i : Int) : Prop := Lst (fun c => c = h0 ∨ Vo t X X' Y Y' S S' s j i c) k
theorem Wo.of {k : Bd} {s j i s' j' i' : Int} (h : Wo t X X' Y Y' S S' h0 k s j i) (e : ∀ x y q, Bx X X' Y Y' S S' x y q → ((q < s ∨ (q = s ∧ (y < j ∨ (y = j ∧ x < i)))) ↔ (q < s' ∨ (q = s' ∧ (y < j' ∨ (y = j' ∧ x < i')))))) : Wo t X X' Y Y' S S' h0 k s' j' i' :=
  Lst.of_iff h fun _ => or_congr Iff.rfl
    ⟨fun ⟨x, y, q, hb, hl, hc⟩ => ⟨x, y, q, hb, (e x y q hb).1 hl, hc⟩, fun ⟨x, y, q, hb, hl, hc⟩ => ⟨x, y, q, hb, (e x y q hb).2 hl, hc⟩⟩
theorem Wo.start : Wo t X X' Y Y' S S' h0 h0 S Y X := (Lst.one h0).of_iff fun c => ⟨Or.inl, fun g => g.elim id fun ⟨x, y, q, hb, hl, _⟩ => by
  unfold Bx at hb
  omega⟩
theorem Wo.row {k : Bd} {s j : Int} (h : Wo t X X' Y Y' S S' h0 k s j (X' + 1)) : Wo t X X' Y Y' S S' h0 k s (j + 1) X := h.of fun x y q hb => by
  unfold Bx at hb
  omega
theorem Wo.page {k : Bd} {s : Int} (h : Wo t X X' Y Y' S S' h0 k s (Y' + 1) X) : Wo t X X' Y Y' S S' h0 k (s + 1) Y X := h.of fun x y q hb => by
  unfold Bx at hb
  omega
theorem Wo.step {k : Bd} {s j i : Int} (h : Wo t X X' Y Y' S S' h0 k s j i) (hb : Bx X X' Y Y' S S' i j s) : Wo t X X' Y Y' S S' h0 (jn k (Hd t i j s)) s j (i + 1) := by
  refine (Lst.add h (Hd t i j s)).of_iff fun c => ?_
  constructor
  · rintro ((e | ⟨x, y, q, hx, hl, rfl⟩) | rfl)
    · exact Or.inl e
    · exact Or.inr ⟨x, y, q, hx, by omega, rfl⟩
    · exact Or.inr ⟨i, j, s, hb, by omega, rfl⟩
  · rintro (e | ⟨x, y, q, hx, hl, rfl⟩)
    · exact Or.inl (Or.inl e)
    · by_cases g : q = s ∧ y = j ∧ x = i
      · obtain ⟨rfl, rfl, rfl⟩ := g
        exact Or.inr rfl
      · exact Or.inl (Or.inr ⟨x, y, q, hx, by omega, rfl⟩)
theorem Wo.done {k : Bd} (h : Wo t X X' Y Y' S S' (Hd t X Y S) k (S' + 1) Y X) (hX : X ≤ X') (hY : Y ≤ Y') (hS : S ≤ S') : Ov t X X' Y Y' S S' = k := by
  refine Ov_is (Lst.of_iff h fun c => ⟨?_, fun ⟨x, y, q, hb, e⟩ => Or.inr ⟨x, y, q, hb, ?_, e⟩⟩)
  · rintro (rfl | ⟨x, y, q, hb, _, e⟩)
    · exact ⟨X, Y, S, by unfold Bx; omega, rfl⟩
    · exact ⟨x, y, q, hb, e⟩
  · unfold Bx at hb
    omega
end
end Td
end Go.Proofs.YtpiajdahmcelnaaGreat
