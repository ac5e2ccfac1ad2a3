/-
  The landed Area.
-/
import Derived.Test.YteglefjnbkocgaaHullCd
import Derived.Test.YteglefjnbkocgaaHullBar
namespace Go.Proofs.Yteglefjnbkocgaa
open Go.RowKit Go.Shelf
attribute [local go_sem] Oper.semAt_some
namespace Hl
def sumA (p : List Pt) (pre : List Nat) : Int := pre.foldl (fun s i => s + cr (at' p 0) (at' p i) (at' p ((i + 1) % p.length))) 0
theorem sumA_snoc (p : List Pt) (pre : List Nat) (i : Nat) : sumA p (pre ++ [i]) = sumA p pre + cr (at' p 0) (at' p i) (at' p ((i + 1) % p.length)) := by
  unfold sumA
  rw [List.foldl_append]
  rfl
theorem cr_small {x y z : Pt} (hx : Plc x) (hy : Plc y) (hz : Plc z) : -2000000000000 ≤ cr x y z ∧ cr x y z ≤ 2000000000000 := by
  obtain ⟨⟨m0, m1⟩, ⟨m2, m3⟩⟩ := cr_bd hx hy hz
  unfold cr
  omega
theorem sumA_bd {p : List Pt} (hp : Plcs p) (n : Nat) : ∀ pre : List Nat, pre.length ≤ n → -2000000000000 * (n : Int) ≤ sumA p pre ∧ sumA p pre ≤ 2000000000000 * (n : Int) := by
  induction n with
  | zero =>
    intro pre h
    obtain rfl : pre = [] := List.length_eq_zero_iff.1 (by omega)
    exact ⟨Int.le_refl _, Int.le_refl _⟩
  | succ n ih =>
    intro pre h
    rcases List.eq_nil_or_concat pre with rfl | ⟨a, i, rfl⟩
    · have e : sumA p [] = 0 := rfl
      rw [e]
      omega
    · rw [List.concat_eq_append] at h ⊢
      rw [sumA_snoc]
      have h1 := ih a (by simp at h; omega)
      have h2 := cr_small (at_plc hp 0) (at_plc hp i) (at_plc hp ((i + 1) % p.length))
      omega
theorem sumA_sum (p : List Pt) : ∀ k, sumA p (List.range k) = sumN (fun i => cr (at' p i) (at' p ((i + 1) % p.length)) (at' p 0)) k
  | 0 => rfl
  | k + 1 => by
    rw [List.range_succ, sumA_snoc, sumA_sum p k, cr_rot]
    rfl
theorem sumA_area {p : List Pt} (h1 : 1 ≤ p.length) : sumA p (List.range p.length) = area p.length (at' p) := by
  rw [sumA_sum]
  exact shoelace h1 (at' p) (at' p 0)
theorem Kept.drew {b B : Nat} {X Y : World} (h : Kept b B X Y) : Kept b B X Y.drew := h

end Hl
end Go.Proofs.Yteglefjnbkocgaa
