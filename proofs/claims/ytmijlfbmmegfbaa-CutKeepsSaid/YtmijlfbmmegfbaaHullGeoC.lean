/-
  Plain geometry: areas, and places in the middle. No Go, no program.
-/
import Derived.Test.YtmijlfbmmegfbaaHullGeoB
namespace Go.Proofs.Ytmijlfbmmegfbaa
namespace Hl

def sumN (g : Nat → Int) : Nat → Int
  | 0 => 0
  | n + 1 => sumN g n + g n
theorem sumN_congr {g h : Nat → Int} : ∀ n, (∀ i, i < n → g i = h i) → sumN g n = sumN h n
  | 0, _ => rfl
  | n + 1, e => by
    show sumN g n + g n = sumN h n + h n
    rw [sumN_congr n (fun i hi => e i (by omega)), e n (by omega)]
theorem sumN_le {g h : Nat → Int} : ∀ n, (∀ i, i < n → g i ≤ h i) → sumN g n ≤ sumN h n
  | 0, _ => Int.le_refl _
  | n + 1, e => by
    show sumN g n + g n ≤ sumN h n + h n
    have := sumN_le n (fun i hi => e i (by omega))
    have := e n (by omega)
    omega
theorem sumN_lt {g h : Nat → Int} : ∀ n, (∀ i, i < n → g i ≤ h i) → (∃ i, i < n ∧ g i < h i) → sumN g n < sumN h n
  | 0, _, k => by obtain ⟨i, hi, _⟩ := k; omega
  | n + 1, e, k => by
    show sumN g n + g n < sumN h n + h n
    obtain ⟨i, hi, hl⟩ := k
    have a := sumN_le n (fun i hi => e i (by omega))
    have b := e n (by omega)
    by_cases c : i = n
    · rw [c] at hl; omega
    · have := sumN_lt n (fun i hi => e i (by omega)) ⟨i, by omega, hl⟩
      omega

/-- Twice the area of a polygon. -/
def area (n : Nat) (P : Nat → Pt) : Int := sumN (fun i => cr (P 0) (P (i + 1)) (P (i + 2))) (n - 2)
theorem fan (P : Nat → Pt) (x : Pt) (m : Nat) : sumN (fun i => cr (P i) (P (i + 1)) x) m + cr (P m) (P 0) x = sumN (fun i => cr (P 0) (P (i + 1)) (P (i + 2))) (m - 1) := by
  induction m with
  | zero => show 0 + cr (P 0) (P 0) x = 0; rw [cr_same]; rfl
  | succ m ih =>
    show sumN (fun i => cr (P i) (P (i + 1)) x) m + cr (P m) (P (m + 1)) x + cr (P (m + 1)) (P 0) x = sumN (fun i => cr (P 0) (P (i + 1)) (P (i + 2))) m
    by_cases h0 : m = 0
    · subst h0
      show 0 + cr (P 0) (P 1) x + cr (P 1) (P 0) x = 0
      unfold cr; grind
    · obtain ⟨k, rfl⟩ : ∃ k, m = k + 1 := ⟨m - 1, by omega⟩
      rw [Nat.add_sub_cancel] at ih
      show _ = sumN (fun i => cr (P 0) (P (i + 1)) (P (i + 2))) k + cr (P 0) (P (k + 1)) (P (k + 2))
      rw [← ih]
      have : cr (P (k + 1)) (P (k + 1 + 1)) x + cr (P (k + 1 + 1)) (P 0) x = cr (P (k + 1)) (P 0) x + cr (P 0) (P (k + 1)) (P (k + 2)) := by unfold cr; grind
      omega
/-- The triangles of any place with all sides, each with its sign, have the area together. -/
theorem shoelace {n : Nat} (hn : 1 ≤ n) (P : Nat → Pt) (x : Pt) : sumN (fun i => cr (P i) (P ((i + 1) % n)) x) n = area n P := by
  obtain ⟨m, rfl⟩ : ∃ m, n = m + 1 := ⟨n - 1, by omega⟩
  have h := fan P x m
  show sumN (fun i => cr (P i) (P ((i + 1) % (m + 1))) x) m + cr (P m) (P ((m + 1) % (m + 1))) x = _
  rw [Nat.mod_self, sumN_congr (h := fun i => cr (P i) (P (i + 1)) x) m (fun i hi => by rw [Nat.mod_eq_of_lt (by omega)]), h]
  unfold area
  rw [show m + 1 - 2 = m - 1 by omega]
theorem area_pos {n : Nat} {P : Nat → Pt} (h : Cvx n P) (hn : 3 ≤ n) : 0 < area n P := by
  unfold area
  have := sumN_lt (g := fun _ => 0) (h := fun i => cr (P 0) (P (i + 1)) (P (i + 2))) (n - 2) (fun i hi => by
    have := h (i + 1) 0 (by omega) (by omega) (by omega) (by
      by_cases e : i + 1 + 1 = n
      · omega
      · rw [Nat.mod_eq_of_lt (by omega)]; omega)
    rw [Nat.mod_eq_of_lt (by omega)] at this
    show 0 ≤ cr (P 0) (P (i + 1)) (P (i + 2))
    rw [cr_rot]
    exact Int.le_of_lt this) ⟨0, by omega, by
    have := h 1 0 (by omega) (by omega) (by omega) (by rw [Nat.mod_eq_of_lt (by omega)]; omega)
    rw [Nat.mod_eq_of_lt (by omega)] at this
    show 0 < cr (P 0) (P 1) (P 2)
    rw [cr_rot]
    exact this⟩
  have z : ∀ n, sumN (fun _ => 0) n = 0 := by
    intro n
    induction n with
    | zero => rfl
    | succ n ih => show sumN (fun _ => 0) n + 0 = 0; rw [ih]; rfl
  rwa [z] at this
/-- The triangles without their signs: P3.6. -/
theorem area_in {n : Nat} {P : Nat → Pt} (hn : 1 ≤ n) {x : Pt} (h : Ins n P x) : sumN (fun i => ((cr (P i) (P ((i + 1) % n)) x).natAbs : Int)) n = area n P := by
  rw [← shoelace hn P x]
  exact sumN_congr n (fun i hi => by have := h i hi; omega)
theorem area_out {n : Nat} {P : Nat → Pt} (hn : 1 ≤ n) {x : Pt} (h : ¬ Ins n P x) : area n P < sumN (fun i => ((cr (P i) (P ((i + 1) % n)) x).natAbs : Int)) n := by
  rw [← shoelace hn P x]
  refine sumN_lt n (fun i hi => by omega) ?_
  by_cases k : ∃ i, i < n ∧ cr (P i) (P ((i + 1) % n)) x < 0
  · obtain ⟨i, hi, hl⟩ := k
    exact ⟨i, hi, by omega⟩
  · exact absurd (fun i hi => by
      by_cases e : 0 ≤ cr (P i) (P ((i + 1) % n)) x
      · exact e
      · exact absurd ⟨i, hi, by omega⟩ k) h

/-- The middle of two places. -/
theorem cr_mid (a b x y z : Pt) (h1 : 2 * z.1 = x.1 + y.1) (h2 : 2 * z.2 = x.2 + y.2) : 2 * cr a b z = cr a b x + cr a b y := by
  have e : 2 * cr a b z = (b.1 - a.1) * (2 * z.2 - 2 * a.2) - (b.2 - a.2) * (2 * z.1 - 2 * a.1) := by unfold cr; grind
  rw [e, h1, h2]; unfold cr; grind
theorem ins_mid {n : Nat} {P : Nat → Pt} {x y z : Pt} (hx : Ins n P x) (hy : Ins n P y) (h1 : 2 * z.1 = x.1 + y.1) (h2 : 2 * z.2 = x.2 + y.2) : Ins n P z := by
  intro i hi
  have := cr_mid (P i) (P ((i + 1) % n)) x y z h1 h2
  have := hx i hi
  have := hy i hi
  omega
theorem btw_mid {a b x y z : Pt} (hx : btw a b x) (hy : btw a b y) (h1 : 2 * z.1 = x.1 + y.1) (h2 : 2 * z.2 = x.2 + y.2) : btw a b z := by
  unfold btw at *; omega
/-- P3.4. -/
theorem hs_mid {p : List Pt} {x y z : Pt} (hx : Hs p x) (hy : Hs p y) (h1 : 2 * z.1 = x.1 + y.1) (h2 : 2 * z.2 = x.2 + y.2) : Hs p z := by
  unfold Hs at *
  by_cases a : p.length = 1
  · rw [if_pos a] at *
    rw [← hx] at h1 h2
    rw [← hy] at h1 h2
    exact Prod.ext (by omega) (by omega)
  · rw [if_neg a] at *
    by_cases b : p.length = 2
    · rw [if_pos b] at *
      have := cr_mid (at' p 0) (at' p 1) x y z h1 h2
      exact ⟨by omega, btw_mid hx.2 hy.2 h1 h2⟩
    · rw [if_neg b] at *
      exact ins_mid hx hy h1 h2
end Hl
end Go.Proofs.Ytmijlfbmmegfbaa
