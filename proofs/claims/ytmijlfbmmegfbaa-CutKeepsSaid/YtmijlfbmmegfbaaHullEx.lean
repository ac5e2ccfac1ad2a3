/-
  The examples of chapter 3: what they are as points.
-/
import Derived.Test.YtmijlfbmmegfbaaHullCon
namespace Go.Proofs.Ytmijlfbmmegfbaa
open Go.RowKit
namespace Hl
def l6 : List Pt := [(0, 0), (4, 0), (2, 1), (4, 4), (2, 0), (0, 4)]
def sq : List Pt := [(0, 0), (4, 0), (4, 4), (0, 4)]
def seg : List Pt := [(0, 0), (5, 1)]
def o4 : List Pt := [(0, 0), (4, 0), (5, 1), (1, 1)]
instance (a b : Pt) : Decidable (ls a b) := by unfold ls; infer_instance
/-- A polygon, as a test over all pairs. -/
def pgB (p : List Pt) : Bool := decide (1 ≤ p.length) && decide (∀ i, i < p.length → 1 ≤ i → ls (at' p 0) (at' p i)) && decide (∀ i, i < p.length → ∀ k, k < p.length → k ≠ i → k ≠ (i + 1) % p.length → 0 < cr (at' p i) (at' p ((i + 1) % p.length)) (at' p k))
theorem pg_of {p : List Pt} (h : pgB p = true) : Pg p := by
  unfold pgB at h
  simp only [Bool.and_eq_true, decide_eq_true_eq] at h
  exact ⟨h.1.1, fun i hi hl => h.1.2 i hl hi, fun _ i k hi hk h1 h2 => h.2 i hi k hk h1 h2⟩
def insB (p : List Pt) (x : Pt) : Bool := decide (∀ i, i < p.length → 0 ≤ cr (at' p i) (at' p ((i + 1) % p.length)) x)
theorem hs_of {p : List Pt} {x : Pt} (hp : 3 ≤ p.length) (h : insB p x = true) : Hs p x := (hs3 hp).2 (by
  unfold insB at h
  rw [decide_eq_true_eq] at h
  exact h)
theorem hs_not {p : List Pt} {x : Pt} (hp : 3 ≤ p.length) (h : insB p x = false) : ¬ Hs p x := fun t => by
  have := (hs3 hp).1 t
  unfold insB at h
  rw [decide_eq_false_iff_not] at h
  exact h this
theorem vl_of {p : List Pt} (h : Pg p) (hl : p.length ≤ 64) (hp : Plcs p) : Vl p := ⟨⟨h.1, hl⟩, hp, h.2.1, h.2.2⟩
theorem Vl.pg {p : List Pt} (h : Vl p) : Pg p := ⟨h.1.1, h.2.2.1, h.2.2.2⟩
theorem plcs_of {p : List Pt} (h : ∀ x, x ∈ p → Plc x) : Plcs p := fun _ hi => h _ (at_mem hi)
theorem sq_pg : Pg sq := pg_of (by decide)
theorem sq_vl : Vl sq := vl_of sq_pg (by decide) (plcs_of (by decide))
theorem seg_pg : Pg seg := ⟨by decide, fun i h1 h2 => by
  have h2' : i < 2 := h2
  obtain rfl : i = 1 := by omega
  decide, fun h => absurd h (by decide)⟩
theorem seg_vl : Vl seg := vl_of seg_pg (by decide) (plcs_of (by decide))
theorem six_hull : IsHull l6 sq := ⟨sq_pg, by decide, fun x hx => hs_of (by decide) (by
  revert x
  decide)⟩
theorem six_is {q : List Pt} (h : IsHull l6 q) : q = sq := hull_unique h six_hull
theorem six_plcs : Plcs l6 := plcs_of (by decide)
theorem sq_has : Hs sq (4, 3) := hs_of (by decide) (by decide)
theorem sq_not : ¬ Hs sq (5, 3) := hs_not (by decide) (by decide)
theorem sq_area : area sq.length (at' sq) = 32 := by decide
theorem far_not : ¬ Plcs [((500001, 0) : Pt)] := fun h => by
  have := (h 0 (by decide)).1.2
  exact absurd this (by decide)
theorem IsMin.one {p : List Pt} {u v m m' : Int} (h : IsMin p u v m) (k : IsMin p u v m') : m = m' := by
  obtain ⟨⟨x, hx, e⟩, h2⟩ := h
  obtain ⟨⟨y, hy, e'⟩, k2⟩ := k
  have := h2 y hy
  have := k2 x hx
  omega
def minB (p : List Pt) (u v m : Int) : Bool := p.any (fun x => u * x.1 + v * x.2 == m) && p.all (fun x => decide (m ≤ u * x.1 + v * x.2))
theorem min_of {p : List Pt} {u v m : Int} (h : minB p u v m = true) : IsMin p u v m := by
  unfold minB at h
  simp only [Bool.and_eq_true, List.any_eq_true, List.all_eq_true, beq_iff_eq, decide_eq_true_eq] at h
  exact ⟨h.1, h.2⟩
theorem sq_box {lo hi : Pt} (h : IsBox sq lo hi) : lo = (0, 0) ∧ hi = (4, 4) := by
  obtain ⟨h1, h2, h3, h4⟩ := h
  have e1 := h1.one (m' := 0) (min_of (by decide))
  have e2 := h2.one (m' := -4) (min_of (by decide))
  have e3 := h3.one (m' := 0) (min_of (by decide))
  have e4 := h4.one (m' := -4) (min_of (by decide))
  exact ⟨Prod.ext e1 e3, Prod.ext (by simp; omega) (by simp; omega)⟩
theorem seg_oct {q : List Pt} (h : IsOct seg q) : q = o4 := by
  obtain ⟨a, b, c, d, s, t, i, j, h1, h2, h3, h4, h5, h6, h7, h8, h9⟩ := h
  have e1 := h1.one (m' := 0) (min_of (by decide))
  have e2 := h2.one (m' := -5) (min_of (by decide))
  have e3 := h3.one (m' := 0) (min_of (by decide))
  have e4 := h4.one (m' := -1) (min_of (by decide))
  have e5 := h5.one (m' := 0) (min_of (by decide))
  have e6 := h6.one (m' := -6) (min_of (by decide))
  have e7 := h7.one (m' := 0) (min_of (by decide))
  have e8 := h8.one (m' := -4) (min_of (by decide))
  obtain rfl : a = 0 := e1
  obtain rfl : b = 5 := by omega
  obtain rfl : c = 0 := e3
  obtain rfl : d = 1 := by omega
  obtain rfl : s = 0 := e5
  obtain rfl : t = 6 := by omega
  obtain rfl : i = 0 := e7
  obtain rfl : j = 4 := by omega
  have k : IsHull (octL 0 5 0 1 0 6 0 4) o4 := ⟨pg_of (by decide), by decide, fun x hx => hs_of (by decide) (by
    revert x
    decide)⟩
  exact hull_unique h9 k
end Hl
end Go.Proofs.Ytmijlfbmmegfbaa
