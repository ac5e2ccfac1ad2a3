/-
  Plain geometry: corners of a hull are its own.
  Plain geometry: with a further place the area of a hull is greater.
  Plain geometry: sides that have all points on their left, and turn left, are the sides of a hull.
  Plain geometry of sums of polygons: all sums, reaches, order, shifts, mirrors. No program.
  Plain geometry: a sum has at most as many corners as both polygons together. No program.
-/
import Derived.Test.YtlookcbokhknfaaGreatHullOct
import Derived.Test.YtlookcbokhknfaaGreatCutGeo
namespace Go.Proofs.YtlookcbokhknfaaGreat
namespace Hl
theorem hull_plcs {l q : List Pt} (h : IsHull l q) (hp : Plcs l) : Plcs q := fun i hi => by
  obtain ⟨j, hj, e⟩ := mem_at (h.2.1 _ (at_mem hi))
  rw [← e]; exact hp j hj
theorem hs_corner {p : List Pt} (h : Pg p) {i : Nat} (hi : i < p.length) : Hs p (at' p i) := by
  by_cases h1 : p.length = 1
  · obtain rfl : i = 0 := by omega
    exact (hs1 h1).2 rfl
  · by_cases h2 : p.length = 2
    · rw [hs2 h2]
      by_cases e : i = 0
      · subst e; exact ⟨cr_self _ _, by unfold btw; omega⟩
      · obtain rfl : i = 1 := by omega
        exact ⟨cr_self' _ _, by unfold btw; omega⟩
    · have h3 : 3 ≤ p.length := by have := h.1; omega
      rw [hs3 h3]
      intro j hj
      by_cases e1 : i = j
      · rw [e1, cr_self]; exact Int.le_refl _
      · by_cases e2 : i = (j + 1) % p.length
        · rw [← e2, cr_self']; exact Int.le_refl _
        · exact Int.le_of_lt (h.2.2 (by omega) j i hj hi e1 e2)
theorem hull_self {q : List Pt} (h : Pg q) : IsHull q q := ⟨h, fun _ hx => hx, fun x hx => by
  obtain ⟨i, hi, e⟩ := mem_at hx
  rw [← e]; exact hs_corner h hi⟩
end Hl
end Go.Proofs.YtlookcbokhknfaaGreat
namespace Go.Proofs.YtlookcbokhknfaaGreat
namespace Hl
/-! ### Sums over some of the sides -/
/-! ### A side that sees the place on its left is a side of the greater hull -/
def dt (a b y : Pt) : Int := (b.1 - a.1) * (y.1 - a.1) + (b.2 - a.2) * (y.2 - a.2)
theorem dt_af (a b y : Pt) : dt a b y = af (b.1 - a.1) (b.2 - a.2) (-((b.1 - a.1) * a.1 + (b.2 - a.2) * a.2)) y := by unfold dt af; grind
theorem dt_self (a b : Pt) : dt a b a = 0 := by unfold dt; grind
theorem dt_cr (v a b y : Pt) : cr v a b * dt a b y = cr v a y * dt a b b + cr a b y * ((b.1 - a.1) * (v.1 - a.1) + (b.2 - a.2) * (v.2 - a.2)) := by unfold cr dt; grind
theorem dt_cr' (a b n y : Pt) : cr a b n * dt b a y = cr b n y * dt b a a + cr a b y * ((a.1 - b.1) * (n.1 - b.1) + (a.2 - b.2) * (n.2 - b.2)) := by unfold cr dt; grind
theorem dt_pos {a b : Pt} (h : a ≠ b) : 0 < dt a b b := by
  have e : dt a b b = (b.1 - a.1) * (b.1 - a.1) + (b.2 - a.2) * (b.2 - a.2) := rfl
  rw [e]
  have s1 : 0 ≤ (b.1 - a.1) * (b.1 - a.1) := by
    rcases Int.le_total 0 (b.1 - a.1) with k | k
    · exact Int.mul_nonneg k k
    · have := Int.mul_nonneg (show 0 ≤ -(b.1 - a.1) by omega) (show 0 ≤ -(b.1 - a.1) by omega)
      rwa [Int.neg_mul_neg] at this
  have s2 : 0 ≤ (b.2 - a.2) * (b.2 - a.2) := by
    rcases Int.le_total 0 (b.2 - a.2) with k | k
    · exact Int.mul_nonneg k k
    · have := Int.mul_nonneg (show 0 ≤ -(b.2 - a.2) by omega) (show 0 ≤ -(b.2 - a.2) by omega)
      rwa [Int.neg_mul_neg] at this
  by_cases e1 : b.1 - a.1 = 0
  · have e2 : b.2 - a.2 ≠ 0 := fun e2 => h (Prod.ext (by omega) (by omega))
    rcases Int.lt_or_gt_of_ne e2 with k | k
    · have := Int.mul_pos (show 0 < -(b.2 - a.2) by omega) (show 0 < -(b.2 - a.2) by omega)
      rw [Int.neg_mul_neg] at this
      omega
    · have := Int.mul_pos (show 0 < b.2 - a.2 by omega) (show 0 < b.2 - a.2 by omega)
      omega
  · rcases Int.lt_or_gt_of_ne e1 with k | k
    · have := Int.mul_pos (show 0 < -(b.1 - a.1) by omega) (show 0 < -(b.1 - a.1) by omega)
      rw [Int.neg_mul_neg] at this
      omega
    · have := Int.mul_pos (show 0 < b.1 - a.1 by omega) (show 0 < b.1 - a.1 by omega)
      omega
section
variable {l p q : List Pt} {x : Pt}
end
end Hl
end Go.Proofs.YtlookcbokhknfaaGreat
namespace Go.Proofs.YtlookcbokhknfaaGreat
namespace Hl
/-- A point on the line of a side, on the left of the sides before and behind it, lies between its ends. -/
theorem on_side {v a b n y : Pt} (h1 : 0 < cr v a b) (h2 : 0 < cr a b n) (e : cr a b y = 0) (g1 : 0 ≤ cr v a y) (g2 : 0 ≤ cr b n y) : 0 ≤ dt a b y ∧ 0 ≤ dt b a y := by
  have hne : a ≠ b := fun ee => by rw [ee] at h2; rw [cr_same] at h2; omega
  have d1 := dt_pos hne
  have d2 := dt_pos hne.symm
  have e1 := dt_cr v a b y
  have e2 := dt_cr' a b n y
  rw [e, Int.zero_mul, Int.add_zero] at e1 e2
  refine ⟨nonneg_of h1 ?_, nonneg_of h2 ?_⟩
  · rw [e1]; exact Int.mul_nonneg g1 (Int.le_of_lt d1)
  · rw [e2]; exact Int.mul_nonneg g2 (Int.le_of_lt d2)
/-- What holds of a point between two others, on the left of a line that has both on its left. -/
theorem mid_zero {u v a b y : Pt} (e : cr a b y = 0) (hy : cr u v y = 0) (ga : 0 ≤ cr u v a) (gb : 0 ≤ cr u v b) (h1 : 0 < dt a b y) (h2 : 0 < dt b a y) : cr u v a = 0 ∧ cr u v b = 0 := by
  have hne : a ≠ b := fun ee => by
    rw [ee] at h1
    have : dt b b y = 0 := by unfold dt; grind
    omega
  have d := dt_pos hne
  have k : dt b a y * cr u v a + dt a b y * cr u v b = dt a b b * cr u v y - cr a b y * ((v.1 - u.1) * (b.1 - a.1) + (v.2 - u.2) * (b.2 - a.2)) := by unfold dt cr; grind
  rw [e, hy, Int.mul_zero, Int.zero_mul, Int.sub_zero] at k
  have m1 := Int.mul_nonneg (Int.le_of_lt h2) ga
  have m2 := Int.mul_nonneg (Int.le_of_lt h1) gb
  refine ⟨?_, ?_⟩
  · by_cases z : cr u v a = 0
    · exact z
    · have := Int.mul_pos h2 (show 0 < cr u v a by omega)
      omega
  · by_cases z : cr u v b = 0
    · exact z
    · have := Int.mul_pos h1 (show 0 < cr u v b by omega)
      omega
theorem dt_zero {a b y : Pt} (h : a ≠ b) (e : cr a b y = 0) (d : dt a b y = 0) : y = a := by
  have p := dt_pos h
  have k1 : dt a b b * (y.1 - a.1) = dt a b y * (b.1 - a.1) - cr a b y * (b.2 - a.2) := by unfold dt cr; grind
  have k2 : dt a b b * (y.2 - a.2) = dt a b y * (b.2 - a.2) + cr a b y * (b.1 - a.1) := by unfold dt cr; grind
  rw [d, e, Int.zero_mul, Int.zero_mul] at k1 k2
  have z1 : y.1 - a.1 = 0 := by
    rcases Int.mul_eq_zero.1 (show dt a b b * (y.1 - a.1) = 0 by omega) with h | h
    · omega
    · exact h
  have z2 : y.2 - a.2 = 0 := by
    rcases Int.mul_eq_zero.1 (show dt a b b * (y.2 - a.2) = 0 by omega) with h | h
    · omega
    · exact h
  exact Prod.ext (by omega) (by omega)
/-- Different corners, all points of l on the left of all sides, left turns only: a convex polygon. -/
theorem cvx_of_sides {n : Nat} {P : Nat → Pt} (hn : 3 ≤ n) (hd : ∀ i j, i < n → j < n → i ≠ j → P i ≠ P j) (hl : ∀ i k, i < n → k < n → 0 ≤ cr (P i) (P ((i + 1) % n)) (P k)) (ht : ∀ i, i < n → 0 < cr (P (pv n i)) (P i) (P ((i + 1) % n))) : Cvx n P := by
  intro i k hi hk hki hki'
  have h0 := hl i k hi hk
  by_cases z : cr (P i) (P ((i + 1) % n)) (P k) = 0
  · exfalso
    have hi' : (i + 1) % n < n := Nat.mod_lt _ (by omega)
    have t1 := ht i hi
    have t2 := ht _ hi'
    have epv : pv n ((i + 1) % n) = i := by
      unfold pv
      by_cases e : i + 1 = n
      · rw [e, Nat.mod_self, Nat.zero_add, Nat.mod_eq_of_lt (by omega)]; omega
      · have h1 : i + 1 < n := by omega
        rw [Nat.mod_eq_of_lt h1]
        have h2 : i + 1 + (n - 1) = n + i := by omega
        rw [h2, Nat.add_mod_left, Nat.mod_eq_of_lt hi]
    rw [epv] at t2
    have hv : pv n i < n := Nat.mod_lt _ (by omega)
    have g1 : 0 ≤ cr (P (pv n i)) (P i) (P k) := by
      have := hl (pv n i) k hv hk
      rwa [pv_next hi] at this
    have g2 := hl ((i + 1) % n) k hi' hk
    obtain ⟨d1, d2⟩ := on_side t1 t2 z g1 g2
    have hne := hd i _ hi hi' (fun e => nx_ne (by omega) hi e.symm)
    have z' : cr (P ((i + 1) % n)) (P i) (P k) = 0 := by rw [cr_swap2]; omega
    have p1 : 0 < dt (P i) (P ((i + 1) % n)) (P k) := by
      by_cases e : dt (P i) (P ((i + 1) % n)) (P k) = 0
      · exact absurd (dt_zero hne z e) (hd k i hk hi hki)
      · omega
    have p2 : 0 < dt (P ((i + 1) % n)) (P i) (P k) := by
      by_cases e : dt (P ((i + 1) % n)) (P i) (P k) = 0
      · exact absurd (dt_zero hne.symm z' e) (hd k _ hk hi' hki')
      · omega
    have tk := ht k hk
    have hkv : pv n k < n := Nat.mod_lt _ (by omega)
    have a1 : 0 ≤ cr (P (pv n k)) (P k) (P i) := by have := hl (pv n k) i hkv hi; rwa [pv_next hk] at this
    have a2 : 0 ≤ cr (P (pv n k)) (P k) (P ((i + 1) % n)) := by have := hl (pv n k) _ hkv hi'; rwa [pv_next hk] at this
    have m1 := mid_zero z (cr_self' _ _) a1 a2 p1 p2
    have m2 := mid_zero z (cr_self _ _) (hl k i hk hi) (hl k _ hk hi') p1 p2
    -- both sides at k lie on one line
    have hk' : (k + 1) % n < n := Nat.mod_lt _ (by omega)
    have nk := hd k i hk hi hki
    have q1 : cr (P k) (P i) (P (pv n k)) = 0 := by rw [← cr_rot]; exact m1.1
    have q2 : cr (P k) (P i) (P ((k + 1) % n)) = 0 := by rw [cr_swap]; rw [m2.1]; rfl
    have q3 : cr (P k) (P i) (P k) = 0 := cr_self _ _
    have := on_line nk q1 q3 q2
    omega
  · omega
theorem hull_of_sides {l p : List Pt} (hn : 3 ≤ p.length) (hm : ∀ x, x ∈ p → x ∈ l) (hd : ∀ i j, i < p.length → j < p.length → i ≠ j → at' p i ≠ at' p j) (hl : ∀ i, i < p.length → ∀ y, y ∈ l → 0 ≤ cr (at' p i) (at' p ((i + 1) % p.length)) y)
    (ht : ∀ i, i < p.length → 0 < cr (at' p (pv p.length i)) (at' p i) (at' p ((i + 1) % p.length))) (h0 : ∀ i, 1 ≤ i → i < p.length → ls (at' p 0) (at' p i)) : IsHull l p :=
  ⟨⟨by omega, h0, fun _ => cvx_of_sides hn hd (fun i k hi hk => hl i hi _ (hm _ (at_mem hk))) ht⟩, hm, fun y hy => (hs3 hn).2 (fun i hi => hl i hi y hy)⟩
end Hl
end Go.Proofs.YtlookcbokhknfaaGreat
namespace Go.Proofs.YtlookcbokhknfaaGreat
open Hl
namespace Mk

def plus (x y : Pt) : Pt := (x.1 + y.1, x.2 + y.2)
def neg (x : Pt) : Pt := (-x.1, -x.2)
/-- All sums of a place of the one and a place of the other one. -/
def sums (p q : List Pt) : List Pt := p.flatMap fun x => q.map (plus x)
theorem mem_sums {p q : List Pt} {z : Pt} : z ∈ sums p q ↔ ∃ x, x ∈ p ∧ ∃ y, y ∈ q ∧ plus x y = z := by
  unfold sums
  rw [List.mem_flatMap]
  constructor
  · rintro ⟨x, hx, h⟩
    obtain ⟨y, hy, e⟩ := List.mem_map.1 h
    exact ⟨x, hx, y, hy, e⟩
  · rintro ⟨x, hx, y, hy, e⟩
    exact ⟨x, hx, List.mem_map.2 ⟨y, hy, e⟩⟩
theorem sums_mem {p q : List Pt} {x y : Pt} (hx : x ∈ p) (hy : y ∈ q) : plus x y ∈ sums p q := mem_sums.2 ⟨x, hx, y, hy, rfl⟩
theorem plus_comm (x y : Pt) : plus x y = plus y x := by unfold plus; rw [Int.add_comm, Int.add_comm x.2]
theorem plus_assoc (x y z : Pt) : plus (plus x y) z = plus x (plus y z) := by unfold plus; rw [Int.add_assoc, Int.add_assoc]
theorem neg_neg (x : Pt) : neg (neg x) = x := by unfold neg; rcases x with ⟨a, b⟩; simp
theorem af_plus (u v k : Int) (x y : Pt) : af u v k (plus x y) = af u v 0 x + af u v k y := by unfold af plus; grind
/-- Which places a hull is made of is all that matters. -/
theorem hull_congr {l m s : List Pt} (h : IsHull l s) (e : ∀ x, x ∈ l ↔ x ∈ m) : IsHull m s := ⟨h.1, fun x hx => (e x).1 (h.2.1 x hx), fun x hx => h.2.2 x ((e x).2 hx)⟩
/-- A sum has the sum of any two places that the polygons have. -/
theorem sum_has {p q s : List Pt} (hp : Pg p) (hq : Pg q) (hs : IsHull (sums p q) s) {x y : Pt} (hx : Hs p x) (hy : Hs q y) : Hs s (plus x y) := by
  refine hs_of_least (sums p q) hs.1 hs.2.2 fun u v k => ?_
  obtain ⟨i, hi, ei⟩ := hs_least hp hx u v 0
  obtain ⟨j, hj, ej⟩ := hs_least hq hy u v k
  refine ⟨plus (at' p i) (at' q j), sums_mem (at_mem hi) (at_mem hj), ?_⟩
  rw [af_plus, af_plus]
  omega
theorem min_sum {p q s : List Pt} (hs : IsHull (sums p q) s) {u v a b : Int} (ha : IsMin p u v a) (hb : IsMin q u v b) : IsMin s u v (a + b) := by
  refine min_hull hs (fun x hx => ?_) ?_
  · obtain ⟨y, hy, z, hz, rfl⟩ := mem_sums.1 hx
    have h1 := ha.2 y hy
    have h2 := hb.2 z hz
    unfold plus
    simp only
    grind
  · obtain ⟨⟨y, hy, ey⟩, _⟩ := ha
    obtain ⟨⟨z, hz, ez⟩, _⟩ := hb
    refine ⟨plus y z, sums_mem hy hz, ?_⟩
    unfold plus
    simp only
    grind
theorem sum_comm {p q s : List Pt} (hs : IsHull (sums p q) s) : IsHull (sums q p) s := hull_congr hs fun x => by
  rw [mem_sums, mem_sums]
  constructor <;> rintro ⟨a, ha, b, hb, e⟩ <;> exact ⟨b, hb, a, ha, by rw [plus_comm]; exact e⟩
/-! ### Shifts -/
def shift (p : List Pt) (b : Pt) : List Pt := p.map fun x => plus x b
theorem shift_len (p : List Pt) (b : Pt) : (shift p b).length = p.length := List.length_map ..
theorem shift_at {p : List Pt} {b : Pt} {i : Nat} (h : i < p.length) : at' (shift p b) i = plus (at' p i) b := by
  unfold at' shift
  rw [List.getD_eq_getElem?_getD, List.getD_eq_getElem?_getD, List.getElem?_map, List.getElem?_eq_getElem h]
  rfl
theorem cr_plus (a b c z : Pt) : cr (plus a z) (plus b z) (plus c z) = cr a b c := by unfold cr plus; grind
theorem ls_plus (a b z : Pt) : ls (plus a z) (plus b z) ↔ ls a b := by unfold ls plus; simp only; omega
theorem shift_pg {p : List Pt} (h : Pg p) (b : Pt) : Pg (shift p b) := by
  refine ⟨by rw [shift_len]; exact h.1, fun i h1 h2 => ?_, fun h2 => ?_⟩
  · rw [shift_len] at h2
    rw [shift_at (by omega), shift_at h2, ls_plus]
    exact h.2.1 i h1 h2
  · rw [shift_len] at h2 ⊢
    intro i k hi hk n1 n2
    rw [shift_at hi, shift_at hk, shift_at (nx_lt (by omega)), cr_plus]
    exact h.2.2 h2 i k hi hk n1 n2
theorem mem_shift {p : List Pt} {b z : Pt} : z ∈ shift p b ↔ ∃ x, x ∈ p ∧ plus x b = z := List.mem_map
/-- The sum with a single place is the shifted polygon. -/
theorem shift_sum {p : List Pt} (h : Pg p) (b : Pt) : IsHull (sums p [b]) (shift p b) := by
  refine hull_congr (hull_self (shift_pg h b)) fun x => ?_
  rw [mem_shift, mem_sums]
  constructor
  · rintro ⟨y, hy, e⟩; exact ⟨y, hy, b, List.mem_singleton.2 rfl, e⟩
  · rintro ⟨y, hy, c, hc, e⟩; rw [List.mem_singleton] at hc; subst hc; exact ⟨y, hy, e⟩
/-! ### Mirrors -/
def mirror (p : List Pt) : List Pt := p.map neg
theorem hs_three_i {p : List Pt} (h : 3 ≤ p.length) {x : Pt} : Hs p x ↔ Ins p.length (at' p) x := by unfold Hs; rw [if_neg (by omega), if_neg (by omega)]
/-- A corner alone is least in some direction. -/
theorem corner_strict {p : List Pt} (h : Pg p) {i : Nat} (hi : i < p.length) : ∃ u v k : Int, ∀ j, j < p.length → j ≠ i → af u v k (at' p i) < af u v k (at' p j) := by
  by_cases h1 : p.length = 1
  · exact ⟨0, 0, 0, fun j hj hne => by omega⟩
  by_cases h2 : p.length = 2
  · have hne : at' p 0 ≠ at' p 1 := pg_ne h (by omega)
    obtain ⟨o, ho, ho2, hc⟩ : ∃ o, o < 2 ∧ at' p i ≠ at' p o ∧ ∀ j, j < 2 → j ≠ i → j = o := by
      rcases (show i = 0 ∨ i = 1 by omega) with rfl | rfl
      · exact ⟨1, by omega, hne, fun j _ _ => by omega⟩
      · exact ⟨0, by omega, hne.symm, fun j _ _ => by omega⟩
    obtain ⟨u, v, k, e⟩ : ∃ u v k : Int, ∀ y, dt (at' p i) (at' p o) y = af u v k y := ⟨_, _, _, dt_af _ _⟩
    refine ⟨u, v, k, fun j hj hne2 => ?_⟩
    have := dt_pos ho2
    rw [hc j (by omega) hne2, ← e, ← e, dt_self]
    exact this
  · have h3 : 3 ≤ p.length := by have := h.1; omega
    have hc := h.2.2 (by omega)
    have t := turn hc h3 hi
    obtain ⟨u, v, k, e⟩ : ∃ u v k : Int, ∀ y, cr (at' p (pv p.length i)) (at' p i) y + cr (at' p i) (at' p ((i + 1) % p.length)) y = af u v k y := ⟨_, _, _, fun y => by rw [cr_af, cr_af, af_add]⟩
    refine ⟨u, v, k, fun j hj hne => ?_⟩
    have hall : ∀ x, x ∈ p → 0 ≤ cr (at' p (pv p.length i)) (at' p i) x ∧ 0 ≤ cr (at' p i) (at' p ((i + 1) % p.length)) x := fun x hx => by
      have hin := (hs_three_i h3).1 ((hull_self h).2.2 x hx)
      exact ⟨ins_pv hin hi, hin i hi⟩
    obtain ⟨a1, a2⟩ := hall _ (at_mem hj)
    have ne : cr (at' p (pv p.length i)) (at' p i) (at' p j) + cr (at' p i) (at' p ((i + 1) % p.length)) (at' p j) ≠ 0 := fun e => by
      have := only_corner t (by omega) (show cr (at' p i) (at' p ((i + 1) % p.length)) (at' p j) = 0 by omega)
      exact corners_ne hc h3 hj hi hne this
    have z : cr (at' p (pv p.length i)) (at' p i) (at' p i) + cr (at' p i) (at' p ((i + 1) % p.length)) (at' p i) = 0 := by rw [cr_self', cr_self]; rfl
    rw [← e, ← e]
    omega
end Mk
end Go.Proofs.YtlookcbokhknfaaGreat
namespace Go.Proofs.YtlookcbokhknfaaGreat
open Hl
namespace Mk

/-- The cross and the dot product of two vectors. -/
def xp (a b : Pt) : Int := a.1 * b.2 - a.2 * b.1
def dp (a b : Pt) : Int := a.1 * b.1 + a.2 * b.2
def sub (a b : Pt) : Pt := (a.1 - b.1, a.2 - b.2)
theorem lag (d w z : Pt) : dp d d * xp w z = dp d w * xp d z - xp d w * dp d z := by unfold dp xp; grind
theorem lag2 (d w z : Pt) : dp d d * dp w z = dp d w * dp d z + xp d w * xp d z := by unfold dp xp; grind
theorem cr_xp (a b c : Pt) : cr a b c = xp (sub b a) (sub c a) := by unfold cr xp sub; grind
theorem xp_sub (d x y z : Pt) : xp d (sub x z) - xp d (sub y z) = xp d (sub x y) := by unfold xp sub; grind
theorem xp_swap (a b : Pt) : xp a b = -(xp b a) := by unfold xp; grind
theorem dp_comm (a b : Pt) : dp a b = dp b a := by unfold dp; grind
theorem xp_neg (d a b : Pt) : xp d (sub a b) = -(xp d (sub b a)) := by unfold xp sub; grind
theorem dp_neg (d a b : Pt) : dp d (sub a b) = -(dp d (sub b a)) := by unfold dp sub; grind
theorem sq_nonneg (a : Int) : 0 ≤ a * a := by rw [← Int.natAbs_mul_self]; omega
theorem sq_pos {a : Int} (h : a ≠ 0) : 0 < a * a := by
  rcases Int.lt_or_gt_of_ne h with g | g
  · exact Int.mul_pos_of_neg_of_neg g g
  · exact Int.mul_pos g g
theorem dd_pos {d : Pt} (h : d ≠ (0, 0)) : 0 < dp d d := by
  unfold dp
  have h1 := sq_nonneg d.1
  have h2 := sq_nonneg d.2
  by_cases e1 : d.1 = 0
  · by_cases e2 : d.2 = 0
    · exact absurd (Prod.ext e1 e2) h
    · have := sq_pos e2
      omega
  · have := sq_pos e1
    omega
theorem sub_ne {a b : Pt} (h : a ≠ b) : sub a b ≠ (0, 0) := fun e => h (by
  unfold sub at e
  injection e with e1 e2
  exact Prod.ext (by omega) (by omega))
/-- The same direction. -/
def Par (d w : Pt) : Prop := xp d w = 0 ∧ 0 < dp d w
theorem xp_dp {d w : Pt} (hd : d ≠ (0, 0)) (hw : w ≠ (0, 0)) (h : xp d w = 0) : dp d w ≠ 0 := fun e => by
  have := lag2 d w w
  rw [h, e, Int.zero_mul] at this
  have := Int.mul_pos (dd_pos hd) (dd_pos hw)
  omega
theorem pos_of_mul {a b : Int} (hb : 0 ≤ b) (h : 0 < a * b) : 0 < a := by
  rcases Int.lt_or_le 0 a with g | g
  · exact g
  · have := Int.mul_nonneg (show 0 ≤ -a by omega) hb
    rw [Int.neg_mul] at this
    omega
/-- Sides of s, and directions of sides of p. -/
def Sd (p : List Pt) (d : Pt) (i : Nat) : Prop := i < p.length ∧ Par d (sub (at' p ((i + 1) % p.length)) (at' p i))
theorem side_pos {p : List Pt} (hp : Pg p) (h3 : 3 ≤ p.length) {d : Pt} {i : Nat} (hi : i < p.length) (hz : xp d (sub (at' p ((i + 1) % p.length)) (at' p i)) = 0) (hl : ∀ l, l < p.length → 0 ≤ xp d (sub (at' p l) (at' p i))) (hd : d ≠ (0, 0)) : Sd p d i := by
  refine ⟨hi, hz, ?_⟩
  have hc := hp.2.2 (by omega)
  obtain ⟨k, hk, k1, k2⟩ : ∃ k, k < p.length ∧ k ≠ i ∧ k ≠ (i + 1) % p.length := ⟨pv p.length i, pv_lt (by omega), fun e => by
    have := pv_next hi
    rw [e] at this
    exact nx_ne (by omega) hi this, fun e => nx_pv h3 hi e.symm⟩
  have c := hc i k hi hk k1 k2
  rw [cr_xp] at c
  have g := hl k hk
  have e := lag d (sub (at' p ((i + 1) % p.length)) (at' p i)) (sub (at' p k) (at' p i))
  rw [hz, Int.zero_mul, Int.sub_zero] at e
  exact pos_of_mul g (by rw [← e]; exact Int.mul_pos (dd_pos hd) c)
/-- Two corners that lie farthest on one side of a direction: a side has this direction. -/
theorem side_dir {p : List Pt} (hp : Pg p) {d : Pt} (hd : d ≠ (0, 0)) {a b : Nat} (ha : a < p.length) (hb : b < p.length) (hne : at' p a ≠ at' p b) (hl : ∀ l, l < p.length → 0 ≤ xp d (sub (at' p l) (at' p a))) (e : xp d (sub (at' p b) (at' p a)) = 0) : ∃ i, Sd p d i := by
  have hab : a ≠ b := fun h => hne (by rw [h])
  by_cases h2 : p.length = 2
  · have nz := xp_dp hd (sub_ne (fun h => hne h.symm)) e
    have na : (a + 1) % p.length = b := by rw [h2]; omega
    have nb : (b + 1) % p.length = a := by rw [h2]; omega
    rcases Int.lt_or_gt_of_ne nz with g | g
    · exact ⟨b, hb, by rw [nb, xp_neg, e]; rfl, by rw [nb, dp_neg]; omega⟩
    · exact ⟨a, ha, by rw [na]; exact e, by rw [na]; exact g⟩
  · have h3 : 3 ≤ p.length := by omega
    have af_e : ∀ l, af (-d.2) d.1 0 (at' p l) - af (-d.2) d.1 0 (at' p a) = xp d (sub (at' p l) (at' p a)) := fun l => by unfold af xp sub; grind
    have hlb : ∀ l, l < p.length → 0 ≤ xp d (sub (at' p l) (at' p b)) := fun l hll => by
      have h1 := hl l hll
      have h2 := xp_sub d (at' p l) (at' p b) (at' p a)
      omega
    rcases Ct.least_near hp (u := -d.2) (v := d.1) (k := 0) (N := af (-d.2) d.1 0 (at' p a)) (fun l hll => by have := af_e l; have := hl l hll; omega) ha hb hab rfl (by have := af_e b; omega) with h | h | h
    · exact ⟨a, side_pos hp h3 ha (by rw [← h]; exact e) hl hd⟩
    · exact ⟨b, side_pos hp h3 hb (by rw [← h, xp_neg, e]; rfl) hlb hd⟩
    · exfalso
      have hc := hp.2.2 (by omega)
      have z : ∀ l, l < p.length → xp d (sub (at' p l) (at' p a)) = 0 := fun l hll => by have := af_e l; have := h l hll; omega
      have t := three_not hc h3
      refine t ?_
      have w1 : xp d (sub (at' p 1) (at' p 0)) = 0 := by have := xp_sub d (at' p 1) (at' p 0) (at' p a); have := z 1 (by omega); have := z 0 (by omega); omega
      have w2 : xp d (sub (at' p 2) (at' p 0)) = 0 := by have := xp_sub d (at' p 2) (at' p 0) (at' p a); have := z 2 (by omega); have := z 0 (by omega); omega
      have L := lag d (sub (at' p 1) (at' p 0)) (sub (at' p 2) (at' p 0))
      rw [w1, w2, Int.mul_zero, Int.zero_mul, Int.sub_zero] at L
      rw [cr_xp]
      rcases Int.mul_eq_zero.1 L with g | g
      · have := dd_pos hd; omega
      · exact g
theorem par_sign {d w : Pt} (h : Par d w) : (∀ z, 0 ≤ xp d z → 0 ≤ xp w z) ∧ (∀ z, xp w z = 0 → xp d z = 0) := by
  have hw : 0 < dp w w := dd_pos (fun e => by have := h.2; rw [e] at this; simp [dp] at this)
  have key : ∀ z, dp w w * xp d z = dp w d * xp w z := fun z => by
    have := lag w d z
    rw [xp_swap w d, h.1, Int.neg_zero, Int.zero_mul, Int.sub_zero] at this
    exact this
  have hd : 0 < dp w d := by rw [dp_comm]; exact h.2
  constructor
  · intro z hz
    refine nonneg_of hd ?_
    rw [← key]
    exact Int.mul_nonneg (Int.le_of_lt hw) hz
  · intro z hz
    have := key z
    rw [hz, Int.mul_zero] at this
    rcases Int.mul_eq_zero.1 this with g | g
    · omega
    · exact g
/-- Two sides of a polygon have different directions. -/
theorem sides_apart {s : List Pt} (hs : Pg s) (h3 : 3 ≤ s.length) {i j : Nat} (hi : i < s.length) (hj : j < s.length) {w : Pt} (h1 : Par (sub (at' s ((i + 1) % s.length)) (at' s i)) w) (h2 : Par (sub (at' s ((j + 1) % s.length)) (at' s j)) w) : i = j := by
  have hc := hs.2.2 (by omega)
  have left : ∀ a l, a < s.length → l < s.length → 0 ≤ xp (sub (at' s ((a + 1) % s.length)) (at' s a)) (sub (at' s l) (at' s a)) := fun a l ha hl => by
    rw [← cr_xp]
    exact (hs_three_i h3).1 ((hull_self hs).2.2 _ (at_mem hl)) a ha
  have zero : ∀ a l, a < s.length → l < s.length → xp (sub (at' s ((a + 1) % s.length)) (at' s a)) (sub (at' s l) (at' s a)) = 0 → l = a ∨ l = (a + 1) % s.length := fun a l ha hl e => by
    rw [← cr_xp] at e
    by_cases g : l = a
    · exact Or.inl g
    · by_cases g2 : l = (a + 1) % s.length
      · exact Or.inr g2
      · have := hc a l ha hl g g2
        omega
  have p1 := (par_sign h1).1 _ (left i j hi hj)
  have p2 := (par_sign h2).1 _ (left j i hj hi)
  have n1 := xp_neg w (at' s i) (at' s j)
  have z1 := zero i j hi hj ((par_sign h1).2 _ (by omega))
  have z2 := zero j i hj hi ((par_sign h2).2 _ (by omega))
  rcases z1 with e | e
  · exact e.symm
  · rcases z2 with g | g
    · exact g
    · exfalso
      by_cases w1 : i + 1 < s.length
      · rw [Nat.mod_eq_of_lt w1] at e
        by_cases w2 : j + 1 < s.length
        · rw [Nat.mod_eq_of_lt w2] at g; omega
        · have : j + 1 = s.length := by omega
          rw [this, Nat.mod_self] at g
          omega
      · have : i + 1 = s.length := by omega
        rw [this, Nat.mod_self] at e
        subst e
        rw [Nat.mod_eq_of_lt (by omega)] at g
        omega
/-- A sum has at most as many corners as both polygons together. -/
theorem sum_count {p q s : List Pt} (hp : Pg p) (hq : Pg q) (hs : IsHull (sums p q) s) : s.length ≤ p.length + q.length := by
  by_cases h3 : 3 ≤ s.length
  · have each : ∀ j, j < s.length → (∃ i, Sd p (sub (at' s ((j + 1) % s.length)) (at' s j)) i) ∨ ∃ i, Sd q (sub (at' s ((j + 1) % s.length)) (at' s j)) i := fun j hj => by
      have hj1 : (j + 1) % s.length < s.length := nx_lt (by omega)
      have hd : sub (at' s ((j + 1) % s.length)) (at' s j) ≠ (0, 0) := sub_ne (pg_distinct hs.1 hj1 hj (nx_ne (by omega) hj))
      obtain ⟨d, ed⟩ : ∃ d, d = sub (at' s ((j + 1) % s.length)) (at' s j) := ⟨_, rfl⟩
      rw [← ed] at hd ⊢
      obtain ⟨x, hx, y, hy, exy⟩ := mem_sums.1 (hs.2.1 _ (at_mem hj))
      obtain ⟨x', hx', y', hy', exy'⟩ := mem_sums.1 (hs.2.1 _ (at_mem hj1))
      have left : ∀ a b, a ∈ p → b ∈ q → 0 ≤ xp d (sub (plus a b) (at' s j)) := fun a b ha hb => by
        rw [ed, ← cr_xp]
        exact (hs_three_i h3).1 (hs.2.2 _ (sums_mem ha hb)) j hj
      have e0 : xp d (sub (plus x' y') (at' s j)) = 0 := by rw [exy', ed]; unfold xp; grind
      have sp : ∀ a b c e, xp d (sub (plus a b) (plus c e)) = xp d (sub a c) + xp d (sub b e) := fun a b c e => by unfold xp sub plus; grind
      have self : ∀ a, xp d (sub a a) = 0 := fun a => by unfold xp sub; grind
      have l1 : ∀ a, a ∈ p → 0 ≤ xp d (sub a x) := fun a ha => by have := left a y ha hy; rw [← exy, sp, self] at this; omega
      have l2 : ∀ b, b ∈ q → 0 ≤ xp d (sub b y) := fun b hb => by have := left x b hx hb; rw [← exy, sp, self] at this; omega
      rw [← exy, sp] at e0
      have m1 := l1 x' hx'
      have m2 := l2 y' hy'
      obtain ⟨a, ha, rfl⟩ := mem_at hx
      obtain ⟨b, hb, rfl⟩ := mem_at hy
      obtain ⟨a', ha', rfl⟩ := mem_at hx'
      obtain ⟨b', hb', rfl⟩ := mem_at hy'
      by_cases g : at' p a = at' p a'
      · by_cases g2 : at' q b = at' q b'
        · exfalso
          apply hd
          rw [ed, ← exy, ← exy', g, g2]
          unfold sub
          simp
        · exact Or.inr (side_dir hq hd hb hb' g2 (fun l hl => l2 _ (at_mem hl)) (by omega))
      · exact Or.inl (side_dir hp hd ha ha' g (fun l hl => l1 _ (at_mem hl)) (by omega))
    have lab : ∀ j, ∃ z : Pt, j < s.length → (z.2 = 0 ∧ 0 ≤ z.1 ∧ Sd p (sub (at' s ((j + 1) % s.length)) (at' s j)) z.1.toNat) ∨ (z.2 = 1 ∧ 0 ≤ z.1 ∧ Sd q (sub (at' s ((j + 1) % s.length)) (at' s j)) z.1.toNat) := fun j => by
      by_cases hj : j < s.length
      · rcases each j hj with ⟨i, h⟩ | ⟨i, h⟩
        · exact ⟨((i : Int), 0), fun _ => Or.inl ⟨rfl, by simp, by simpa using h⟩⟩
        · exact ⟨((i : Int), 1), fun _ => Or.inr ⟨rfl, by simp, by simpa using h⟩⟩
      · exact ⟨(0, 0), fun h => absurd h hj⟩
    have L : (((List.range p.length).map fun i : Nat => ((i : Int), (0 : Int))) ++ ((List.range q.length).map fun i : Nat => ((i : Int), (1 : Int)))).length = p.length + q.length := by simp
    rw [← L]
    refine count_le (fun j => Classical.choose (lab j)) s.length _ (fun i j hi hj hne e => ?_) (fun j hj => ?_)
    · have c1 := Classical.choose_spec (lab i) hi
      have c2 := Classical.choose_spec (lab j) hj
      rw [show Classical.choose (lab i) = Classical.choose (lab j) from e] at c1
      generalize Classical.choose (lab j) = z at c1 c2
      rcases c1 with ⟨a1, _, b1⟩ | ⟨a1, _, b1⟩ <;> rcases c2 with ⟨a2, _, b2⟩ | ⟨a2, _, b2⟩
      · exact hne (sides_apart hs.1 h3 hi hj b1.2 b2.2)
      · omega
      · omega
      · exact hne (sides_apart hs.1 h3 hi hj b1.2 b2.2)
    · have c := Classical.choose_spec (lab j) hj
      show Classical.choose (lab j) ∈ _
      generalize Classical.choose (lab j) = z at c
      rw [List.mem_append, List.mem_map, List.mem_map]
      rcases c with ⟨a, b, c⟩ | ⟨a, b, c⟩
      · exact Or.inl ⟨z.1.toNat, List.mem_range.2 c.1, Prod.ext (by simp; omega) a.symm⟩
      · exact Or.inr ⟨z.1.toNat, List.mem_range.2 c.1, Prod.ext (by simp; omega) a.symm⟩
  · have := hp.1
    have := hq.1
    omega
end Mk
end Go.Proofs.YtlookcbokhknfaaGreat
