/-
  Plain geometry: with a further place the area of a hull is greater.
  Plain geometry: sides that have all points on their left, and turn left, are the sides of a hull.
  Plain geometry: a chain of corners that grows by a sorted list of points.
  Plain geometry: a chain there and a chain back are a hull.
-/
import Derived.Test.YteglefjnbkocgaaHullCon
namespace Go.Proofs.Yteglefjnbkocgaa
namespace Hl
/-! ### Sums over some of the sides -/
theorem sumN_update (h : Nat → Int) (k : Nat) : ∀ m, k < m → sumN (fun j => if j = k then 0 else h j) m = sumN h m - h k
  | 0, hk => by omega
  | m + 1, hk => by
    have e1 : sumN (fun j => if j = k then 0 else h j) (m + 1) = sumN (fun j => if j = k then 0 else h j) m + (if m = k then 0 else h m) := rfl
    have e2 : sumN h (m + 1) = sumN h m + h m := rfl
    rw [e1, e2]
    by_cases e : m = k
    · rw [if_pos e]
      have c : sumN (fun j => if j = k then 0 else h j) m = sumN h m := sumN_congr m (fun i hi => if_neg (by omega))
      rw [c, e]
      omega
    · rw [if_neg e, sumN_update h k m (by omega)]
      omega
theorem sum_inj : ∀ (n : Nat) (g h : Nat → Int) (f : Nat → Nat) (m : Nat), (∀ j, j < m → 0 ≤ h j) → (∀ i, i < n → 0 < g i → f i < m ∧ h (f i) = g i) → (∀ i i', i < n → i' < n → 0 < g i → 0 < g i' → f i = f i' → i = i') →
    sumN (fun i => if 0 < g i then g i else 0) n ≤ sumN h m
  | 0, g, h, f, m, h0, _, _ => by
    have : sumN (fun _ => 0) m ≤ sumN h m := sumN_le m (fun i hi => h0 i hi)
    have z : ∀ m, sumN (fun _ => (0 : Int)) m = 0 := by
      intro m
      induction m with
      | zero => rfl
      | succ m ih =>
        have e : sumN (fun _ => (0 : Int)) (m + 1) = sumN (fun _ => (0 : Int)) m + 0 := rfl
        rw [e, ih]; rfl
    rw [z] at this
    exact this
  | n + 1, g, h, f, m, h0, hf, hi => by
    have e : sumN (fun i => if 0 < g i then g i else 0) (n + 1) = sumN (fun i => if 0 < g i then g i else 0) n + (if 0 < g n then g n else 0) := rfl
    rw [e]
    by_cases hp : 0 < g n
    · rw [if_pos hp]
      obtain ⟨hm, he⟩ := hf n (by omega) hp
      have ih := sum_inj n g (fun j => if j = f n then 0 else h j) f m (fun j hj => by
          by_cases ej : j = f n
          · rw [if_pos ej]; exact Int.le_refl _
          · rw [if_neg ej]; exact h0 j hj) (fun i hlt hpi => by
          obtain ⟨a, b⟩ := hf i (by omega) hpi
          refine ⟨a, ?_⟩
          rw [if_neg]
          · exact b
          · intro ee
            have := hi i n (by omega) (by omega) hpi hp ee
            omega) (fun i i' a b c d => hi i i' (by omega) (by omega) c d)
      rw [sumN_update h (f n) m hm, he] at ih
      omega
    · rw [if_neg hp]
      have ih := sum_inj n g h f m h0 (fun i hlt => hf i (by omega)) (fun i i' a b => hi i i' (by omega) (by omega))
      omega

/-! ### A side that sees the place on its left is a side of the greater hull -/
def dt (a b y : Pt) : Int := (b.1 - a.1) * (y.1 - a.1) + (b.2 - a.2) * (y.2 - a.2)
theorem dt_af (a b y : Pt) : dt a b y = af (b.1 - a.1) (b.2 - a.2) (-((b.1 - a.1) * a.1 + (b.2 - a.2) * a.2)) y := by unfold dt af; grind
theorem dt_self (a b : Pt) : dt a b a = 0 := by unfold dt; grind
theorem dt_cr (v a b y : Pt) : cr v a b * dt a b y = cr v a y * dt a b b + cr a b y * ((b.1 - a.1) * (v.1 - a.1) + (b.2 - a.2) * (v.2 - a.2)) := by unfold cr dt; grind
theorem dt_cr' (a b n y : Pt) : cr a b n * dt b a y = cr b n y * dt b a a + cr a b y * ((a.1 - b.1) * (n.1 - b.1) + (a.2 - b.2) * (n.2 - b.2)) := by unfold cr dt; grind
theorem dt_pos {a b : Pt} (h : a ≠ b) : 0 < dt a b b := by
  have e : dt a b b = (b.1 - a.1) * (b.1 - a.1) + (b.2 - a.2) * (b.2 - a.2) := rfl
  rw [e]
  have s1 : 0 ≤ (b.1 - a.1) * (b.1 - a.1) := by
    rcases Int.le_total 0 (b.1 - a.1) with k | k
    · exact Int.mul_nonneg k k
    · have := Int.mul_nonneg (show 0 ≤ -(b.1 - a.1) by omega) (show 0 ≤ -(b.1 - a.1) by omega)
      rwa [Int.neg_mul_neg] at this
  have s2 : 0 ≤ (b.2 - a.2) * (b.2 - a.2) := by
    rcases Int.le_total 0 (b.2 - a.2) with k | k
    · exact Int.mul_nonneg k k
    · have := Int.mul_nonneg (show 0 ≤ -(b.2 - a.2) by omega) (show 0 ≤ -(b.2 - a.2) by omega)
      rwa [Int.neg_mul_neg] at this
  by_cases e1 : b.1 - a.1 = 0
  · have e2 : b.2 - a.2 ≠ 0 := fun e2 => h (Prod.ext (by omega) (by omega))
    rcases Int.lt_or_gt_of_ne e2 with k | k
    · have := Int.mul_pos (show 0 < -(b.2 - a.2) by omega) (show 0 < -(b.2 - a.2) by omega)
      rw [Int.neg_mul_neg] at this
      omega
    · have := Int.mul_pos (show 0 < b.2 - a.2 by omega) (show 0 < b.2 - a.2 by omega)
      omega
  · rcases Int.lt_or_gt_of_ne e1 with k | k
    · have := Int.mul_pos (show 0 < -(b.1 - a.1) by omega) (show 0 < -(b.1 - a.1) by omega)
      rw [Int.neg_mul_neg] at this
      omega
    · have := Int.mul_pos (show 0 < b.1 - a.1 by omega) (show 0 < b.1 - a.1 by omega)
      omega
/-- Of two functionals the first one counts, however great the second one is: a corner of the polygon that is least. -/
theorem least_two {q : List Pt} (hq : Pg q) {A : Pt} (hA : Hs q A) (u v k u' v' k' : Int) (hf : ∀ y, y ∈ q → 0 ≤ af u v k y) (h0 : af u v k A = 0) (h1 : af u' v' k' A = 0) : ∃ j, j < q.length ∧ af u v k (at' q j) = 0 ∧ af u' v' k' (at' q j) ≤ 0 := by
  obtain ⟨M, hM, hb⟩ := steep (fun i => -(af u' v' k' (at' q i))) q.length
  obtain ⟨j, hj, hle⟩ := hs_least hq hA (M * u + u') (M * v + v') (M * k + k')
  have e : ∀ y, af (M * u + u') (M * v + v') (M * k + k') y = M * af u v k y + af u' v' k' y := fun y => by unfold af; grind
  rw [e, e, h0, h1] at hle
  have hfj := hf _ (at_mem hj)
  have hbj := hb j hj

  refine ⟨j, hj, ?_, ?_⟩
  · by_cases z : af u v k (at' q j) = 0
    · exact z
    · exfalso
      have := Int.mul_le_mul_of_nonneg_left (show 1 ≤ af u v k (at' q j) by omega) (Int.le_of_lt hM)
      omega
  · by_cases z : af u v k (at' q j) = 0
    · rw [z] at hle; omega
    · exfalso
      have := Int.mul_le_mul_of_nonneg_left (show 1 ≤ af u v k (at' q j) by omega) (Int.le_of_lt hM)
      omega
theorem nonpos_of {d s t : Int} (hd : 0 < d) (hs : s * d ≤ 0) (ht : t = s) : t ≤ 0 := by
  rw [ht]
  by_cases h : s ≤ 0
  · exact h
  · have := Int.mul_pos (show 0 < s by omega) hd
    omega
section
variable {l p q : List Pt} {x : Pt}
theorem side_stays (hp : IsHull l p) (hq : IsHull (l ++ [x]) q) (hn : 3 ≤ p.length) (hm : 3 ≤ q.length) {i : Nat} (hi : i < p.length) (hg : 0 < cr (at' p i) (at' p ((i + 1) % p.length)) x) :
    ∃ j, j < q.length ∧ at' q j = at' p i ∧ at' q ((j + 1) % q.length) = at' p ((i + 1) % p.length) := by
  have cv := hp.1.2.2 (by omega)
  have cq := hq.1.2.2 (by omega)
  have hi' : (i + 1) % p.length < p.length := Nat.mod_lt _ (by omega)
  have hl : ∀ y, y ∈ l → Ins p.length (at' p) y := fun y hy => (hs3 hn).1 (hp.2.2 y hy)
  -- every corner of q is on the left of the side, or on it
  have hf : ∀ y, y ∈ q → 0 ≤ cr (at' p i) (at' p ((i + 1) % p.length)) y := fun y hy => by
    rcases List.mem_append.1 (hq.2.1 y hy) with h | h
    · exact hl y h i hi
    · rw [List.mem_singleton.1 h]; omega
  have hz : ∀ y, y ∈ q → cr (at' p i) (at' p ((i + 1) % p.length)) y = 0 → Ins p.length (at' p) y := fun y hy e => by
    rcases List.mem_append.1 (hq.2.1 y hy) with h | h
    · exact hl y h
    · rw [List.mem_singleton.1 h] at e; omega
  have hne := corners_ne cv hn hi hi' (nx_ne (by omega) hi).symm
  have inA : Hs q (at' p i) := hq.2.2 _ (List.mem_append.2 (Or.inl (hp.2.1 _ (at_mem hi))))
  have inB : Hs q (at' p ((i + 1) % p.length)) := hq.2.2 _ (List.mem_append.2 (Or.inl (hp.2.1 _ (at_mem hi'))))
  -- the first corner
  have hA : ∃ j, j < q.length ∧ at' q j = at' p i := by
    obtain ⟨j, hj, e0, e1⟩ := least_two hq.1 inA _ _ _ _ _ _ (fun y hy => by rw [← cr_af]; exact hf y hy) (by rw [← cr_af]; exact cr_self _ _) (by rw [← dt_af (at' p i) (at' p ((i + 1) % p.length))]; exact dt_self _ _)
    rw [← cr_af] at e0
    rw [← dt_af] at e1
    refine ⟨j, hj, ?_⟩
    have hin := hz _ (at_mem hj) e0
    have tp := turn cv hn hi
    have hv := ins_pv hin hi
    have e := dt_cr (at' p (pv p.length i)) (at' p i) (at' p ((i + 1) % p.length)) (at' q j)
    rw [e0, Int.zero_mul, Int.add_zero] at e
    have d := dt_pos hne
    have hle : cr (at' p (pv p.length i)) (at' p i) (at' q j) ≤ 0 := by
      refine nonpos_of d ?_ rfl
      rw [← e]
      have := Int.mul_le_mul_of_nonneg_left e1 (Int.le_of_lt tp)
      rwa [Int.mul_zero] at this
    exact only_corner tp (by omega) e0
  -- the second corner
  have hB : ∃ j, j < q.length ∧ at' q j = at' p ((i + 1) % p.length) := by
    obtain ⟨j, hj, e0, e1⟩ := least_two hq.1 inB _ _ _ _ _ _ (fun y hy => by rw [← cr_af]; exact hf y hy) (by rw [← cr_af]; exact cr_self' _ _) (by rw [← dt_af (at' p ((i + 1) % p.length)) (at' p i)]; exact dt_self _ _)
    rw [← cr_af] at e0
    rw [← dt_af] at e1
    refine ⟨j, hj, ?_⟩
    have hin := hz _ (at_mem hj) e0
    have tp := turn cv hn hi'
    have epv : pv p.length ((i + 1) % p.length) = i := by
      unfold pv
      by_cases e : i + 1 = p.length
      · rw [e, Nat.mod_self, Nat.zero_add, Nat.mod_eq_of_lt (by omega)]; omega
      · have h1 : i + 1 < p.length := by omega
        rw [Nat.mod_eq_of_lt h1]
        have h2 : i + 1 + (p.length - 1) = p.length + i := by omega
        rw [h2, Nat.add_mod_left, Nat.mod_eq_of_lt hi]
    rw [epv] at tp
    have hv := hin ((i + 1) % p.length) hi'
    have e := dt_cr' (at' p i) (at' p ((i + 1) % p.length)) (at' p (((i + 1) % p.length + 1) % p.length)) (at' q j)
    rw [e0, Int.zero_mul, Int.add_zero] at e
    have d := dt_pos hne.symm
    have hle : cr (at' p ((i + 1) % p.length)) (at' p (((i + 1) % p.length + 1) % p.length)) (at' q j) ≤ 0 := by
      refine nonpos_of d ?_ rfl
      rw [← e]
      have := Int.mul_le_mul_of_nonneg_left e1 (Int.le_of_lt tp)
      rwa [Int.mul_zero] at this
    exact only_corner tp e0 (by omega)
  obtain ⟨j, hj, ej⟩ := hA
  obtain ⟨k, hk, ek⟩ := hB
  refine ⟨j, hj, ej, ?_⟩
  by_cases e : k = (j + 1) % q.length
  · rw [← e]; exact ek
  · exfalso
    have hkj : k ≠ j := fun ee => hne (by rw [← ej, ← ek, ee])
    have c1 := cq j k hj hk hkj e
    have c2 := hf _ (at_mem (p := q) (i := (j + 1) % q.length) (Nat.mod_lt _ (by omega)))
    rw [← ej, ← ek, cr_swap] at c2
    omega
theorem wide_stays (hp : IsHull l p) (hq : IsHull (l ++ [x]) q) (hn : 3 ≤ p.length) : 3 ≤ q.length := by
  have cv := hp.1.2.2 (by omega)
  have h : ∀ i, i < p.length → Hs q (at' p i) := fun i hi => hq.2.2 _ (List.mem_append.2 (Or.inl (hp.2.1 _ (at_mem hi))))
  by_cases h1 : q.length = 1
  · exfalso
    have a := (hs1 h1).1 (h 0 (by omega))
    have b := (hs1 h1).1 (h 1 (by omega))
    exact corners_ne cv hn (show 0 < p.length by omega) (show 1 < p.length by omega) (by omega) (a.symm.trans b)
  · by_cases h2 : q.length = 2
    · exfalso
      have a := ((hs2 h2).1 (h 0 (by omega))).1
      have b := ((hs2 h2).1 (h 1 (by omega))).1
      have c := ((hs2 h2).1 (h 2 (by omega))).1
      exact three_not cv hn (on_line (pg_ne hq.1 (by omega)) a b c)
    · have := hq.1.1
      omega
theorem area_more (hp : IsHull l p) (hq : IsHull (l ++ [x]) q) (hn : 3 ≤ p.length) (hx : ¬ Hs p x) : area p.length (at' p) < area q.length (at' q) := by
  have hm := wide_stays hp hq hn
  rw [← shoelace (by omega) (at' p) x, ← shoelace (show 1 ≤ q.length by omega) (at' q) x]
  have hqx : Ins q.length (at' q) x := (hs3 hm).1 (hq.2.2 x (List.mem_append.2 (Or.inr (List.mem_singleton.2 rfl))))
  have key : ∀ i : Nat, ∃ j, i < p.length → 0 < cr (at' p i) (at' p ((i + 1) % p.length)) x → j < q.length ∧ at' q j = at' p i ∧ at' q ((j + 1) % q.length) = at' p ((i + 1) % p.length) := by
    intro i
    by_cases hi : i < p.length ∧ 0 < cr (at' p i) (at' p ((i + 1) % p.length)) x
    · obtain ⟨j, h1, h2, h3⟩ := side_stays hp hq hn hm hi.1 hi.2
      exact ⟨j, fun _ _ => ⟨h1, h2, h3⟩⟩
    · exact ⟨0, fun a b => absurd ⟨a, b⟩ hi⟩
  have hsum := sum_inj p.length (fun i => cr (at' p i) (at' p ((i + 1) % p.length)) x) (fun j => cr (at' q j) (at' q ((j + 1) % q.length)) x) (fun i => (key i).choose) q.length (fun j hj => hqx j hj)
    (fun i hi hg => by
      obtain ⟨h1, h2, h3⟩ := (key i).choose_spec hi hg
      exact ⟨h1, by rw [h2, h3]⟩)
    (fun i i' hi hi' hg hg' e => by
      obtain ⟨_, h2, _⟩ := (key i).choose_spec hi hg
      obtain ⟨_, h2', _⟩ := (key i').choose_spec hi' hg'
      by_cases ee : i = i'
      · exact ee
      · exfalso
        refine corners_ne (hp.1.2.2 (by omega)) hn hi hi' ee ?_

        rw [← h2, ← h2', e])
  refine Int.lt_of_lt_of_le ?_ hsum
  have hex : ∃ i, i < p.length ∧ cr (at' p i) (at' p ((i + 1) % p.length)) x < 0 := by
    by_cases hh : ∃ i, i < p.length ∧ cr (at' p i) (at' p ((i + 1) % p.length)) x < 0
    · exact hh
    · exfalso
      refine hx ((hs3 hn).2 (fun i hi => ?_))
      by_cases hc : 0 ≤ cr (at' p i) (at' p ((i + 1) % p.length)) x
      · exact hc
      · exact absurd ⟨i, hi, by omega⟩ hh
  refine sumN_lt p.length (fun i hi => ?_) ?_
  · split <;> omega
  · obtain ⟨i, hi, hlt⟩ := hex
    refine ⟨i, hi, ?_⟩
    rw [if_neg (by omega)]
    exact hlt
theorem area_small {p : List Pt} (h : p.length < 3) : area p.length (at' p) = 0 := by
  unfold area
  have e : p.length - 2 = 0 := by omega
  rw [e]; rfl
theorem area_nonneg {p : List Pt} (h : Pg p) : 0 ≤ area p.length (at' p) := by
  by_cases h3 : 3 ≤ p.length
  · exact Int.le_of_lt (area_pos (h.2.2 (by omega)) h3)
  · rw [area_small (by omega)]; exact Int.le_refl _
theorem further_in (hp : IsHull l p) (hq : IsHull (l ++ [x]) q) (hx : Hs p x) : q = p :=
  hull_unique hq ⟨hp.1, fun y hy => List.mem_append.2 (Or.inl (hp.2.1 y hy)), fun y hy => by
    rcases List.mem_append.1 hy with h | h
    · exact hp.2.2 y h
    · rw [List.mem_singleton.1 h]; exact hx⟩
theorem further_out (hq : IsHull (l ++ [x]) q) (hx : ¬ Hs p x) : p ≠ q := fun e => hx (by
  rw [e]; exact hq.2.2 x (List.mem_append.2 (Or.inr (List.mem_singleton.2 rfl))))
end
end Hl
end Go.Proofs.Yteglefjnbkocgaa
namespace Go.Proofs.Yteglefjnbkocgaa
namespace Hl
/-- A point on the line of a side, on the left of the sides before and behind it, lies between its ends. -/
theorem on_side {v a b n y : Pt} (h1 : 0 < cr v a b) (h2 : 0 < cr a b n) (e : cr a b y = 0) (g1 : 0 ≤ cr v a y) (g2 : 0 ≤ cr b n y) : 0 ≤ dt a b y ∧ 0 ≤ dt b a y := by
  have hne : a ≠ b := fun ee => by rw [ee] at h2; rw [cr_same] at h2; omega
  have d1 := dt_pos hne
  have d2 := dt_pos hne.symm
  have e1 := dt_cr v a b y
  have e2 := dt_cr' a b n y
  rw [e, Int.zero_mul, Int.add_zero] at e1 e2
  refine ⟨nonneg_of h1 ?_, nonneg_of h2 ?_⟩
  · rw [e1]; exact Int.mul_nonneg g1 (Int.le_of_lt d1)
  · rw [e2]; exact Int.mul_nonneg g2 (Int.le_of_lt d2)
/-- What holds of a point between two others, on the left of a line that has both on its left. -/
theorem mid_zero {u v a b y : Pt} (e : cr a b y = 0) (hy : cr u v y = 0) (ga : 0 ≤ cr u v a) (gb : 0 ≤ cr u v b) (h1 : 0 < dt a b y) (h2 : 0 < dt b a y) : cr u v a = 0 ∧ cr u v b = 0 := by
  have hne : a ≠ b := fun ee => by
    rw [ee] at h1
    have : dt b b y = 0 := by unfold dt; grind
    omega
  have d := dt_pos hne
  have k : dt b a y * cr u v a + dt a b y * cr u v b = dt a b b * cr u v y - cr a b y * ((v.1 - u.1) * (b.1 - a.1) + (v.2 - u.2) * (b.2 - a.2)) := by unfold dt cr; grind
  rw [e, hy, Int.mul_zero, Int.zero_mul, Int.sub_zero] at k
  have m1 := Int.mul_nonneg (Int.le_of_lt h2) ga
  have m2 := Int.mul_nonneg (Int.le_of_lt h1) gb
  refine ⟨?_, ?_⟩
  · by_cases z : cr u v a = 0
    · exact z
    · have := Int.mul_pos h2 (show 0 < cr u v a by omega)
      omega
  · by_cases z : cr u v b = 0
    · exact z
    · have := Int.mul_pos h1 (show 0 < cr u v b by omega)
      omega
theorem dt_zero {a b y : Pt} (h : a ≠ b) (e : cr a b y = 0) (d : dt a b y = 0) : y = a := by
  have p := dt_pos h
  have k1 : dt a b b * (y.1 - a.1) = dt a b y * (b.1 - a.1) - cr a b y * (b.2 - a.2) := by unfold dt cr; grind
  have k2 : dt a b b * (y.2 - a.2) = dt a b y * (b.2 - a.2) + cr a b y * (b.1 - a.1) := by unfold dt cr; grind
  rw [d, e, Int.zero_mul, Int.zero_mul] at k1 k2
  have z1 : y.1 - a.1 = 0 := by
    rcases Int.mul_eq_zero.1 (show dt a b b * (y.1 - a.1) = 0 by omega) with h | h
    · omega
    · exact h
  have z2 : y.2 - a.2 = 0 := by
    rcases Int.mul_eq_zero.1 (show dt a b b * (y.2 - a.2) = 0 by omega) with h | h
    · omega
    · exact h
  exact Prod.ext (by omega) (by omega)
/-- Different corners, all points of l on the left of all sides, left turns only: a convex polygon. -/
theorem cvx_of_sides {n : Nat} {P : Nat → Pt} (hn : 3 ≤ n) (hd : ∀ i j, i < n → j < n → i ≠ j → P i ≠ P j) (hl : ∀ i k, i < n → k < n → 0 ≤ cr (P i) (P ((i + 1) % n)) (P k)) (ht : ∀ i, i < n → 0 < cr (P (pv n i)) (P i) (P ((i + 1) % n))) : Cvx n P := by
  intro i k hi hk hki hki'
  have h0 := hl i k hi hk
  by_cases z : cr (P i) (P ((i + 1) % n)) (P k) = 0
  · exfalso
    have hi' : (i + 1) % n < n := Nat.mod_lt _ (by omega)
    have t1 := ht i hi
    have t2 := ht _ hi'
    have epv : pv n ((i + 1) % n) = i := by
      unfold pv
      by_cases e : i + 1 = n
      · rw [e, Nat.mod_self, Nat.zero_add, Nat.mod_eq_of_lt (by omega)]; omega
      · have h1 : i + 1 < n := by omega
        rw [Nat.mod_eq_of_lt h1]
        have h2 : i + 1 + (n - 1) = n + i := by omega
        rw [h2, Nat.add_mod_left, Nat.mod_eq_of_lt hi]
    rw [epv] at t2
    have hv : pv n i < n := Nat.mod_lt _ (by omega)
    have g1 : 0 ≤ cr (P (pv n i)) (P i) (P k) := by
      have := hl (pv n i) k hv hk
      rwa [pv_next hi] at this
    have g2 := hl ((i + 1) % n) k hi' hk
    obtain ⟨d1, d2⟩ := on_side t1 t2 z g1 g2
    have hne := hd i _ hi hi' (fun e => nx_ne (by omega) hi e.symm)
    have z' : cr (P ((i + 1) % n)) (P i) (P k) = 0 := by rw [cr_swap2]; omega
    have p1 : 0 < dt (P i) (P ((i + 1) % n)) (P k) := by
      by_cases e : dt (P i) (P ((i + 1) % n)) (P k) = 0
      · exact absurd (dt_zero hne z e) (hd k i hk hi hki)
      · omega
    have p2 : 0 < dt (P ((i + 1) % n)) (P i) (P k) := by
      by_cases e : dt (P ((i + 1) % n)) (P i) (P k) = 0
      · exact absurd (dt_zero hne.symm z' e) (hd k _ hk hi' hki')
      · omega
    have tk := ht k hk
    have hkv : pv n k < n := Nat.mod_lt _ (by omega)
    have a1 : 0 ≤ cr (P (pv n k)) (P k) (P i) := by have := hl (pv n k) i hkv hi; rwa [pv_next hk] at this
    have a2 : 0 ≤ cr (P (pv n k)) (P k) (P ((i + 1) % n)) := by have := hl (pv n k) _ hkv hi'; rwa [pv_next hk] at this
    have m1 := mid_zero z (cr_self' _ _) a1 a2 p1 p2
    have m2 := mid_zero z (cr_self _ _) (hl k i hk hi) (hl k _ hk hi') p1 p2
    -- both sides at k lie on one line
    have hk' : (k + 1) % n < n := Nat.mod_lt _ (by omega)
    have nk := hd k i hk hi hki
    have q1 : cr (P k) (P i) (P (pv n k)) = 0 := by rw [← cr_rot]; exact m1.1
    have q2 : cr (P k) (P i) (P ((k + 1) % n)) = 0 := by rw [cr_swap]; rw [m2.1]; rfl
    have q3 : cr (P k) (P i) (P k) = 0 := cr_self _ _
    have := on_line nk q1 q3 q2
    omega
  · omega
theorem hull_of_sides {l p : List Pt} (hn : 3 ≤ p.length) (hm : ∀ x, x ∈ p → x ∈ l) (hd : ∀ i j, i < p.length → j < p.length → i ≠ j → at' p i ≠ at' p j) (hl : ∀ i, i < p.length → ∀ y, y ∈ l → 0 ≤ cr (at' p i) (at' p ((i + 1) % p.length)) y)
    (ht : ∀ i, i < p.length → 0 < cr (at' p (pv p.length i)) (at' p i) (at' p ((i + 1) % p.length))) (h0 : ∀ i, 1 ≤ i → i < p.length → ls (at' p 0) (at' p i)) : IsHull l p :=
  ⟨⟨by omega, h0, fun _ => cvx_of_sides hn hd (fun i k hi hk => hl i hi _ (hm _ (at_mem hk))) ht⟩, hm, fun y hy => (hs3 hn).2 (fun i hi => hl i hi y hy)⟩
end Hl
end Go.Proofs.Yteglefjnbkocgaa
namespace Go.Proofs.Yteglefjnbkocgaa
namespace Hl
/-- A chain over the points L: it goes on by the functional, turns left, has all of L on its left; it begins at the least one of L and ends at the greatest one. -/
structure Chain (u v k : Int) (L : Pt → Prop) (S : List Pt) : Prop where
  some' : 1 ≤ S.length
  inc : ∀ i, i + 1 < S.length → af u v k (at' S i) < af u v k (at' S (i + 1))
  turns : ∀ i, i + 2 < S.length → 0 < cr (at' S i) (at' S (i + 1)) (at' S (i + 2))
  left : ∀ i, i + 1 < S.length → ∀ y, L y → 0 ≤ cr (at' S i) (at' S (i + 1)) y
  low : ∀ y, L y → af u v k (at' S 0) ≤ af u v k y
  mem : ∀ i, i < S.length → L (at' S i)
/-- The same with a further point x that is to come: behind the end of the chain nothing is on the right of the side to x. -/
structure Pend (u v k : Int) (L : Pt → Prop) (S : List Pt) (x : Pt) : Prop extends Chain u v k L S where
  up : ∀ y, L y → af u v k y < af u v k x
  fine : ∀ y, L y → af u v k (at' S (S.length - 1)) ≤ af u v k y → 0 ≤ cr (at' S (S.length - 1)) x y
theorem at_append {p q : List Pt} {i : Nat} (h : i < p.length) : at' (p ++ q) i = at' p i := by
  unfold at'
  simp [List.getD, List.getElem?_append_left h]
theorem at_last (p : List Pt) (x : Pt) : at' (p ++ [x]) p.length = x := by
  unfold at'
  simp [List.getD]
theorem at_take {p : List Pt} {n i : Nat} (h : i < n) (_hn : n ≤ p.length) : at' (p.take n) i = at' p i := by
  unfold at'
  simp [List.getD, h]
theorem Chain.one {u v k : Int} {x : Pt} : Chain u v k (fun y => y = x) [x] :=
  ⟨by simp, fun i h => by simp at h, fun i h => by simp at h, fun i h => by simp at h, fun y h => by rw [h]; exact Int.le_refl _, fun i h => by
    have e : i = 0 := by simpa using h
    subst e; rfl⟩
theorem inc_all {u v k : Int} {S : List Pt} (h : ∀ i, i + 1 < S.length → af u v k (at' S i) < af u v k (at' S (i + 1))) : ∀ i j, i < j → j < S.length → af u v k (at' S i) < af u v k (at' S j) := by
  intro i j hij
  induction j with
  | zero => omega
  | succ j ih =>
    intro hj
    have h1 := h j hj
    by_cases e : i = j
    · rw [e]; exact h1
    · have := ih (by omega) (by omega)
      omega
/-- A point of L behind which nothing lies is where the chain ends: at first nothing is popped. -/
theorem Chain.pend {u v k : Int} {L : Pt → Prop} {S : List Pt} (h : Chain u v k L S) {x : Pt} (hx : ∀ y, L y → af u v k y < af u v k x) (hi : ∀ y, L y → af u v k (at' S (S.length - 1)) ≤ af u v k y → y = at' S (S.length - 1)) : Pend u v k L S x :=
  ⟨h, hx, fun y hy hle => by rw [hi y hy hle, cr_self]; exact Int.le_refl _⟩
/-- The end is popped: the side to it, and to x, does not turn left. -/
theorem Pend.pop {u v k : Int} {L : Pt → Prop} {S : List Pt} {x : Pt} (h : Pend u v k L S x) (h2 : 2 ≤ S.length) (hc : cr (at' S (S.length - 2)) (at' S (S.length - 1)) x ≤ 0) : Pend u v k L (S.take (S.length - 1)) x := by
  have hl : (S.take (S.length - 1)).length = S.length - 1 := by simp
  have hb : S.length - 2 + 1 = S.length - 1 := by omega
  refine ⟨⟨by omega, fun i hi => ?_, fun i hi => ?_, fun i hi y hy => ?_, fun y hy => ?_, fun i hi => ?_⟩, h.up, fun y hy hle => ?_⟩
  · rw [hl] at hi
    rw [at_take (by omega) (by omega), at_take (by omega) (by omega)]
    exact h.inc i (by omega)
  · rw [hl] at hi
    rw [at_take (by omega) (by omega), at_take (by omega) (by omega), at_take (by omega) (by omega)]
    exact h.turns i (by omega)
  · rw [hl] at hi
    rw [at_take (by omega) (by omega), at_take (by omega) (by omega)]
    exact h.left i (by omega) y hy
  · rw [at_take (by omega) (by omega)]
    exact h.low y hy
  · rw [hl] at hi
    rw [at_take (by omega) (by omega)]
    exact h.mem i (by omega)
  · rw [hl] at hle ⊢
    have e : S.length - 1 - 1 = S.length - 2 := by omega
    rw [e, at_take (by omega) (by omega)] at hle ⊢
    have i1 := h.inc (S.length - 2) (by omega)
    have l1 := h.left (S.length - 2) (by omega) y hy
    rw [hb] at i1 l1
    have u1 := h.up _ (h.mem (S.length - 1) (by omega))
    exact pop_left i1 (by omega) hle hc l1
theorem back_left {u v k : Int} {z a x y : Pt} (hza : af u v k z < af u v k a) (hax : af u v k a < af u v k x) (hya : af u v k y ≤ af u v k a) (c1 : 0 < cr z a x) (c2 : 0 ≤ cr z a y) : 0 ≤ cr a x y := by
  have e := tri u v k a z x y
  rw [cr_swap2 z a y, cr_swap2 z a x] at e
  have m1 := Int.mul_nonneg c2 (show 0 ≤ af u v k x - af u v k a by omega)
  have m2 := Int.mul_nonneg (Int.le_of_lt c1) (show 0 ≤ af u v k a - af u v k y by omega)
  refine nonneg_of (show 0 < af u v k a - af u v k z by omega) ?_
  have e2 : (af u v k a - af u v k z) * cr a x y = cr z a y * (af u v k x - af u v k a) + cr z a x * (af u v k a - af u v k y) := by grind
  rw [e2]
  omega
/-- Nothing is to be popped any more: x is the chain's new end. -/
theorem Pend.push {u v k : Int} {L : Pt → Prop} {S : List Pt} {x : Pt} (h : Pend u v k L S x) (hc : 2 ≤ S.length → 0 < cr (at' S (S.length - 2)) (at' S (S.length - 1)) x) : Chain u v k (fun y => L y ∨ y = x) (S ++ [x]) := by
  have hs := h.some'
  have hl : (S ++ [x]).length = S.length + 1 := by simp
  have hinc : ∀ i, i + 1 < (S ++ [x]).length → af u v k (at' (S ++ [x]) i) < af u v k (at' (S ++ [x]) (i + 1)) := by
    intro i hi
    rw [hl] at hi
    rw [at_append (by omega)]
    by_cases e : i + 1 = S.length
    · rw [e, at_last]
      exact h.up _ (h.mem i (by omega))
    · rw [at_append (by omega)]
      exact h.inc i (by omega)
  have hturn : ∀ i, i + 2 < (S ++ [x]).length → 0 < cr (at' (S ++ [x]) i) (at' (S ++ [x]) (i + 1)) (at' (S ++ [x]) (i + 2)) := by
    intro i hi
    rw [hl] at hi
    rw [at_append (by omega), at_append (by omega)]
    by_cases e : i + 2 = S.length
    · rw [e, at_last]
      have e1 : S.length - 2 = i := by omega
      have e2 : S.length - 1 = i + 1 := by omega
      have := hc (by omega)
      rwa [e1, e2] at this
    · rw [at_append (by omega)]
      exact h.turns i (by omega)
  have hall := chain_all (u := u) (v := v) (k := k) (P := at' (S ++ [x])) (S ++ [x]).length hinc hturn
  refine ⟨by omega, hinc, hturn, fun i hi y hy => ?_, fun y hy => ?_, fun i hi => ?_⟩
  · rw [hl] at hi
    rcases hy with hy | rfl
    · rw [at_append (by omega)]
      by_cases e : i + 1 = S.length
      · rw [e, at_last]
        have ei : S.length - 1 = i := by omega
        by_cases hle : af u v k (at' S i) ≤ af u v k y
        · have := h.fine y hy (by rw [ei]; exact hle)
          rwa [ei] at this
        · have h1 : 1 ≤ i := by
            by_cases e0 : i = 0
            · subst e0; exact absurd (h.low y hy) hle
            · omega
          have ez : i - 1 + 1 = i := by omega
          have z1 := h.inc (i - 1) (by omega)
          have z2 := h.left (i - 1) (by omega) y hy
          have z3 := hc (by omega)
          have e2 : S.length - 2 = i - 1 := by omega
          rw [ez] at z1 z2
          rw [ei, e2] at z3
          exact back_left z1 (h.up _ (h.mem i (by omega))) (by omega) z3 z2
      · rw [at_append (by omega)]
        exact h.left i (by omega) y hy
    · by_cases e : i + 1 = S.length
      · rw [e, at_last, cr_self']; exact Int.le_refl _
      · have := hall i (i + 1) S.length (by omega) (by omega) (by omega)
        rw [at_last] at this
        omega
  · rw [at_append (by omega)]
    rcases hy with hy | rfl
    · exact h.low y hy
    · exact Int.le_of_lt (h.up _ (h.mem 0 (by omega)))
  · rw [hl] at hi
    by_cases e : i = S.length
    · rw [e, at_last]; exact Or.inr rfl
    · rw [at_append (by omega)]; exact Or.inl (h.mem i (by omega))
end Hl
end Go.Proofs.Yteglefjnbkocgaa
namespace Go.Proofs.Yteglefjnbkocgaa
namespace Hl
section
variable {u v k : Int} {l S T : List Pt}
theorem neg_af (u v k : Int) (x : Pt) : af (-u) (-v) (-k) x = -(af u v k x) := by unfold af; grind
/-- Two sides that meet at the end of the order, in one line: then all lies in this line. -/
theorem meet_flat {A M B y : Pt} (hA : af u v k A < af u v k M) (hB : af u v k B < af u v k M) (z : cr A M B = 0) (h1 : 0 ≤ cr A M y) (h2 : 0 ≤ cr M B y) : cr A M y = 0 := by
  have e := tri u v k M A B y
  have z1 : cr M A B = 0 := by rw [cr_swap2, z]; rfl
  have z2 : cr M A y = -(cr A M y) := cr_swap2 _ _ _
  rw [z1, z2, Int.zero_mul, Int.sub_zero] at e
  have m1 := Int.mul_nonneg h2 (show 0 ≤ af u v k M - af u v k A by omega)
  have e2 : cr M B y * (af u v k M - af u v k A) + cr A M y * (af u v k M - af u v k B) = 0 := by grind
  by_cases c : cr A M y = 0
  · exact c
  · have := Int.mul_pos (show 0 < cr A M y by omega) (show 0 < af u v k M - af u v k B by omega)
    omega
/-- Behind the last side of a chain the next one turns left, if not all lies in one line. -/
theorem junction (hS : Chain u v k (fun y => y ∈ l) S) (hT : Chain (-u) (-v) (-k) (fun y => y ∈ l) T) (h1 : 2 ≤ S.length) (h2 : 2 ≤ T.length) (h3 : 3 ≤ S.length ∨ 3 ≤ T.length) (e : at' S (S.length - 1) = at' T 0) : 0 < cr (at' S (S.length - 2)) (at' S (S.length - 1)) (at' T 1) := by
  have es : S.length - 2 + 1 = S.length - 1 := by omega
  have iA := hS.inc (S.length - 2) (by omega)
  have lA := hS.left (S.length - 2) (by omega)
  rw [es] at iA lA
  have iB := hT.inc 0 (by omega)
  have lB := hT.left 0 (by omega)
  rw [neg_af, neg_af] at iB
  rw [Nat.zero_add] at iB lB
  rw [← e] at iB lB
  have g := lA _ (hT.mem 1 (by omega))
  by_cases z : cr (at' S (S.length - 2)) (at' S (S.length - 1)) (at' T 1) = 0
  · exfalso
    have flat : ∀ y, y ∈ l → cr (at' S (S.length - 2)) (at' S (S.length - 1)) y = 0 := fun y hy => meet_flat iA (by omega) z (lA y hy) (lB y hy)
    have ne : at' S (S.length - 2) ≠ at' S (S.length - 1) := fun ee => by rw [ee] at iA; omega
    rcases h3 with h3 | h3
    · have t := hS.turns 0 (by omega)
      have := on_line ne (flat _ (hS.mem 0 (by omega))) (flat _ (hS.mem (0 + 1) (by omega))) (flat _ (hS.mem (0 + 2) (by omega)))
      omega
    · have t := hT.turns 0 (by omega)
      have := on_line ne (flat _ (hT.mem 0 (by omega))) (flat _ (hT.mem (0 + 1) (by omega))) (flat _ (hT.mem (0 + 2) (by omega)))
      omega
  · omega
/-- Both chains share their ends alone. -/
theorem chains_apart (hS : Chain u v k (fun y => y ∈ l) S) (hT : Chain (-u) (-v) (-k) (fun y => y ∈ l) T) {i b : Nat} (hi0 : 1 ≤ i) (hi : i + 1 < S.length) (hb : b + 1 < T.length) : at' S i ≠ at' T b := by
  intro e
  have ei : i - 1 + 1 = i := by omega
  have ei2 : i - 1 + 2 = i + 1 := by omega
  have t := hS.turns (i - 1) (by omega)
  rw [ei, ei2] at t
  have g1 := hS.inc i hi
  have g2 := hT.inc b hb
  rw [neg_af, neg_af, ← e] at g2
  have l1 := hT.left b hb _ (hS.mem (i + 1) hi)
  rw [← e] at l1
  have l2 := hS.left i hi _ (hT.mem (b + 1) hb)
  have l3 := hS.left (i - 1) (by omega) _ (hT.mem (b + 1) hb)
  rw [ei] at l3
  have z : cr (at' S i) (at' S (i + 1)) (at' T (b + 1)) = 0 := by rw [cr_swap] at l1; omega
  have q := tri u v k (at' S i) (at' S (i + 1)) (at' T (b + 1)) (at' S (i - 1))
  rw [z, Int.zero_mul, Int.sub_zero, ← cr_rot, ← cr_rot (at' S (i - 1)) (at' S i) (at' S (i + 1))] at q
  have m1 := Int.mul_nonneg l3 (show 0 ≤ af u v k (at' S (i + 1)) - af u v k (at' S i) by omega)
  have m2 := Int.mul_pos t (show 0 < af u v k (at' S i) - af u v k (at' T (b + 1)) by omega)
  have q2 : cr (at' S (i - 1)) (at' S i) (at' T (b + 1)) * (af u v k (at' S (i + 1)) - af u v k (at' S i)) + cr (at' S (i - 1)) (at' S i) (at' S (i + 1)) * (af u v k (at' S i) - af u v k (at' T (b + 1))) = 0 := by grind
  omega
theorem btw_of {a b y : Pt} (hab : af u v k a < af u v k b) (c : cr a b y = 0) (h1 : af u v k a ≤ af u v k y) (h2 : af u v k y ≤ af u v k b) : btw a b y := by
  have s1 := seg1 u v k a b y
  have s2 := seg2 u v k a b y
  rw [c, Int.mul_zero, Int.add_zero] at s1
  rw [c, Int.mul_zero, Int.sub_zero] at s2
  have key : ∀ d e : Int, d * (af u v k y - af u v k a) = e * (af u v k b - af u v k a) → (0 ≤ e ∧ e ≤ d) ∨ (d ≤ e ∧ e ≤ 0) := by
    intro d e h
    rcases Int.le_total 0 d with hd | hd
    · left
      constructor
      · have := Int.mul_nonneg hd (show 0 ≤ af u v k y - af u v k a by omega)
        exact nonneg_of (show 0 < af u v k b - af u v k a by omega) (by rw [Int.mul_comm]; omega)
      · have := Int.mul_nonneg hd (show 0 ≤ af u v k b - af u v k y by omega)
        have e3 : (af u v k b - af u v k a) * (d - e) = d * (af u v k b - af u v k y) := by grind
        have := nonneg_of (show 0 < af u v k b - af u v k a by omega) (show 0 ≤ (af u v k b - af u v k a) * (d - e) by rw [e3]; exact this)
        omega
    · right
      constructor
      · have := Int.mul_nonneg (show 0 ≤ -d by omega) (show 0 ≤ af u v k b - af u v k y by omega)
        have e3 : (af u v k b - af u v k a) * (e - d) = (-d) * (af u v k b - af u v k y) := by grind
        have := nonneg_of (show 0 < af u v k b - af u v k a by omega) (show 0 ≤ (af u v k b - af u v k a) * (e - d) by rw [e3]; exact this)
        omega
      · have := Int.mul_nonneg (show 0 ≤ -d by omega) (show 0 ≤ af u v k y - af u v k a by omega)
        have e3 : (af u v k b - af u v k a) * (-e) = (-d) * (af u v k y - af u v k a) := by grind
        have := nonneg_of (show 0 < af u v k b - af u v k a by omega) (show 0 ≤ (af u v k b - af u v k a) * (-e) by rw [e3]; exact this)
        omega
  have k1 := key _ _ s1
  have k2 := key _ _ s2
  unfold btw
  omega
theorem two_chains (hS : Chain u v k (fun y => y ∈ l) S) (hT : Chain (-u) (-v) (-k) (fun y => y ∈ l) T) (h1 : 2 ≤ S.length) (h2 : 2 ≤ T.length) (eM : at' S (S.length - 1) = at' T 0) (em : at' T (T.length - 1) = at' S 0)
    (hls : ∀ y z, y ∈ l → z ∈ l → af u v k y < af u v k z → ls y z) : IsHull l (S.take (S.length - 1) ++ T.take (T.length - 1)) := by
  obtain ⟨s, hs⟩ : ∃ s, S.length = s + 1 := ⟨S.length - 1, by omega⟩
  obtain ⟨t, ht⟩ : ∃ t, T.length = t + 1 := ⟨T.length - 1, by omega⟩
  have ls1 : S.length - 1 = s := by omega
  have lt1 : T.length - 1 = t := by omega
  rw [ls1] at eM ⊢
  rw [lt1] at em ⊢
  obtain ⟨p, hp⟩ : ∃ p, S.take s ++ T.take t = p := ⟨_, rfl⟩
  have hn : p.length = s + t := by rw [← hp]; simp; omega
  have aS : ∀ i, i < s → at' p i = at' S i := fun i hi => by
    rw [← hp, at_append (by simp; omega), at_take hi (by omega)]
  have aT : ∀ j, j < t → at' p (s + j) = at' T j := fun j hj => by
    have h : at' (S.take s ++ T.take t) (s + j) = at' (T.take t) j := by
      have hl : (S.take s).length = s := by simp; omega
      unfold at'
      simp only [List.getD, List.getElem?_append_right (show (S.take s).length ≤ s + j by omega), hl, Nat.add_sub_cancel_left]
    rw [← hp, h, at_take hj (by omega)]
  rw [hp]
  have nS : ∀ i, i < s → at' p ((i + 1) % p.length) = at' S (i + 1) := fun i hi => by
    rw [hn, Nat.mod_eq_of_lt (by omega)]
    by_cases e : i + 1 = s
    · have := aT 0 (by omega)
      rw [Nat.add_zero] at this
      rw [e, this, eM]
    · exact aS _ (by omega)
  have nT : ∀ j, j < t → at' p ((s + j + 1) % p.length) = at' T (j + 1) := fun j hj => by
    by_cases e : j + 1 = t
    · have e2 : s + j + 1 = s + t := by omega
      rw [hn, e2, Nat.mod_self, aS 0 (by omega), e, em]
    · rw [hn, Nat.mod_eq_of_lt (by omega)]
      exact aT (j + 1) (by omega)
  have incS := inc_all hS.inc
  have incT := inc_all hT.inc
  have hm : ∀ x, x ∈ p → x ∈ l := fun x hx => by
    obtain ⟨i, hi, e⟩ := mem_at hx
    rw [← e]
    by_cases c : i < s
    · rw [aS i c]; exact hS.mem i (by omega)
    · obtain ⟨j, hj⟩ : ∃ j, i = s + j := ⟨i - s, by omega⟩
      rw [hj, aT j (by omega)]; exact hT.mem j (by omega)
  have cross : ∀ i j, i < s → j < t → at' S i ≠ at' T j := fun i j hi hj e => by
    by_cases e0 : i = 0
    · subst e0
      rw [← em] at e
      have := incT j t hj (by omega)
      rw [e] at this
      omega
    · by_cases j0 : j = 0
      · subst j0
        rw [← eM] at e
        have := incS i s hi (by omega)
        rw [e] at this
        omega
      · exact chains_apart hS hT (by omega) (by omega) (by omega) e
  have hd : ∀ i j, i < p.length → j < p.length → i ≠ j → at' p i ≠ at' p j := by
    have half : ∀ i j, i < j → j < p.length → at' p i ≠ at' p j := by
      intro i j hij hj e
      by_cases ci : i < s
      · by_cases cj : j < s
        · rw [aS i ci, aS j cj] at e
          have := incS i j hij (by omega)
          rw [e] at this
          omega
        · obtain ⟨b, hb⟩ : ∃ b, j = s + b := ⟨j - s, by omega⟩
          rw [aS i ci, hb, aT b (by omega)] at e
          exact cross i b ci (by omega) e
      · obtain ⟨a, ha⟩ : ∃ a, i = s + a := ⟨i - s, by omega⟩
        obtain ⟨b, hb⟩ : ∃ b, j = s + b := ⟨j - s, by omega⟩
        rw [ha, hb, aT a (by omega), aT b (by omega)] at e
        have := incT a b (by omega) (by omega)
        rw [e] at this
        omega
    intro i j hi hj hne e
    rcases Nat.lt_or_gt_of_ne hne with c | c
    · exact half i j c hj e
    · exact half j i c hi e.symm
  have hl : ∀ i, i < p.length → ∀ y, y ∈ l → 0 ≤ cr (at' p i) (at' p ((i + 1) % p.length)) y := fun i hi y hy => by
    by_cases c : i < s
    · rw [aS i c, nS i c]; exact hS.left i (by omega) y hy
    · obtain ⟨j, hj⟩ : ∃ j, i = s + j := ⟨i - s, by omega⟩
      rw [hj, aT j (by omega), nT j (by omega)]; exact hT.left j (by omega) y hy
  have h0 : ∀ i, 1 ≤ i → i < p.length → ls (at' p 0) (at' p i) := fun i h1' hi => by
    refine hls _ _ (hm _ (at_mem (by omega))) (hm _ (at_mem hi)) ?_
    rw [aS 0 (by omega)]
    by_cases c : i < s
    · rw [aS i c]; exact incS 0 i (by omega) (by omega)
    · obtain ⟨j, hj⟩ : ∃ j, i = s + j := ⟨i - s, by omega⟩
      rw [hj, aT j (by omega)]
      have := incT j t (by omega) (by omega)
      rw [neg_af, neg_af, em] at this
      omega
  by_cases h3 : 3 ≤ p.length
  · refine hull_of_sides h3 hm hd hl (fun i hi => ?_) h0
    have cond : 3 ≤ S.length ∨ 3 ≤ T.length := by omega
    by_cases c : i < s
    · rw [nS i c]
      by_cases e0 : i = 0
      · subst e0
        have epv : pv p.length 0 = s + (t - 1) := by
          unfold pv
          rw [hn, Nat.zero_add, Nat.mod_eq_of_lt (by omega)]; omega
        rw [epv, aT _ (by omega), aS 0 (by omega)]
        have hS' : Chain (- -u) (- -v) (- -k) (fun y => y ∈ l) S := by rw [Int.neg_neg, Int.neg_neg, Int.neg_neg]; exact hS
        have := junction hT hS' h2 h1 cond.symm (by rw [lt1]; exact em)
        have e3 : T.length - 2 = t - 1 := by omega
        rw [e3, lt1, em] at this
        exact this
      · have epv : pv p.length i = i - 1 := by
          unfold pv
          have : i + (p.length - 1) = p.length + (i - 1) := by omega
          rw [this, Nat.add_mod_left, Nat.mod_eq_of_lt (by omega)]
        rw [epv, aS _ (by omega), aS i c]
        have := hS.turns (i - 1) (by omega)
        have e1 : i - 1 + 1 = i := by omega
        have e2 : i - 1 + 2 = i + 1 := by omega
        rwa [e1, e2] at this
    · obtain ⟨j, hj⟩ : ∃ j, i = s + j := ⟨i - s, by omega⟩
      subst hj
      rw [nT j (by omega)]
      have epv : pv p.length (s + j) = s + j - 1 := by
        unfold pv
        have : s + j + (p.length - 1) = p.length + (s + j - 1) := by omega
        rw [this, Nat.add_mod_left, Nat.mod_eq_of_lt (by omega)]
      rw [epv]
      by_cases e0 : j = 0
      · subst e0
        have e5 : s + 0 - 1 = s - 1 := by omega
        rw [e5, aS _ (by omega), aT 0 (by omega), ← eM]
        have := junction hS hT h1 h2 cond (by rw [ls1]; exact eM)
        have e3 : S.length - 2 = s - 1 := by omega
        rw [e3, ls1] at this
        exact this
      · have e4 : s + j - 1 = s + (j - 1) := by omega
        rw [e4, aT _ (by omega), aT j (by omega)]
        have := hT.turns (j - 1) (by omega)
        have e1 : j - 1 + 1 = j := by omega
        have e2 : j - 1 + 2 = j + 1 := by omega
        rwa [e1, e2] at this
  · have s1 : s = 1 := by omega
    have t1 : t = 1 := by omega
    subst s1 t1
    refine ⟨⟨by omega, h0, fun h => by omega⟩, hm, fun y hy => ?_⟩
    rw [hs2 (by omega)]
    have p0 := aS 0 (by omega)
    have p1 := aT 0 (by omega)
    rw [Nat.add_zero, ← eM] at p1
    rw [p0, p1]
    have l1 := hS.left 0 (by omega) y hy
    have l2 := hT.left 0 (by omega) y hy
    rw [Nat.zero_add, ← eM, em] at l2
    rw [Nat.zero_add] at l1
    rw [cr_swap2] at l2
    have g := hS.inc 0 (by omega)
    rw [Nat.zero_add] at g
    have lo := hS.low y hy
    have up := hT.low y hy
    rw [neg_af, neg_af, ← eM] at up
    exact ⟨by omega, btw_of g (by omega) lo (by omega)⟩
end
end Hl
end Go.Proofs.Yteglefjnbkocgaa
