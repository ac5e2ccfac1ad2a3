/-
  Plain geometry: with a further place the area of a hull is greater.
-/
import Derived.Test.YtmijlfbmmegfbaaHullHl
namespace Go.Proofs.Ytmijlfbmmegfbaa
namespace Hl
/-! ### Sums over some of the sides -/
theorem sumN_update (h : Nat → Int) (k : Nat) : ∀ m, k < m → sumN (fun j => if j = k then 0 else h j) m = sumN h m - h k
  | 0, hk => by omega
  | m + 1, hk => by
    have e1 : sumN (fun j => if j = k then 0 else h j) (m + 1) = sumN (fun j => if j = k then 0 else h j) m + (if m = k then 0 else h m) := rfl
    have e2 : sumN h (m + 1) = sumN h m + h m := rfl
    rw [e1, e2]
    by_cases e : m = k
    · rw [if_pos e]
      have c : sumN (fun j => if j = k then 0 else h j) m = sumN h m := sumN_congr m (fun i hi => if_neg (by omega))
      rw [c, e]
      omega
    · rw [if_neg e, sumN_update h k m (by omega)]
      omega
theorem sum_inj : ∀ (n : Nat) (g h : Nat → Int) (f : Nat → Nat) (m : Nat), (∀ j, j < m → 0 ≤ h j) → (∀ i, i < n → 0 < g i → f i < m ∧ h (f i) = g i) → (∀ i i', i < n → i' < n → 0 < g i → 0 < g i' → f i = f i' → i = i') →
    sumN (fun i => if 0 < g i then g i else 0) n ≤ sumN h m
  | 0, g, h, f, m, h0, _, _ => by
    have : sumN (fun _ => 0) m ≤ sumN h m := sumN_le m (fun i hi => h0 i hi)
    have z : ∀ m, sumN (fun _ => (0 : Int)) m = 0 := by
      intro m
      induction m with
      | zero => rfl
      | succ m ih =>
        have e : sumN (fun _ => (0 : Int)) (m + 1) = sumN (fun _ => (0 : Int)) m + 0 := rfl
        rw [e, ih]; rfl
    rw [z] at this
    exact this
  | n + 1, g, h, f, m, h0, hf, hi => by
    have e : sumN (fun i => if 0 < g i then g i else 0) (n + 1) = sumN (fun i => if 0 < g i then g i else 0) n + (if 0 < g n then g n else 0) := rfl
    rw [e]
    by_cases hp : 0 < g n
    · rw [if_pos hp]
      obtain ⟨hm, he⟩ := hf n (by omega) hp
      have ih := sum_inj n g (fun j => if j = f n then 0 else h j) f m (fun j hj => by
          by_cases ej : j = f n
          · rw [if_pos ej]; exact Int.le_refl _
          · rw [if_neg ej]; exact h0 j hj) (fun i hlt hpi => by
          obtain ⟨a, b⟩ := hf i (by omega) hpi
          refine ⟨a, ?_⟩
          rw [if_neg]
          · exact b
          · intro ee
            have := hi i n (by omega) (by omega) hpi hp ee
            omega) (fun i i' a b c d => hi i i' (by omega) (by omega) c d)
      rw [sumN_update h (f n) m hm, he] at ih
      omega
    · rw [if_neg hp]
      have ih := sum_inj n g h f m h0 (fun i hlt => hf i (by omega)) (fun i i' a b => hi i i' (by omega) (by omega))
      omega

/-! ### A side that sees the place on its left is a side of the greater hull -/
def dt (a b y : Pt) : Int := (b.1 - a.1) * (y.1 - a.1) + (b.2 - a.2) * (y.2 - a.2)
theorem dt_af (a b y : Pt) : dt a b y = af (b.1 - a.1) (b.2 - a.2) (-((b.1 - a.1) * a.1 + (b.2 - a.2) * a.2)) y := by unfold dt af; grind
theorem dt_self (a b : Pt) : dt a b a = 0 := by unfold dt; grind
theorem dt_cr (v a b y : Pt) : cr v a b * dt a b y = cr v a y * dt a b b + cr a b y * ((b.1 - a.1) * (v.1 - a.1) + (b.2 - a.2) * (v.2 - a.2)) := by unfold cr dt; grind
theorem dt_cr' (a b n y : Pt) : cr a b n * dt b a y = cr b n y * dt b a a + cr a b y * ((a.1 - b.1) * (n.1 - b.1) + (a.2 - b.2) * (n.2 - b.2)) := by unfold cr dt; grind
theorem dt_pos {a b : Pt} (h : a ≠ b) : 0 < dt a b b := by
  have e : dt a b b = (b.1 - a.1) * (b.1 - a.1) + (b.2 - a.2) * (b.2 - a.2) := rfl
  rw [e]
  have s1 : 0 ≤ (b.1 - a.1) * (b.1 - a.1) := by
    rcases Int.le_total 0 (b.1 - a.1) with k | k
    · exact Int.mul_nonneg k k
    · have := Int.mul_nonneg (show 0 ≤ -(b.1 - a.1) by omega) (show 0 ≤ -(b.1 - a.1) by omega)
      rwa [Int.neg_mul_neg] at this
  have s2 : 0 ≤ (b.2 - a.2) * (b.2 - a.2) := by
    rcases Int.le_total 0 (b.2 - a.2) with k | k
    · exact Int.mul_nonneg k k
    · have := Int.mul_nonneg (show 0 ≤ -(b.2 - a.2) by omega) (show 0 ≤ -(b.2 - a.2) by omega)
      rwa [Int.neg_mul_neg] at this
  by_cases e1 : b.1 - a.1 = 0
  · have e2 : b.2 - a.2 ≠ 0 := fun e2 => h (Prod.ext (by omega) (by omega))
    rcases Int.lt_or_gt_of_ne e2 with k | k
    · have := Int.mul_pos (show 0 < -(b.2 - a.2) by omega) (show 0 < -(b.2 - a.2) by omega)
      rw [Int.neg_mul_neg] at this
      omega
    · have := Int.mul_pos (show 0 < b.2 - a.2 by omega) (show 0 < b.2 - a.2 by omega)
      omega
  · rcases Int.lt_or_gt_of_ne e1 with k | k
    · have := Int.mul_pos (show 0 < -(b.1 - a.1) by omega) (show 0 < -(b.1 - a.1) by omega)
      rw [Int.neg_mul_neg] at this
      omega
    · have := Int.mul_pos (show 0 < b.1 - a.1 by omega) (show 0 < b.1 - a.1 by omega)
      omega
/-- Of two functionals the first one counts, however great the second one is: a corner of the polygon that is least. -/
theorem least_two {q : List Pt} (hq : Pg q) {A : Pt} (hA : Hs q A) (u v k u' v' k' : Int) (hf : ∀ y, y ∈ q → 0 ≤ af u v k y) (h0 : af u v k A = 0) (h1 : af u' v' k' A = 0) : ∃ j, j < q.length ∧ af u v k (at' q j) = 0 ∧ af u' v' k' (at' q j) ≤ 0 := by
  obtain ⟨M, hM, hb⟩ := steep (fun i => -(af u' v' k' (at' q i))) q.length
  obtain ⟨j, hj, hle⟩ := hs_least hq hA (M * u + u') (M * v + v') (M * k + k')
  have e : ∀ y, af (M * u + u') (M * v + v') (M * k + k') y = M * af u v k y + af u' v' k' y := fun y => by unfold af; grind
  rw [e, e, h0, h1] at hle
  have hfj := hf _ (at_mem hj)
  have hbj := hb j hj

  refine ⟨j, hj, ?_, ?_⟩
  · by_cases z : af u v k (at' q j) = 0
    · exact z
    · exfalso
      have := Int.mul_le_mul_of_nonneg_left (show 1 ≤ af u v k (at' q j) by omega) (Int.le_of_lt hM)
      omega
  · by_cases z : af u v k (at' q j) = 0
    · rw [z] at hle; omega
    · exfalso
      have := Int.mul_le_mul_of_nonneg_left (show 1 ≤ af u v k (at' q j) by omega) (Int.le_of_lt hM)
      omega
theorem nonpos_of {d s t : Int} (hd : 0 < d) (hs : s * d ≤ 0) (ht : t = s) : t ≤ 0 := by
  rw [ht]
  by_cases h : s ≤ 0
  · exact h
  · have := Int.mul_pos (show 0 < s by omega) hd
    omega
section
variable {l p q : List Pt} {x : Pt}
theorem side_stays (hp : IsHull l p) (hq : IsHull (l ++ [x]) q) (hn : 3 ≤ p.length) (hm : 3 ≤ q.length) {i : Nat} (hi : i < p.length) (hg : 0 < cr (at' p i) (at' p ((i + 1) % p.length)) x) :
    ∃ j, j < q.length ∧ at' q j = at' p i ∧ at' q ((j + 1) % q.length) = at' p ((i + 1) % p.length) := by
  have cv := hp.1.2.2 (by omega)
  have cq := hq.1.2.2 (by omega)
  have hi' : (i + 1) % p.length < p.length := Nat.mod_lt _ (by omega)
  have hl : ∀ y, y ∈ l → Ins p.length (at' p) y := fun y hy => (hs3 hn).1 (hp.2.2 y hy)
  -- every corner of q is on the left of the side, or on it
  have hf : ∀ y, y ∈ q → 0 ≤ cr (at' p i) (at' p ((i + 1) % p.length)) y := fun y hy => by
    rcases List.mem_append.1 (hq.2.1 y hy) with h | h
    · exact hl y h i hi
    · rw [List.mem_singleton.1 h]; omega
  have hz : ∀ y, y ∈ q → cr (at' p i) (at' p ((i + 1) % p.length)) y = 0 → Ins p.length (at' p) y := fun y hy e => by
    rcases List.mem_append.1 (hq.2.1 y hy) with h | h
    · exact hl y h
    · rw [List.mem_singleton.1 h] at e; omega
  have hne := corners_ne cv hn hi hi' (nx_ne (by omega) hi).symm
  have inA : Hs q (at' p i) := hq.2.2 _ (List.mem_append.2 (Or.inl (hp.2.1 _ (at_mem hi))))
  have inB : Hs q (at' p ((i + 1) % p.length)) := hq.2.2 _ (List.mem_append.2 (Or.inl (hp.2.1 _ (at_mem hi'))))
  -- the first corner
  have hA : ∃ j, j < q.length ∧ at' q j = at' p i := by
    obtain ⟨j, hj, e0, e1⟩ := least_two hq.1 inA _ _ _ _ _ _ (fun y hy => by rw [← cr_af]; exact hf y hy) (by rw [← cr_af]; exact cr_self _ _) (by rw [← dt_af (at' p i) (at' p ((i + 1) % p.length))]; exact dt_self _ _)
    rw [← cr_af] at e0
    rw [← dt_af] at e1
    refine ⟨j, hj, ?_⟩
    have hin := hz _ (at_mem hj) e0
    have tp := turn cv hn hi
    have hv := ins_pv hin hi
    have e := dt_cr (at' p (pv p.length i)) (at' p i) (at' p ((i + 1) % p.length)) (at' q j)
    rw [e0, Int.zero_mul, Int.add_zero] at e
    have d := dt_pos hne
    have hle : cr (at' p (pv p.length i)) (at' p i) (at' q j) ≤ 0 := by
      refine nonpos_of d ?_ rfl
      rw [← e]
      have := Int.mul_le_mul_of_nonneg_left e1 (Int.le_of_lt tp)
      rwa [Int.mul_zero] at this
    exact only_corner tp (by omega) e0
  -- the second corner
  have hB : ∃ j, j < q.length ∧ at' q j = at' p ((i + 1) % p.length) := by
    obtain ⟨j, hj, e0, e1⟩ := least_two hq.1 inB _ _ _ _ _ _ (fun y hy => by rw [← cr_af]; exact hf y hy) (by rw [← cr_af]; exact cr_self' _ _) (by rw [← dt_af (at' p ((i + 1) % p.length)) (at' p i)]; exact dt_self _ _)
    rw [← cr_af] at e0
    rw [← dt_af] at e1
    refine ⟨j, hj, ?_⟩
    have hin := hz _ (at_mem hj) e0
    have tp := turn cv hn hi'
    have epv : pv p.length ((i + 1) % p.length) = i := by
      unfold pv
      by_cases e : i + 1 = p.length
      · rw [e, Nat.mod_self, Nat.zero_add, Nat.mod_eq_of_lt (by omega)]; omega
      · have h1 : i + 1 < p.length := by omega
        rw [Nat.mod_eq_of_lt h1]
        have h2 : i + 1 + (p.length - 1) = p.length + i := by omega
        rw [h2, Nat.add_mod_left, Nat.mod_eq_of_lt hi]
    rw [epv] at tp
    have hv := hin ((i + 1) % p.length) hi'
    have e := dt_cr' (at' p i) (at' p ((i + 1) % p.length)) (at' p (((i + 1) % p.length + 1) % p.length)) (at' q j)
    rw [e0, Int.zero_mul, Int.add_zero] at e
    have d := dt_pos hne.symm
    have hle : cr (at' p ((i + 1) % p.length)) (at' p (((i + 1) % p.length + 1) % p.length)) (at' q j) ≤ 0 := by
      refine nonpos_of d ?_ rfl
      rw [← e]
      have := Int.mul_le_mul_of_nonneg_left e1 (Int.le_of_lt tp)
      rwa [Int.mul_zero] at this
    exact only_corner tp e0 (by omega)
  obtain ⟨j, hj, ej⟩ := hA
  obtain ⟨k, hk, ek⟩ := hB
  refine ⟨j, hj, ej, ?_⟩
  by_cases e : k = (j + 1) % q.length
  · rw [← e]; exact ek
  · exfalso
    have hkj : k ≠ j := fun ee => hne (by rw [← ej, ← ek, ee])
    have c1 := cq j k hj hk hkj e
    have c2 := hf _ (at_mem (p := q) (i := (j + 1) % q.length) (Nat.mod_lt _ (by omega)))
    rw [← ej, ← ek, cr_swap] at c2
    omega
theorem wide_stays (hp : IsHull l p) (hq : IsHull (l ++ [x]) q) (hn : 3 ≤ p.length) : 3 ≤ q.length := by
  have cv := hp.1.2.2 (by omega)
  have h : ∀ i, i < p.length → Hs q (at' p i) := fun i hi => hq.2.2 _ (List.mem_append.2 (Or.inl (hp.2.1 _ (at_mem hi))))
  by_cases h1 : q.length = 1
  · exfalso
    have a := (hs1 h1).1 (h 0 (by omega))
    have b := (hs1 h1).1 (h 1 (by omega))
    exact corners_ne cv hn (show 0 < p.length by omega) (show 1 < p.length by omega) (by omega) (a.symm.trans b)
  · by_cases h2 : q.length = 2
    · exfalso
      have a := ((hs2 h2).1 (h 0 (by omega))).1
      have b := ((hs2 h2).1 (h 1 (by omega))).1
      have c := ((hs2 h2).1 (h 2 (by omega))).1
      exact three_not cv hn (on_line (pg_ne hq.1 (by omega)) a b c)
    · have := hq.1.1
      omega
theorem area_more (hp : IsHull l p) (hq : IsHull (l ++ [x]) q) (hn : 3 ≤ p.length) (hx : ¬ Hs p x) : area p.length (at' p) < area q.length (at' q) := by
  have hm := wide_stays hp hq hn
  rw [← shoelace (by omega) (at' p) x, ← shoelace (show 1 ≤ q.length by omega) (at' q) x]
  have hqx : Ins q.length (at' q) x := (hs3 hm).1 (hq.2.2 x (List.mem_append.2 (Or.inr (List.mem_singleton.2 rfl))))
  have key : ∀ i : Nat, ∃ j, i < p.length → 0 < cr (at' p i) (at' p ((i + 1) % p.length)) x → j < q.length ∧ at' q j = at' p i ∧ at' q ((j + 1) % q.length) = at' p ((i + 1) % p.length) := by
    intro i
    by_cases hi : i < p.length ∧ 0 < cr (at' p i) (at' p ((i + 1) % p.length)) x
    · obtain ⟨j, h1, h2, h3⟩ := side_stays hp hq hn hm hi.1 hi.2
      exact ⟨j, fun _ _ => ⟨h1, h2, h3⟩⟩
    · exact ⟨0, fun a b => absurd ⟨a, b⟩ hi⟩
  have hsum := sum_inj p.length (fun i => cr (at' p i) (at' p ((i + 1) % p.length)) x) (fun j => cr (at' q j) (at' q ((j + 1) % q.length)) x) (fun i => (key i).choose) q.length (fun j hj => hqx j hj)
    (fun i hi hg => by
      obtain ⟨h1, h2, h3⟩ := (key i).choose_spec hi hg
      exact ⟨h1, by rw [h2, h3]⟩)
    (fun i i' hi hi' hg hg' e => by
      obtain ⟨_, h2, _⟩ := (key i).choose_spec hi hg
      obtain ⟨_, h2', _⟩ := (key i').choose_spec hi' hg'
      by_cases ee : i = i'
      · exact ee
      · exfalso
        refine corners_ne (hp.1.2.2 (by omega)) hn hi hi' ee ?_

        rw [← h2, ← h2', e])
  refine Int.lt_of_lt_of_le ?_ hsum
  have hex : ∃ i, i < p.length ∧ cr (at' p i) (at' p ((i + 1) % p.length)) x < 0 := by
    by_cases hh : ∃ i, i < p.length ∧ cr (at' p i) (at' p ((i + 1) % p.length)) x < 0
    · exact hh
    · exfalso
      refine hx ((hs3 hn).2 (fun i hi => ?_))
      by_cases hc : 0 ≤ cr (at' p i) (at' p ((i + 1) % p.length)) x
      · exact hc
      · exact absurd ⟨i, hi, by omega⟩ hh
  refine sumN_lt p.length (fun i hi => ?_) ?_
  · split <;> omega
  · obtain ⟨i, hi, hlt⟩ := hex
    refine ⟨i, hi, ?_⟩
    rw [if_neg (by omega)]
    exact hlt
theorem area_small {p : List Pt} (h : p.length < 3) : area p.length (at' p) = 0 := by
  unfold area
  have e : p.length - 2 = 0 := by omega
  rw [e]; rfl
theorem area_nonneg {p : List Pt} (h : Pg p) : 0 ≤ area p.length (at' p) := by
  by_cases h3 : 3 ≤ p.length
  · exact Int.le_of_lt (area_pos (h.2.2 (by omega)) h3)
  · rw [area_small (by omega)]; exact Int.le_refl _
theorem further_in (hp : IsHull l p) (hq : IsHull (l ++ [x]) q) (hx : Hs p x) : q = p :=
  hull_unique hq ⟨hp.1, fun y hy => List.mem_append.2 (Or.inl (hp.2.1 y hy)), fun y hy => by
    rcases List.mem_append.1 hy with h | h
    · exact hp.2.2 y h
    · rw [List.mem_singleton.1 h]; exact hx⟩
theorem further_out (hq : IsHull (l ++ [x]) q) (hx : ¬ Hs p x) : p ≠ q := fun e => hx (by
  rw [e]; exact hq.2.2 x (List.mem_append.2 (Or.inr (List.mem_singleton.2 rfl))))
end
end Hl
end Go.Proofs.Ytmijlfbmmegfbaa
