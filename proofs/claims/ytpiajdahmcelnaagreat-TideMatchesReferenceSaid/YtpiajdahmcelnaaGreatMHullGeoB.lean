/-
  Plain geometry: polygons as lists, and that places have one hull at most. No Go, no program.
  Plain geometry: areas, and places in the middle. No Go, no program.
  Plain geometry: bounds of a polygon, and chains that turn left. No Go, no program.
-/
import Derived.Test.YtpiajdahmcelnaaGreatMHullGeo
namespace Go.Proofs.YtpiajdahmcelnaaGreat
namespace Hl

def at' (p : List Pt) (i : Nat) : Pt := p.getD i (0, 0)
/-- A place on the line of two others is between them, or one of them. -/
def btw (a b x : Pt) : Prop := (a.1 ≤ x.1 ∧ x.1 ≤ b.1 ∨ b.1 ≤ x.1 ∧ x.1 ≤ a.1) ∧ (a.2 ≤ x.2 ∧ x.2 ≤ b.2 ∨ b.2 ≤ x.2 ∧ x.2 ≤ a.2)
/-- A polygon with any number of corners. -/
def Pg (p : List Pt) : Prop := 1 ≤ p.length ∧ (∀ i, 1 ≤ i → i < p.length → ls (at' p 0) (at' p i)) ∧ (2 < p.length → Cvx p.length (at' p))
/-- It has a point. -/
def Hs (p : List Pt) (x : Pt) : Prop := if p.length = 1 then at' p 0 = x else if p.length = 2 then cr (at' p 0) (at' p 1) x = 0 ∧ btw (at' p 0) (at' p 1) x else Ins p.length (at' p) x

theorem at_mem {p : List Pt} {i : Nat} (h : i < p.length) : at' p i ∈ p := by
  unfold at'
  rw [List.getD_eq_getElem?_getD, List.getElem?_eq_getElem h]
  exact List.getElem_mem h
theorem mem_at {p : List Pt} {x : Pt} (h : x ∈ p) : ∃ i, i < p.length ∧ at' p i = x := by
  obtain ⟨i, hi, e⟩ := List.getElem_of_mem h
  refine ⟨i, hi, ?_⟩
  unfold at'
  rw [List.getD_eq_getElem?_getD, List.getElem?_eq_getElem hi]
  exact e
theorem ext_at {p q : List Pt} (hl : p.length = q.length) (h : ∀ i, i < p.length → at' p i = at' q i) : p = q := by
  refine List.ext_getElem hl fun i h1 h2 => ?_
  have := h i h1
  unfold at' at this
  rwa [List.getD_eq_getElem?_getD, List.getD_eq_getElem?_getD, List.getElem?_eq_getElem h1, List.getElem?_eq_getElem h2] at this

/-- A hull of places: a polygon whose corners are some of them, and that has all of them. -/
def IsHull (l p : List Pt) : Prop := Pg p ∧ (∀ x, x ∈ p → x ∈ l) ∧ (∀ x, x ∈ l → Hs p x)

theorem ls_irrefl (a : Pt) : ¬ ls a a := by unfold ls; omega
theorem ls_asymm {a b : Pt} (h : ls a b) : ¬ ls b a := by unfold ls at *; omega
theorem ls_trans {a b c : Pt} (h : ls a b) (k : ls b c) : ls a c := by unfold ls at *; omega
theorem ls_total (a b : Pt) : ls a b ∨ a = b ∨ ls b a := by
  rcases a with ⟨a1, a2⟩
  rcases b with ⟨b1, b2⟩
  simp only [ls, Prod.mk.injEq]
  omega

/-- What a polygon with two corners has is not less than the first one, nor greater than the second one. -/
theorem two_range {a b x : Pt} (h : ls a b) (c : cr a b x = 0) (t : btw a b x) : (x = a ∨ ls a x) ∧ (x = b ∨ ls x b) := by
  rcases a with ⟨a1, a2⟩
  rcases b with ⟨b1, b2⟩
  rcases x with ⟨x1, x2⟩
  simp only [ls, btw, cr, Prod.mk.injEq] at *
  by_cases e : a1 = b1
  · subst e
    omega
  · have hlt : a1 < b1 := by omega
    by_cases e1 : x1 = a1
    · subst e1
      rw [Int.sub_self, Int.mul_zero, Int.sub_zero] at c
      rcases Int.mul_eq_zero.1 c with c | c <;> omega
    · by_cases e2 : x1 = b1
      · subst e2
        have : (x1 - a1) * (x2 - a2 - (b2 - a2)) = 0 := by rw [Int.mul_sub, Int.mul_comm (x1 - a1) (b2 - a2)]; exact c
        rcases Int.mul_eq_zero.1 this with c | c <;> omega
      · omega
/-- Three places on the line of two different ones are on a line. -/
theorem on_line {a b x y z : Pt} (h : a ≠ b) (hx : cr a b x = 0) (hy : cr a b y = 0) (hz : cr a b z = 0) : cr x y z = 0 := by
  have e : ∀ u v : Int, (b.1 - a.1) * u = 0 → (b.2 - a.2) * u = 0 → u = 0 := by
    intro u v h1 h2
    rcases Int.mul_eq_zero.1 h1 with k | k
    · rcases Int.mul_eq_zero.1 h2 with k2 | k2
      · exact absurd (Prod.ext (by omega) (by omega)) h
      · exact k2
    · exact k
  refine e (cr x y z) 0 ?_ ?_
  · have : (b.1 - a.1) * cr x y z = (z.1 - x.1) * (cr a b x - cr a b y) - (y.1 - x.1) * (cr a b x - cr a b z) := by unfold cr; grind
    rw [this, hx, hy, hz]; simp
  · have : (b.2 - a.2) * cr x y z = (z.2 - x.2) * (cr a b x - cr a b y) - (y.2 - x.2) * (cr a b x - cr a b z) := by unfold cr; grind
    rw [this, hx, hy, hz]; simp

theorem pg_ne {p : List Pt} (h : Pg p) (h2 : 2 ≤ p.length) : at' p 0 ≠ at' p 1 := by
  intro e
  have := h.2.1 1 (by omega) (by omega)
  rw [e] at this
  exact ls_irrefl _ this

theorem steep (g : Nat → Int) (n : Nat) : ∃ M : Int, 0 < M ∧ ∀ i, i < n → g i < M := by
  induction n with
  | zero => exact ⟨1, by omega, fun i hi => by omega⟩
  | succ n ih =>
    obtain ⟨M, h0, h⟩ := ih
    by_cases k : g n < M
    · exact ⟨M, h0, fun i hi => by
        by_cases e : i = n
        · rw [e]; exact k
        · exact h i (by omega)⟩
    · exact ⟨g n + 1, by omega, fun i hi => by
        by_cases e : i = n
        · rw [e]; omega
        · have := h i (by omega); omega⟩
/-- The first corner of a polygon is not greater than any place that it has. -/
theorem first_least {n : Nat} {P : Nat → Pt} (h : Cvx n P) (hn : 3 ≤ n) (h0 : ∀ i, 1 ≤ i → i < n → ls (P 0) (P i)) {x : Pt} (hx : Ins n P x) : x = P 0 ∨ ls (P 0) x := by
  obtain ⟨M, m0, hM⟩ := steep (fun i => (P 0).2 - (P i).2) n
  obtain ⟨j, hj, hl⟩ := ins_least h hn hx M 1 0
  obtain ⟨l, hl', hk⟩ := ins_least h hn hx 1 0 0
  have e1 : (P l).1 ≤ x.1 := by unfold af at hk; omega
  have low : ∀ i, i < n → (P 0).1 ≤ (P i).1 := by
    intro i hi
    by_cases e : i = 0
    · rw [e]; exact Int.le_refl _
    · rcases h0 i (by omega) hi with k | k <;> omega
  have e2 := low l hl'
  by_cases hlt : (P 0).1 < x.1
  · exact Or.inr (Or.inl hlt)
  · have ex : x.1 = (P 0).1 := by omega
    have hj2 : af M 1 0 (P 0) ≤ af M 1 0 (P j) := by
      by_cases e : j = 0
      · rw [e]; exact Int.le_refl _
      · have hm : (P 0).2 - (P j).2 < M := hM j hj
        unfold af
        rcases h0 j (by omega) hj with k | ⟨k, k2⟩
        · have := Int.mul_le_mul_of_nonneg_left (show (P 0).1 + 1 ≤ (P j).1 by omega) (show 0 ≤ M by omega)
          rw [Int.mul_add, Int.mul_one] at this
          omega
        · rw [k]; omega
    have f : af M 1 0 (P 0) ≤ af M 1 0 x := by omega
    unfold af at f
    rw [ex] at f
    by_cases e4 : x.2 = (P 0).2
    · exact Or.inl (Prod.ext ex e4)
    · exact Or.inr (Or.inr ⟨ex.symm, by omega⟩)

/-- Places that begin alike: the first corners of two hulls are the same. -/
theorem pg_first {p : List Pt} (h : Pg p) {x : Pt} (hx : Hs p x) : x = at' p 0 ∨ ls (at' p 0) x := by
  unfold Hs at hx
  by_cases h1 : p.length = 1
  · rw [if_pos h1] at hx; exact Or.inl hx.symm
  · rw [if_neg h1] at hx
    by_cases h2 : p.length = 2
    · rw [if_pos h2] at hx
      exact (two_range (h.2.1 1 (by omega) (by omega)) hx.1 hx.2).1
    · rw [if_neg h2] at hx
      have := h.1
      exact first_least (h.2.2 (by omega)) (by omega) h.2.1 hx
theorem first_same {l p q : List Pt} (hp : IsHull l p) (hq : IsHull l q) : at' p 0 = at' q 0 := by
  have a := pg_first hp.1 (hp.2.2 _ (hq.2.1 _ (at_mem (p := q) (i := 0) hq.1.1)))
  have b := pg_first hq.1 (hq.2.2 _ (hp.2.1 _ (at_mem (p := p) (i := 0) hp.1.1)))
  rcases a with a | a
  · exact a.symm
  · rcases b with b | b
    · exact b
    · exact absurd b (ls_asymm a)

/-- A polygon with at least three corners has three that are on no line. -/
theorem three_not {n : Nat} {P : Nat → Pt} (h : Cvx n P) (hn : 3 ≤ n) : cr (P 0) (P 1) (P 2) ≠ 0 := by
  have := h 0 2 (by omega) (by omega) (by omega) (by rw [Nat.mod_eq_of_lt (by omega)]; omega)
  rw [Nat.zero_add, Nat.mod_eq_of_lt (by omega)] at this
  omega

/-- Places have one hull at most. -/
theorem hull_unique {l p q : List Pt} (hp : IsHull l p) (hq : IsHull l q) : p = q := by
  have e0 := first_same hp hq
  have P0 := hp.1.1
  have Q0 := hq.1.1
  have pq : ∀ x, x ∈ p → Hs q x := fun x h => hq.2.2 x (hp.2.1 x h)
  have qp : ∀ x, x ∈ q → Hs p x := fun x h => hp.2.2 x (hq.2.1 x h)
  -- one corner
  have one : ∀ {p q : List Pt}, IsHull l p → IsHull l q → at' p 0 = at' q 0 → p.length = 1 → p = q := by
    intro p q hp hq e0 h1
    have Q0 := hq.1.1
    have : q.length = 1 := by
      by_cases h : q.length = 1
      · exact h
      · have k := hq.1.2.1 1 (by omega) (by omega)
        have m := hp.2.2 _ (hq.2.1 _ (at_mem (p := q) (i := 1) (by omega)))
        unfold Hs at m
        rw [if_pos h1] at m
        rw [← m, e0] at k
        exact absurd k (ls_irrefl _)
    exact ext_at (by omega) (fun i hi => by
      have : i = 0 := by omega
      rw [this]; exact e0)
  -- two corners
  have two : ∀ {p q : List Pt}, IsHull l p → IsHull l q → at' p 0 = at' q 0 → p.length = 2 → q.length ≠ 1 → p = q := by
    intro p q hp hq e0 h2 hq1
    have Q0 := hq.1.1
    have line : ∀ i, i < q.length → cr (at' p 0) (at' p 1) (at' q i) = 0 ∧ btw (at' p 0) (at' p 1) (at' q i) := by
      intro i hi
      have m := hp.2.2 _ (hq.2.1 _ (at_mem (p := q) hi))
      unfold Hs at m
      rwa [if_neg (by omega), if_pos h2] at m
    have hq2 : q.length = 2 := by
      by_cases h : q.length = 2
      · exact h
      · exfalso
        exact three_not (hq.1.2.2 (by omega)) (by omega) (on_line (pg_ne hp.1 (by omega)) (line 0 (by omega)).1 (line 1 (by omega)).1 (line 2 (by omega)).1)
    have a := (two_range (hp.1.2.1 1 (by omega) (by omega)) (line 1 (by omega)).1 (line 1 (by omega)).2).2
    have m := hq.2.2 _ (hp.2.1 _ (at_mem (p := p) (i := 1) (by omega)))
    unfold Hs at m
    rw [if_neg (by omega), if_pos hq2] at m
    have b := (two_range (hq.1.2.1 1 (by omega) (by omega)) m.1 m.2).2
    have e1 : at' p 1 = at' q 1 := by
      rcases a with a | a
      · exact a.symm
      · rcases b with b | b
        · exact b
        · exact absurd a (ls_asymm b)
    refine ext_at (by omega) fun i hi => ?_
    by_cases h : i = 0
    · rw [h]; exact e0
    · have : i = 1 := by omega
      rw [this]; exact e1
  by_cases h1 : p.length = 1
  · exact one hp hq e0 h1
  · by_cases h2 : q.length = 1
    · exact (one hq hp e0.symm h2).symm
    · by_cases h3 : p.length = 2
      · exact two hp hq e0 h3 h2
      · by_cases h4 : q.length = 2
        · exact (two hq hp e0.symm h4 h1).symm
        · have cp := hp.1.2.2 (by omega)
          have cq := hq.1.2.2 (by omega)
          have ip : ∀ j, j < q.length → Ins p.length (at' p) (at' q j) := by
            intro j hj
            have m := qp _ (at_mem hj)
            unfold Hs at m
            rwa [if_neg h1, if_neg h3] at m
          have iq : ∀ j, j < p.length → Ins q.length (at' q) (at' p j) := by
            intro j hj
            have m := pq _ (at_mem hj)
            unfold Hs at m
            rwa [if_neg h2, if_neg h4] at m
          obtain ⟨el, ee⟩ := same_all cp (by omega) cq (by omega) (fun i hi => corner_of cp (by omega) cq (by omega) ip hi (iq i hi)) (fun j hj => corner_of cq (by omega) cp (by omega) iq hj (ip j hj)) e0
          exact ext_at el ee
end Hl
end Go.Proofs.YtpiajdahmcelnaaGreat
namespace Go.Proofs.YtpiajdahmcelnaaGreat
namespace Hl

def sumN (g : Nat → Int) : Nat → Int
  | 0 => 0
  | n + 1 => sumN g n + g n
/-- Twice the area of a polygon. -/
def area (n : Nat) (P : Nat → Pt) : Int := sumN (fun i => cr (P 0) (P (i + 1)) (P (i + 2))) (n - 2)
end Hl
end Go.Proofs.YtpiajdahmcelnaaGreat
namespace Go.Proofs.YtpiajdahmcelnaaGreat
namespace Hl

/-! ### Bounds -/
theorem seg1 (u v k : Int) (a b x : Pt) : (b.1 - a.1) * (af u v k x - af u v k a) = (x.1 - a.1) * (af u v k b - af u v k a) + v * cr a b x := by unfold af cr; grind
theorem seg2 (u v k : Int) (a b x : Pt) : (b.2 - a.2) * (af u v k x - af u v k a) = (x.2 - a.2) * (af u v k b - af u v k a) - u * cr a b x := by unfold af cr; grind
theorem nonneg_of {d s : Int} (hd : 0 < d) (h : 0 ≤ d * s) : 0 ≤ s := by
  by_cases k : s < 0
  · have := Int.mul_neg_of_pos_of_neg hd k; omega
  · omega
theorem cr_swap2 (a b x : Pt) : cr b a x = -(cr a b x) := by unfold cr; grind
/-! ### Chains -/
/-- Four places in a row, whose ways turn left twice. f tells that they are in a row. -/
theorem turn_far {u v k : Int} {a b c d : Pt} (hab : af u v k a < af u v k b) (hbc : af u v k b < af u v k c) (hcd : af u v k c < af u v k d) (h1 : 0 < cr a b c) (h2 : 0 < cr b c d) : 0 < cr a b d ∧ 0 < cr a c d := by
  have e := cone u v k a b c d
  have g := cone u v k b c d a
  have r1 : cr b c a = cr a b c := (cr_rot a b c).symm
  have r2 : cr c d a = cr a c d := (cr_rot a c d).symm
  rw [r1, r2] at g
  constructor
  · by_cases z : 0 < cr a b d
    · exact z
    · exfalso
      have m1 := Int.mul_pos h1 (show 0 < af u v k d - af u v k b by omega)
      have m2 := Int.mul_pos h2 (show 0 < af u v k b - af u v k a by omega)
      have m3 := Int.mul_nonneg (show 0 ≤ -cr a b d by omega) (show 0 ≤ af u v k c - af u v k b by omega)
      rw [Int.neg_mul] at m3
      have m4 : cr b c d * (af u v k a - af u v k b) = -(cr b c d * (af u v k b - af u v k a)) := by rw [← Int.mul_neg]; congr 1; omega
      omega
  · by_cases z : 0 < cr a c d
    · exact z
    · exfalso
      have m1 := Int.mul_pos h2 (show 0 < af u v k c - af u v k a by omega)
      have m2 := Int.mul_pos h1 (show 0 < af u v k d - af u v k c by omega)
      have m3 := Int.mul_nonneg (show 0 ≤ -cr a c d by omega) (show 0 ≤ af u v k c - af u v k b by omega)
      rw [Int.neg_mul] at m3
      have m4 : cr b c d * (af u v k a - af u v k c) = -(cr b c d * (af u v k c - af u v k a)) := by rw [← Int.mul_neg]; congr 1; omega
      have m5 : cr a c d * (af u v k b - af u v k c) = -(cr a c d * (af u v k c - af u v k b)) := by rw [← Int.mul_neg]; congr 1; omega
      omega

/-- A chain that is in a row and turns left at each of its places turns left at any three of them. -/
theorem chain_all {u v k : Int} {P : Nat → Pt} : ∀ n, (∀ i, i + 1 < n → af u v k (P i) < af u v k (P (i + 1))) → (∀ i, i + 2 < n → 0 < cr (P i) (P (i + 1)) (P (i + 2))) → ∀ i j l, i < j → j < l → l < n → 0 < cr (P i) (P j) (P l) := by
  intro n
  induction n with
  | zero => intro _ _ i j l _ _ h; omega
  | succ n ih =>
    intro hr ht i j l hij hjl hl
    have row : ∀ a b, a < b → b < n + 1 → af u v k (P a) < af u v k (P b) := by
      intro a b hab hb
      induction b with
      | zero => omega
      | succ b ihb =>
        by_cases e : a = b
        · rw [e]; exact hr b (by omega)
        · have := ihb (by omega) (by omega)
          have := hr b (by omega)
          omega
    have ih' := ih (fun i hi => hr i (by omega)) (fun i hi => ht i (by omega))
    by_cases hln : l < n
    · exact ih' i j l hij hjl hln
    · obtain rfl : l = n := by omega
      -- first with the place before the last one
      have last : ∀ i, i + 1 < l → 0 < cr (P i) (P (l - 1)) (P l) := by
        intro i hi
        have t := ht (l - 2) (by omega)
        rw [show l - 2 + 1 = l - 1 by omega, show l - 2 + 2 = l by omega] at t
        by_cases e : i = l - 2
        · rw [e]; exact t
        · exact (turn_far (row i (l - 2) (by omega) (by omega)) (row (l - 2) (l - 1) (by omega) (by omega)) (row (l - 1) l (by omega) (by omega)) (ih' i (l - 2) (l - 1) (by omega) (by omega) (by omega)) t).2
      by_cases e : j = l - 1
      · rw [e]; exact last i (by omega)
      · exact (turn_far (row i j hij (by omega)) (row j (l - 1) (by omega) (by omega)) (row (l - 1) l (by omega) (by omega)) (ih' i j (l - 1) hij (by omega) (by omega)) (last j (by omega))).1

/-- Three ways from one place. -/
theorem tri (u v k : Int) (a b n x : Pt) : cr a n x * (af u v k b - af u v k a) = cr a b x * (af u v k n - af u v k a) - cr a b n * (af u v k x - af u v k a) := by unfold cr af; grind
/-- A place of a chain is left out, as the way does not turn left at it: whatever was on its left side is on the left of the new side. -/
theorem pop_left {u v k : Int} {a b n x : Pt} (hab : af u v k a < af u v k b) (hbn : af u v k b ≤ af u v k n) (hax : af u v k a ≤ af u v k x) (h : cr a b n ≤ 0) (hx : 0 ≤ cr a b x) : 0 ≤ cr a n x := by
  have e := tri u v k a b n x
  have m1 := Int.mul_nonneg hx (show 0 ≤ af u v k n - af u v k a by omega)
  have m2 := Int.mul_nonneg (show 0 ≤ -cr a b n by omega) (show 0 ≤ af u v k x - af u v k a by omega)
  rw [Int.neg_mul] at m2
  have m3 : 0 ≤ (af u v k b - af u v k a) * cr a n x := by rw [Int.mul_comm, e]; omega
  exact nonneg_of (show 0 < af u v k b - af u v k a by omega) m3
end Hl
end Go.Proofs.YtpiajdahmcelnaaGreat
