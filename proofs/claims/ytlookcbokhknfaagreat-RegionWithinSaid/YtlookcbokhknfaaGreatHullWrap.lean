/-
  Plain geometry: a hull that is found corner by corner.
  The least point; the point behind a corner; all corners.
  The point behind a corner.
  All corners of points, one after the other.
  The reference's Bounds.
  The reference's Corners, Box, Octagon, Eight; Has of what is no polygon.
  Plain geometry of disks with eight sides. No program.
  The reference functions of layer 6: places, Moved, Mirror, Plus.
  The reference functions of layer 6: Mirror.
  The reference functions of layer 6: Plus.
  What package mink owes, and what the reference functions of layer 6 do: Sum, Shift, Mirror, Disk.
  One answer for each argument: what the four functions of package mink return, and that it is unique.
  The reference functions of layer 4 that look at one half-plane or one side.
-/
import Derived.Test.YtlookcbokhknfaaGreatHullChain
import Derived.Test.YtlookcbokhknfaaGreatHullOct
import Derived.Test.YtlookcbokhknfaaGreatHullLay
import Derived.RegionTactic
import Derived.ChangeAlike
import Derived.Test.YtlookcbokhknfaaGreatHullHl
import Derived.Deep.AppendLies
import Derived.IntWalk
import Derived.Test.YtlookcbokhknfaaGreatCutCb
namespace Go.Proofs.YtlookcbokhknfaaGreat
namespace Hl
instance decBtw (a b x : Pt) : Decidable (btw a b x) := by unfold btw; infer_instance
/-- y is on the left of the side from f to t, or lies on it. -/
def Good (f t y : Pt) : Prop := 0 < cr f t y ∨ (cr f t y = 0 ∧ btw f t y)
/-- The better one of the end found, and a further point. -/
def nx (f tg y : Pt) : Pt := if tg = f ∨ cr f tg y < 0 ∨ (cr f tg y = 0 ∧ btw f y tg) then y else tg
def NX (f : Pt) (l : List Pt) : Pt := l.foldl (nx f) f
/-- What is known of the end found in some points. -/
def Best (f tg : Pt) (L : Pt → Prop) : Prop := (tg = f ∧ ∀ y, L y → y = f) ∨ (tg ≠ f ∧ L tg ∧ ∀ y, L y → Good f tg y)
theorem good_f (f t : Pt) : Good f t f := Or.inr ⟨cr_self _ _, by unfold btw; omega⟩
theorem good_t (f t : Pt) : Good f t t := Or.inr ⟨cr_self' _ _, by unfold btw; omega⟩
theorem best_step {f tg y : Pt} {L : Pt → Prop} (u v k : Int) (hg : ∀ z, (L z ∨ z = y) → z ≠ f → af u v k f < af u v k z) (h : Best f tg L) : Best f (nx f tg y) (fun z => L z ∨ z = y) := by
  unfold nx
  rcases h with ⟨h1, h2⟩ | ⟨h1, h2, h3⟩
  · rw [if_pos (Or.inl h1)]
    by_cases e : y = f
    · exact Or.inl ⟨e, fun z hz => hz.elim (h2 z) (fun ez => ez.trans e)⟩
    · refine Or.inr ⟨e, Or.inr rfl, fun z hz => ?_⟩
      rcases hz with hz | rfl
      · rw [h2 z hz]; exact good_f _ _
      · exact good_t _ _
  · have gto := hg tg (Or.inl h2) h1
    by_cases c1 : cr f tg y < 0
    · rw [if_pos (Or.inr (Or.inl c1))]
      have hy : y ≠ f := fun e => by rw [e, cr_self] at c1; omega
      have gy := hg y (Or.inr rfl) hy
      refine Or.inr ⟨hy, Or.inr rfl, fun z hz => ?_⟩
      rcases hz with hz | rfl
      · by_cases ez : z = f
        · rw [ez]; exact good_f _ _
        · have gz := hg z (Or.inl hz) ez
          have c2 : 0 ≤ cr f tg z := by rcases h3 z hz with h | h <;> omega
          have e := tri u v k f tg y z
          have m1 := Int.mul_nonneg c2 (show 0 ≤ af u v k y - af u v k f by omega)
          have m2 := Int.mul_pos (show 0 < -(cr f tg y) by omega) (show 0 < af u v k z - af u v k f by omega)
          have e2 : cr f y z * (af u v k tg - af u v k f) = cr f tg z * (af u v k y - af u v k f) + -(cr f tg y) * (af u v k z - af u v k f) := by grind
          left
          by_cases hp : 0 < cr f y z
          · exact hp
          · have := Int.mul_nonneg (show 0 ≤ -(cr f y z) by omega) (show 0 ≤ af u v k tg - af u v k f by omega)
            have e3 : -(cr f y z) * (af u v k tg - af u v k f) = -(cr f y z * (af u v k tg - af u v k f)) := by grind
            omega
      · exact good_t _ _
    · by_cases c2 : cr f tg y = 0 ∧ btw f y tg
      · rw [if_pos (Or.inr (Or.inr c2))]
        have hy : y ≠ f := fun e => by
          have := c2.2
          rw [e] at this
          unfold btw at this
          exact h1 (Prod.ext (by omega) (by omega))
        have gy := hg y (Or.inr rfl) hy
        refine Or.inr ⟨hy, Or.inr rfl, fun z hz => ?_⟩
        rcases hz with hz | rfl
        · have e := tri u v k f tg y z
          rw [c2.1, Int.zero_mul, Int.sub_zero] at e
          rcases h3 z hz with h | ⟨h, hb⟩
          · left
            have m := Int.mul_pos h (show 0 < af u v k y - af u v k f by omega)
            by_cases hp : 0 < cr f y z
            · exact hp
            · have := Int.mul_nonneg (show 0 ≤ -(cr f y z) by omega) (show 0 ≤ af u v k tg - af u v k f by omega)
              have e3 : -(cr f y z) * (af u v k tg - af u v k f) = -(cr f y z * (af u v k tg - af u v k f)) := by grind
              omega
          · right
            rw [h, Int.zero_mul] at e
            refine ⟨?_, ?_⟩
            · rcases Int.mul_eq_zero.1 e with e | e
              · exact e
              · omega
            · have b := c2.2
              unfold btw at b hb ⊢
              omega
        · exact good_t _ _
      · rw [if_neg (fun h => h.elim h1 (fun h => h.elim c1 c2))]
        refine Or.inr ⟨h1, Or.inl h2, fun z hz => ?_⟩
        rcases hz with hz | rfl
        · exact h3 z hz
        · by_cases c3 : 0 < cr f tg z
          · exact Or.inl c3
          · have c0 : cr f tg z = 0 := by omega
            right
            refine ⟨c0, ?_⟩
            by_cases ez : z = f
            · rw [ez]; unfold btw; omega
            · have gz := hg z (Or.inr rfl) ez
              by_cases hle : af u v k z ≤ af u v k tg
              · exact btw_of gto c0 (by omega) hle
              · exact absurd ⟨c0, btw_of gz (by rw [cr_swap, c0]; rfl) (by omega) (by omega)⟩ c2
theorem best_all {f : Pt} {l : List Pt} (u v k : Int) (hg : ∀ z, z ∈ l → z ≠ f → af u v k f < af u v k z) : Best f (NX f l) (fun y => y ∈ l) := by
  have key : ∀ (m : List Pt) (tg : Pt) (L : Pt → Prop), (∀ z, (L z ∨ z ∈ m) → z ≠ f → af u v k f < af u v k z) → Best f tg L → Best f (m.foldl (nx f) tg) (fun z => L z ∨ z ∈ m) := by
    intro m
    induction m with
    | nil =>
      intro tg L _ h
      rcases h with ⟨a, b⟩ | ⟨a, b, c⟩
      · exact Or.inl ⟨a, fun y hy => hy.elim (b y) (fun h => by cases h)⟩
      · exact Or.inr ⟨a, Or.inl b, fun y hy => hy.elim (c y) (fun h => by cases h)⟩
    | cons x m ih =>
      intro tg L hg h
      have h1 := best_step (y := x) u v k (fun z hz => hg z (hz.elim Or.inl (fun e => Or.inr (by rw [e]; exact List.mem_cons_self)))) h
      have h2 := ih (nx f tg x) (fun z => L z ∨ z = x) (fun z hz => hg z (by
        rcases hz with (hz | hz) | hz
        · exact Or.inl hz
        · exact Or.inr (by rw [hz]; exact List.mem_cons_self)
        · exact Or.inr (List.mem_cons_of_mem _ hz))) h1
      have hm : ∀ z, (L z ∨ z = x) ∨ z ∈ m ↔ L z ∨ z ∈ x :: m := fun z => by rw [List.mem_cons, or_assoc]
      rcases h2 with ⟨a, b⟩ | ⟨a, b, c⟩
      · exact Or.inl ⟨a, fun y hy => b y ((hm y).2 hy)⟩
      · exact Or.inr ⟨a, (hm _).1 b, fun y hy => c y ((hm y).2 hy)⟩
  have h := key l f (fun _ => False) (fun z hz => hg z (hz.elim (fun h => h.elim) id)) (Or.inl ⟨rfl, fun _ h => h.elim⟩)
  rcases h with ⟨a, b⟩ | ⟨a, b, c⟩
  · exact Or.inl ⟨a, fun y hy => b y (Or.inr hy)⟩
  · exact Or.inr ⟨a, b.elim (fun h => h.elim) id, fun y hy => c y (Or.inr hy)⟩
/-- Behind a side that has all on its left, its end is a corner: some functional is least there alone. -/
theorem corner_fun {a c : Pt} {l : List Pt} (hac : a ≠ c) (h : ∀ y, y ∈ l → Good a c y) : ∃ u v k : Int, ∀ z, z ∈ l → z ≠ c → af u v k c < af u v k z := by
  obtain ⟨M, hM, hb⟩ := steep (fun i => -(dt c a (at' l i))) l.length
  have f1 : ∀ y, cr a c y = af (-(c.2 - a.2)) (c.1 - a.1) ((c.2 - a.2) * a.1 - (c.1 - a.1) * a.2) y := cr_af a c
  have f2 : ∀ y, dt c a y = af (a.1 - c.1) (a.2 - c.2) (-((a.1 - c.1) * c.1 + (a.2 - c.2) * c.2)) y := dt_af c a
  refine ⟨M * -(c.2 - a.2) + (a.1 - c.1), M * (c.1 - a.1) + (a.2 - c.2), M * ((c.2 - a.2) * a.1 - (c.1 - a.1) * a.2) + -((a.1 - c.1) * c.1 + (a.2 - c.2) * c.2), fun z hz hne => ?_⟩
  have e : ∀ y, af (M * -(c.2 - a.2) + (a.1 - c.1)) (M * (c.1 - a.1) + (a.2 - c.2)) (M * ((c.2 - a.2) * a.1 - (c.1 - a.1) * a.2) + -((a.1 - c.1) * c.1 + (a.2 - c.2) * c.2)) y = M * cr a c y + dt c a y := fun y => by rw [f1, f2]; unfold af; grind
  rw [e, e, cr_self', dt_self, Int.mul_zero]
  obtain ⟨i, hi, ei⟩ := mem_at hz
  have hbi := hb i hi
  simp only [ei] at hbi
  rcases h z hz with g | ⟨g, b⟩
  · have := Int.mul_le_mul_of_nonneg_left (show 1 ≤ cr a c z by omega) (Int.le_of_lt hM)
    omega
  · rw [g, Int.mul_zero]
    have g' : cr c a z = 0 := by rw [cr_swap2, g]; rfl
    have d0 : 0 ≤ dt c a z := by
      unfold dt
      unfold btw at b
      have s1 : 0 ≤ (a.1 - c.1) * (z.1 - c.1) := by
        rcases Int.le_total 0 (a.1 - c.1) with k | k
        · exact Int.mul_nonneg k (by omega)
        · have := Int.mul_nonneg (show 0 ≤ -(a.1 - c.1) by omega) (show 0 ≤ -(z.1 - c.1) by omega)
          rwa [Int.neg_mul_neg] at this
      have s2 : 0 ≤ (a.2 - c.2) * (z.2 - c.2) := by
        rcases Int.le_total 0 (a.2 - c.2) with k | k
        · exact Int.mul_nonneg k (by omega)
        · have := Int.mul_nonneg (show 0 ≤ -(a.2 - c.2) by omega) (show 0 ≤ -(z.2 - c.2) by omega)
          rwa [Int.neg_mul_neg] at this
      omega
    by_cases d : dt c a z = 0
    · exact absurd (dt_zero hac.symm g' d) hne
    · omega
/-- Two sides with all on their left that end at one place begin at one place. -/
theorem one_before {a b c : Pt} (h1 : Good a c b) (h2 : Good b c a) : a = b := by
  have e : cr b c a = -(cr a c b) := by unfold cr; grind
  rcases h1 with h1 | ⟨h1, k1⟩
  · rcases h2 with h2 | ⟨h2, _⟩ <;> omega
  · rcases h2 with h2 | ⟨h2, k2⟩
    · omega
    · unfold btw at k1 k2
      exact Prod.ext (by omega) (by omega)
/-- The corners, one after the other. -/
def X (f : Pt) (l : List Pt) : Nat → Pt
  | 0 => f
  | i + 1 => NX (X f l i) l
section
variable {f : Pt} {l : List Pt}
theorem X_good (hf : f ∈ l) (h0 : ∀ z, z ∈ l → z ≠ f → ls f z) (hne : ∃ z, z ∈ l ∧ z ≠ f) : ∀ i, X f l i ∈ l ∧ X f l (i + 1) ∈ l ∧ X f l i ≠ X f l (i + 1) ∧ ∀ y, y ∈ l → Good (X f l i) (X f l (i + 1)) y := by
  have go : ∀ c, (∃ u v k : Int, ∀ z, z ∈ l → z ≠ c → af u v k c < af u v k z) → (∃ z, z ∈ l ∧ z ≠ c) → NX c l ∈ l ∧ c ≠ NX c l ∧ ∀ y, y ∈ l → Good c (NX c l) y := by
    intro c ⟨u, v, k, hg⟩ ⟨z, hz, hzc⟩
    rcases best_all u v k hg with ⟨_, b⟩ | ⟨a, b, d⟩
    · exact absurd (b z hz) hzc
    · exact ⟨b, fun e => a e.symm, d⟩
  intro i
  induction i with
  | zero =>
    obtain ⟨M, hM, hb⟩ := steep (fun i => f.2 - (at' l i).2) l.length
    have h := go f ⟨M, 1, 0, fun z hz hzf => by
      obtain ⟨i, hi, ei⟩ := mem_at hz
      have hbi := hb i hi
      simp only [ei] at hbi
      unfold af
      rcases h0 z hz hzf with h | ⟨h, h'⟩
      · have := Int.mul_le_mul_of_nonneg_left (show f.1 + 1 ≤ z.1 by omega) (Int.le_of_lt hM)
        rw [Int.mul_add] at this
        omega
      · rw [h]; omega⟩ hne
    exact ⟨hf, h.1, h.2.1, h.2.2⟩
  | succ i ih =>
    obtain ⟨h1, hc, h2, h3⟩ := ih
    have h := go _ (corner_fun h2 h3) ⟨X f l i, h1, h2⟩
    exact ⟨hc, h.1, h.2.1, h.2.2⟩
theorem X_back (hf : f ∈ l) (h0 : ∀ z, z ∈ l → z ≠ f → ls f z) (hne : ∃ z, z ∈ l ∧ z ≠ f) {i j : Nat} (e : X f l (i + 1) = X f l (j + 1)) : X f l i = X f l j := by
  obtain ⟨a1, _, _, a4⟩ := X_good hf h0 hne i
  obtain ⟨b1, _, _, b4⟩ := X_good hf h0 hne j
  refine one_before (c := X f l (i + 1)) (a4 _ b1) ?_
  rw [e]
  exact b4 _ a1
/-- As long as the first corner has not come again, all corners are different. -/
theorem X_distinct (hf : f ∈ l) (h0 : ∀ z, z ∈ l → z ≠ f → ls f z) (hne : ∃ z, z ∈ l ∧ z ≠ f) {k : Nat} (hk : ∀ i, 1 ≤ i → i < k → X f l i ≠ f) : ∀ i j, i < j → j < k → X f l i ≠ X f l j := by
  intro i
  induction i with
  | zero => intro j hj hjk e; exact hk j (by omega) hjk e.symm
  | succ i ih =>
    intro j hj hjk e
    obtain ⟨j', rfl⟩ : ∃ j', j = j' + 1 := ⟨j - 1, by omega⟩
    exact ih j' (by omega) (by omega) (X_back hf h0 hne e)
/-- When the first corner comes again, the corners are the hull. -/
theorem X_hull (hf : f ∈ l) (h0 : ∀ z, z ∈ l → z ≠ f → ls f z) (hne : ∃ z, z ∈ l ∧ z ≠ f) {n : Nat} (hn : 1 ≤ n) (hk : ∀ i, 1 ≤ i → i < n → X f l i ≠ f) (hend : X f l n = f) {p : List Pt} (hp : p.length = n) (ep : ∀ i, i < n → at' p i = X f l i) : IsHull l p := by
  have G := X_good hf h0 hne
  have D := X_distinct hf h0 hne hk
  have n2 : 2 ≤ n := by
    by_cases e : n = 1
    · subst e; exact absurd hend.symm (G 0).2.2.1
    · omega
  have nxt : ∀ i, i < n → at' p ((i + 1) % p.length) = X f l (i + 1) := fun i hi => by
    rw [hp]
    by_cases e : i + 1 = n
    · rw [e, Nat.mod_self, ep 0 (by omega), hend]; rfl
    · rw [Nat.mod_eq_of_lt (by omega)]; exact ep _ (by omega)
  have hm : ∀ x, x ∈ p → x ∈ l := fun x hx => by
    obtain ⟨i, hi, e⟩ := mem_at hx
    rw [← e, ep i (by omega)]; exact (G i).1
  have hfirst : ∀ i, 1 ≤ i → i < p.length → ls (at' p 0) (at' p i) := fun i h1 hi => by
    rw [ep 0 (by omega), ep i (by omega)]
    exact h0 _ (G i).1 (hk i h1 (by omega))
  by_cases h3 : 3 ≤ n
  · refine hull_of_sides (by omega) hm (fun i j hi hj hij => ?_) (fun i hi y hy => ?_) (fun i hi => ?_) hfirst
    · rw [ep i (by omega), ep j (by omega)]
      rcases Nat.lt_or_gt_of_ne hij with c | c
      · exact D i j c (by omega)
      · exact fun e => D j i c (by omega) e.symm
    · rw [ep i (by omega), nxt i (by omega)]
      rcases (G i).2.2.2 y hy with h | h <;> omega
    · rw [nxt i (by omega), ep i (by omega)]
      -- the corner before
      obtain ⟨j, hj, ej, ej2⟩ : ∃ j, at' p (pv p.length i) = X f l j ∧ X f l (j + 1) = X f l i ∧ X f l j ≠ X f l (i + 1) := by
        by_cases e0 : i = 0
        · subst e0
          refine ⟨n - 1, ?_, ?_, ?_⟩
          · have epv : pv p.length 0 = n - 1 := by unfold pv; rw [hp, Nat.zero_add, Nat.mod_eq_of_lt (by omega)]
            rw [epv]; exact ep _ (by omega)
          · have e1 : n - 1 + 1 = n := by omega
            rw [e1, hend]; rfl
          · exact fun e => D 1 (n - 1) (by omega) (by omega) e.symm
        · refine ⟨i - 1, ?_, ?_, ?_⟩
          · have epv : pv p.length i = i - 1 := by
              unfold pv
              have : i + (p.length - 1) = p.length + (i - 1) := by omega
              rw [this, Nat.add_mod_left, Nat.mod_eq_of_lt (by omega)]
            rw [epv]; exact ep _ (by omega)
          · have e1 : i - 1 + 1 = i := by omega
            rw [e1]
          · by_cases e : i + 1 = n
            · rw [e, hend]
              by_cases e1 : i = 1
              · omega
              · exact hk (i - 1) (by omega) (by omega)
            · exact D (i - 1) (i + 1) (by omega) (by omega)
      rw [hj]
      have g1 := (G j).2.2.2 _ (G i).2.1
      have g2 := (G i).2.2.2 _ (G j).1
      rw [ej] at g1
      rcases g1 with g1 | ⟨g1, b1⟩
      · exact g1
      · exfalso
        refine ej2 ?_
        have e : cr (X f l i) (X f l (i + 1)) (X f l j) = cr (X f l j) (X f l i) (X f l (i + 1)) := (cr_rot _ _ _).symm
        rcases g2 with g2 | ⟨_, b2⟩
        · omega
        · unfold btw at b1 b2
          exact Prod.ext (by omega) (by omega)
  · have e2 : n = 2 := by omega
    subst e2
    refine ⟨⟨by omega, hfirst, fun h => by omega⟩, hm, fun y hy => ?_⟩
    rw [hs2 hp, ep 0 (by omega), ep 1 (by omega)]
    have g1 : Good f (X f l 1) y := (G 0).2.2.2 y hy
    have g2 : Good (X f l 1) (X f l 2) y := (G 1).2.2.2 y hy
    rw [hend] at g2
    have ex : X f l 0 = f := rfl
    rw [ex]
    have e : cr (X f l 1) f y = -(cr f (X f l 1) y) := cr_swap2 _ _ _
    rcases g1 with g1 | g1
    · rcases g2 with g2 | g2 <;> omega
    · exact g1
end
end Hl
end Go.Proofs.YtlookcbokhknfaaGreat
namespace Go.Proofs.YtlookcbokhknfaaGreat
open Go.RowKit
namespace Hl
def LeastB (l : List Pt) (k : Nat) (m : Pt) : Prop := m ∈ l ∧ ∀ j, j < k → at' l j ≠ m → ls m (at' l j)
theorem LeastB.yes {l : List Pt} {k : Nat} {m : Pt} (h : LeastB l k m) (hk : k < l.length) (hl : ls (at' l k) m) : LeastB l (k + 1) (at' l k) := ⟨at_mem hk, fun j hj hne => by
  by_cases e : j = k
  · rw [e] at hne; exact absurd rfl hne
  · by_cases em : at' l j = m
    · rw [em]; exact hl
    · exact ls_trans hl (h.2 j (by omega) em)⟩
theorem LeastB.no {l : List Pt} {k : Nat} {m : Pt} (h : LeastB l k m) (_hk : k < l.length) (hl : ¬ ls (at' l k) m) : LeastB l (k + 1) m := ⟨h.1, fun j hj hne => by
  by_cases e : j = k
  · rw [e] at hne ⊢
    rcases ls_total (at' l k) m with a | a | a
    · exact absurd a hl
    · exact absurd a hne
    · exact a
  · exact h.2 j (by omega) hne⟩
end Hl
end Go.Proofs.YtlookcbokhknfaaGreat
namespace Go.Proofs.YtlookcbokhknfaaGreat
open Go.RowKit
namespace Hl
/-- Points within 2000000 in X and in Y. -/
def Pw (x : Pt) : Prop := (-2000000 ≤ x.1 ∧ x.1 ≤ 2000000) ∧ (-2000000 ≤ x.2 ∧ x.2 ≤ 2000000)
def Pws (p : List Pt) : Prop := ∀ i, i < p.length → Pw (at' p i)
def IsFX (f : Pt) (l : List Pt) (k : Nat) (m : Pt) : Prop := m = (l.take k).foldl (nx f) f
theorem IsFX.step {f m : Pt} {l : List Pt} {k : Nat} (h : IsFX f l k m) (hk : k < l.length) : IsFX f l (k + 1) (nx f m (at' l k)) := by
  unfold IsFX at h ⊢
  have e : at' l k = l[k] := by unfold at'; simp [hk]
  rw [List.take_succ_eq_append_getElem hk, List.foldl_append, ← h, e]
  rfl
theorem IsFX.yes {f m : Pt} {l : List Pt} {k : Nat} (h : IsFX f l k m) (hk : k < l.length) (c : m = f ∨ cr f m (at' l k) < 0 ∨ (cr f m (at' l k) = 0 ∧ btw f (at' l k) m)) : IsFX f l (k + 1) (at' l k) := by
  have := h.step hk
  unfold nx at this
  rwa [if_pos c] at this
theorem IsFX.no {f m : Pt} {l : List Pt} {k : Nat} (h : IsFX f l k m) (hk : k < l.length) (c : ¬ (m = f ∨ cr f m (at' l k) < 0 ∨ (cr f m (at' l k) = 0 ∧ btw f (at' l k) m))) : IsFX f l (k + 1) m := by
  have := h.step hk
  unfold nx at this
  rwa [if_neg c] at this
theorem IsFX.plc {f : Pt} {l : List Pt} (hf : Pw f) (hl : Pws l) : ∀ {k : Nat} {m : Pt}, IsFX f l k m → k ≤ l.length → Pw m := by
  intro k
  induction k with
  | zero => intro m h _; unfold IsFX at h; rw [h]; exact hf
  | succ k ih =>
    intro m h hk
    have h0 := ih (m := (l.take k).foldl (nx f) f) rfl (by omega)
    have h1 : m = nx f ((l.take k).foldl (nx f) f) (at' l k) := h.trans (IsFX.step (k := k) rfl (by omega)).symm
    rw [h1]
    unfold nx
    split
    · exact hl k (by omega)
    · exact h0
theorem IsFX.all {f m : Pt} {l : List Pt} {k : Nat} (h : IsFX f l k m) (hk : l.length ≤ k) : m = NX f l := by
  unfold IsFX at h
  rw [List.take_of_length_le hk] at h
  exact h
end Hl
end Go.Proofs.YtlookcbokhknfaaGreat
namespace Go.Proofs.YtlookcbokhknfaaGreat
open Go.RowKit
namespace Hl
theorem own_one {B : Nat} (w : World) (x : Pt) (hB : B ≤ w.heap.size) : Own B (w.alloc (.cells #[.int .i64 x.1, .int .i64 x.2] 27)) (.slice (some ⟨w.heap.size, 0, none⟩) 1 1) [x] :=
  ⟨rfl, Or.inr ⟨w.heap.size, 1, #[.int .i64 x.1, .int .i64 x.2], rfl, hB, heap_alloc_new w _, Nat.le_refl _, by unfold maxLen; omega, rfl, rfl⟩⟩
/-- The slice's own block lies before this one. -/
def Fore (v : Value) (n : Nat) : Prop := ∀ g, v.ownBlock = some g → g < n
theorem Fore.ne {v : Value} {n : Nat} (h : Fore v n) : some n ≠ v.ownBlock := fun e => by have := h n e.symm; omega
theorem Own.ne {B : Nat} {w : World} {v : Value} {p : List Pt} (h : Own B w v p) {g : Nat} (hg : g < B) : some g ≠ v.ownBlock := fun e => by have := (World.ownsRow.lt h _ e.symm).1; omega
theorem Own.set {B : Nat} {w : World} {v : Value} {p : List Pt} (h : Own B w v p) {a : Addr} (hne : some a.block ≠ v.ownBlock) (x : Value) : Own B (w.setCell a x) v p :=
  World.ownsRow.kept h (row := some a.block) ⟨rfl, rfl, rfl, by simp [World.setCell], fun k _ hk => Below.heap_setCell w a x k (fun e => hk (by rw [e]))⟩ (Or.inr (fun e => hne e.symm))
def lenS : Value → Nat
  | .slice _ n _ => n
  | _ => 0
theorem Own.len {B : Nat} {w : World} {v : Value} {p : List Pt} (h : Own B w v p) : lenS v = p.length := by
  obtain ⟨a, c, e⟩ := h.sl.shape
  rw [e]; rfl
/-- What has been collected: the first k corners; the first one has not come again. -/
def IsPre (f : Pt) (l : List Pt) (k : Nat) (po : List Pt) : Prop := po.length = k ∧ 1 ≤ k ∧ (∀ i, i < k → at' po i = X f l i) ∧ ∀ i, 1 ≤ i → i < k → X f l i ≠ f
theorem IsPre.one (f : Pt) (l : List Pt) : IsPre f l 1 [f] := ⟨rfl, Nat.le_refl _, fun i hi => by
  obtain rfl : i = 0 := by omega
  rfl, fun i h1 h2 => by omega⟩
theorem IsPre.more {f : Pt} {l : List Pt} {k : Nat} {po : List Pt} (h : IsPre f l k po) (hne : X f l k ≠ f) : IsPre f l (k + 1) (po ++ [X f l k]) := by
  obtain ⟨h1, h2, h3, h4⟩ := h
  refine ⟨by simp [h1], by omega, fun i hi => ?_, fun i hi1 hi => ?_⟩
  · by_cases e : i = k
    · have := at_last po (X f l k)
      rw [h1] at this
      rw [e]; exact this
    · rw [at_append (by omega)]; exact h3 i (by omega)
  · by_cases e : i = k
    · rw [e]; exact hne
    · exact h4 i hi1 (by omega)
theorem IsPre.hull {f : Pt} {l : List Pt} {k : Nat} {po : List Pt} (h : IsPre f l k po) (hf : f ∈ l) (h0 : ∀ z, z ∈ l → z ≠ f → ls f z) (hk : X f l k = f) : IsHull l po := by
  by_cases hne : ∃ z, z ∈ l ∧ z ≠ f
  · exact X_hull hf h0 hne h.2.1 h.2.2.2 hk h.1 h.2.2.1
  · have all : ∀ z, z ∈ l → z = f := fun z hz => by
      by_cases e : z = f
      · exact e
      · exact absurd ⟨z, hz, e⟩ hne
    have x1 : X f l 1 = f := by
      have e : X f l 1 = NX f l := rfl
      rw [e]
      rcases best_all (f := f) (l := l) 0 0 0 (fun z hz hzf => absurd (all z hz) hzf) with ⟨a, _⟩ | ⟨_, b, _⟩
      · exact a
      · exact all _ b
    have k1 : k = 1 := by
      by_cases e : 1 < k
      · exact absurd x1 (h.2.2.2 1 (Nat.le_refl _) e)
      · have := h.2.1; omega
    subst k1
    have e0 : at' po 0 = f := h.2.2.1 0 (by omega)
    refine ⟨⟨by have := h.1; omega, fun i h1 h2 => by have := h.1; omega, fun h2 => by have := h.1; omega⟩, fun x hx => ?_, fun y hy => (hs1 h.1).2 (e0.trans (all y hy).symm)⟩
    obtain ⟨i, hi, e⟩ := mem_at hx
    obtain rfl : i = 0 := by have := h.1; omega
    rw [← e, e0]; exact hf
end Hl
end Go.Proofs.YtlookcbokhknfaaGreat
namespace Go.Proofs.YtlookcbokhknfaaGreat
open Go.RowKit
namespace Hl
def mnI (x y : Int) : Int := if y < x then y else x
def mxI (x y : Int) : Int := if x < y then y else x
def gL (p : List Pt) (u v : Int) (j : Nat) : Int := u * (at' p j).1 + v * (at' p j).2
def bl (g : Nat → Int) : Nat → Int
  | 0 => g 0
  | k + 1 => mnI (bl g k) (g (k + 1))
def bh (g : Nat → Int) : Nat → Int
  | 0 => g 0
  | k + 1 => mxI (bh g k) (g (k + 1))
theorem bl_min (g : Nat → Int) : ∀ k, (∃ j, j ≤ k ∧ g j = bl g k) ∧ ∀ j, j ≤ k → bl g k ≤ g j
  | 0 => ⟨⟨0, Nat.le_refl _, rfl⟩, fun j hj => by
    obtain rfl : j = 0 := by omega
    exact Int.le_refl _⟩
  | k + 1 => by
    obtain ⟨⟨j, hj, e⟩, h⟩ := bl_min g k
    have d : bl g (k + 1) = mnI (bl g k) (g (k + 1)) := rfl
    rw [d]
    unfold mnI
    split
    · refine ⟨⟨k + 1, Nat.le_refl _, rfl⟩, fun i hi => ?_⟩
      by_cases ei : i = k + 1
      · rw [ei]; exact Int.le_refl _
      · have := h i (by omega); omega
    · refine ⟨⟨j, by omega, e⟩, fun i hi => ?_⟩
      by_cases ei : i = k + 1
      · rw [ei]; omega
      · exact h i (by omega)
theorem bh_max (g : Nat → Int) : ∀ k, (∃ j, j ≤ k ∧ g j = bh g k) ∧ ∀ j, j ≤ k → g j ≤ bh g k
  | 0 => ⟨⟨0, Nat.le_refl _, rfl⟩, fun j hj => by
    obtain rfl : j = 0 := by omega
    exact Int.le_refl _⟩
  | k + 1 => by
    obtain ⟨⟨j, hj, e⟩, h⟩ := bh_max g k
    have d : bh g (k + 1) = mxI (bh g k) (g (k + 1)) := rfl
    rw [d]
    unfold mxI
    split
    · refine ⟨⟨k + 1, Nat.le_refl _, rfl⟩, fun i hi => ?_⟩
      by_cases ei : i = k + 1
      · rw [ei]; exact Int.le_refl _
      · have := h i (by omega); omega
    · refine ⟨⟨j, by omega, e⟩, fun i hi => ?_⟩
      by_cases ei : i = k + 1
      · rw [ei]; omega
      · exact h i (by omega)
theorem bounds_min {p : List Pt} {u v : Int} (h : 1 ≤ p.length) : IsMin p u v (bl (gL p u v) (p.length - 1)) ∧ IsMin p (-u) (-v) (-(bh (gL p u v) (p.length - 1))) := by
  obtain ⟨⟨j, hj, e⟩, h1⟩ := bl_min (gL p u v) (p.length - 1)
  obtain ⟨⟨i, hi, e'⟩, h2⟩ := bh_max (gL p u v) (p.length - 1)
  refine ⟨⟨⟨at' p j, at_mem (by omega), e⟩, fun x hx => ?_⟩, ⟨⟨at' p i, at_mem (by omega), ?_⟩, fun x hx => ?_⟩⟩
  · obtain ⟨n, hn, en⟩ := mem_at hx
    rw [← en]; exact h1 n (by omega)
  · rw [← e']; unfold gL; grind
  · obtain ⟨n, hn, en⟩ := mem_at hx
    have := h2 n (by omega)
    rw [← en]
    have e2 : -u * (at' p n).1 + -v * (at' p n).2 = -(gL p u v n) := by unfold gL; grind
    omega
end Hl
end Go.Proofs.YtlookcbokhknfaaGreat
namespace Go.Proofs.YtlookcbokhknfaaGreat
open Go.RowKit
namespace Hl
def OctSays (p : List Pt) (w : World) (e : Ending) (w' : World) : Prop := ∃ q v, IsOct p q ∧ e = .returned v ∧ Sl w' v q ∧ Grew w w'
theorem oct_plcs {p : List Pt} {a b c d s t i j : Int} (hp : Plcs p) (h1 : IsMin p 1 0 a) (h2 : IsMin p (-1) 0 (-b)) (h3 : IsMin p 0 1 c) (h4 : IsMin p 0 (-1) (-d)) (h5 : IsMin p 1 1 s) (h6 : IsMin p (-1) (-1) (-t)) (h7 : IsMin p 1 (-1) i) (h8 : IsMin p (-1) 1 (-j)) : Plcs (octL a b c d s t i j) := by
  obtain ⟨B, _⟩ := bd_of h1 h2 h3 h4 h5 h6 h7 h8
  refine plcs_of (fun x hx => ?_)
  have hk := oct_keeps B x hx
  obtain ⟨y1, g1, e1⟩ := h1.1
  obtain ⟨y2, g2, e2⟩ := h2.1
  obtain ⟨y3, g3, e3⟩ := h3.1
  obtain ⟨y4, g4, e4⟩ := h4.1
  obtain ⟨n1, l1, r1⟩ := mem_at g1
  obtain ⟨n2, l2, r2⟩ := mem_at g2
  obtain ⟨n3, l3, r3⟩ := mem_at g3
  obtain ⟨n4, l4, r4⟩ := mem_at g4
  have p1 := hp n1 l1
  have p2 := hp n2 l2
  have p3 := hp n3 l3
  have p4 := hp n4 l4
  rw [r1] at p1
  rw [r2] at p2
  rw [r3] at p3
  rw [r4] at p4
  unfold Keeps at hk
  unfold Plc at p1 p2 p3 p4 ⊢
  omega
end Hl
end Go.Proofs.YtlookcbokhknfaaGreat
namespace Go.Proofs.YtlookcbokhknfaaGreat
open Hl
namespace Mk

/-- m is the least integer with m * m at least 2 * n * n. -/
def Wd (n m : Int) : Prop := 0 ≤ m ∧ 2 * n * n ≤ m * m ∧ ∀ j : Int, 0 ≤ j → 2 * n * n ≤ j * j → m ≤ j
theorem wd_unique {n m m' : Int} (h : Wd n m) (h' : Wd n m') : m = m' := by
  have a := h.2.2 m' h'.1 h'.2.1
  have b := h'.2.2 m h.1 h.2.1
  omega
/-- What the disk of n has. -/
def In (n m : Int) (x : Pt) : Prop := Keeps (-n) n (-n) n (-m) m (-m) m x
def diskL (n m : Int) : List Pt := octL (-n) n (-n) n (-m) m (-m) m
end Mk
end Go.Proofs.YtlookcbokhknfaaGreat
namespace Go.Proofs.YtlookcbokhknfaaGreat
open Go.RowKit Hl
namespace Mk
set_option maxRecDepth 100000

def FewSays (q : List Pt) (w : World) (e : Ending) (w' : World) : Prop := ∃ v r, ((q.length ≤ 64 ∧ r = q) ∨ (64 < q.length ∧ IsOct q r)) ∧ e = .returned v ∧ Sl w' v r ∧ Grew w w'
end Mk
end Go.Proofs.YtlookcbokhknfaaGreat
namespace Go.Proofs.YtlookcbokhknfaaGreat
open Go.RowKit Hl
namespace Mk
set_option maxRecDepth 100000

def MirSays (p : List Pt) (w : World) (e : Ending) (w' : World) : Prop := ∃ v m, IsHull (mirror p) m ∧ e = .returned (.tuple #[v, .int .i64 0]) ∧ Sl w' v m ∧ Grew w w'
end Mk
end Go.Proofs.YtlookcbokhknfaaGreat
namespace Go.Proofs.YtlookcbokhknfaaGreat
open Go.RowKit Hl
namespace Mk
set_option maxRecDepth 100000

/-- The sums up to the place i of the first and j of the second. -/
def part (p q : List Pt) (i j : Nat) : List Pt := sums (p.take i) q ++ (q.take j).map (plus (at' p i))
end Mk
end Go.Proofs.YtlookcbokhknfaaGreat
namespace Go.Proofs.YtlookcbokhknfaaGreat
open Go.RowKit Hl
namespace Mk
set_option maxRecDepth 100000

def SumSays (p q : List Pt) (w : World) (e : Ending) (w' : World) : Prop := ∃ s, IsHull (sums p q) s ∧ ((¬ Plcs s ∧ Empty 3 w e w') ∨ (Plcs s ∧ ∃ v t, ((s.length ≤ 64 ∧ t = s) ∨ (64 < s.length ∧ IsOct s t)) ∧ e = .returned (.tuple #[v, .int .i64 0]) ∧ Sl w' v t ∧ Grew w w'))
def ShiftSays (p : List Pt) (z : Pt) (w : World) (e : Ending) (w' : World) : Prop := (¬ Plcs (shift p z) ∧ Empty 3 w e w') ∨ (Plcs (shift p z) ∧ ∃ v, e = .returned (.tuple #[v, .int .i64 0]) ∧ Sl w' v (shift p z) ∧ Grew w w')
def DiskSays (n : Int) (w : World) (e : Ending) (w' : World) : Prop := ∃ v m d, Wd n m ∧ IsHull (diskL n m) d ∧ e = .returned (.tuple #[v, .int .i64 0]) ∧ Sl w' v d ∧ Grew w w'
/-- What four functions owe. -/
structure Fns (fs fh fm fd : Nat) : Prop where
  sum_bad : ∀ (p q : List Pt) (v u : Value) (w : World), Sl w v p → Sl w u q → p.length ≤ 9223372036854775807 → q.length ≤ 9223372036854775807 → ¬ (Vl p ∧ Vl q) → Calls Tryz.prog fs #[v, u] w (Empty 1 w)
  sum_ok : ∀ (p q : List Pt) (v u : Value) (w : World), Sl w v p → Sl w u q → Vl p → Vl q → Calls Tryz.prog fs #[v, u] w (SumSays p q w)
  shift_bad : ∀ (p : List Pt) (z : Pt) (v : Value) (w : World), Sl w v p → p.length ≤ 9223372036854775807 → ¬ (Vl p ∧ Plc z) → Calls Tryz.prog fh #[v, .agg #[.int .i64 z.1, .int .i64 z.2]] w (Empty 1 w)
  shift_ok : ∀ (p : List Pt) (z : Pt) (v : Value) (w : World), Sl w v p → Vl p → Plc z → Calls Tryz.prog fh #[v, .agg #[.int .i64 z.1, .int .i64 z.2]] w (ShiftSays p z w)
  mir_bad : ∀ (p : List Pt) (v : Value) (w : World), Sl w v p → p.length ≤ 9223372036854775807 → ¬ Vl p → Calls Tryz.prog fm #[v] w (Empty 1 w)
  mir_ok : ∀ (p : List Pt) (v : Value) (w : World), Sl w v p → Vl p → Calls Tryz.prog fm #[v] w (MirSays p w)
  disk_bad : ∀ (n : Int) (w : World), ¬ (0 ≤ n ∧ n ≤ 100000) → Calls Tryz.prog fd #[.int .i64 n] w (Empty 1 w)
  disk_ok : ∀ (n : Int) (w : World), 0 ≤ n → n ≤ 100000 → Calls Tryz.prog fd #[.int .i64 n] w (DiskSays n w)

end Mk
end Go.Proofs.YtlookcbokhknfaaGreat
namespace Go.Proofs.YtlookcbokhknfaaGreat
open Go.RowKit Hl
namespace Mk
def SumIs (p q : List Pt) (k : Int) (r : List Pt) : Prop := (¬ (Vl p ∧ Vl q) ∧ k = 1 ∧ r = []) ∨ ((Vl p ∧ Vl q) ∧ ∃ s, IsHull (sums p q) s ∧ ((¬ Plcs s ∧ k = 3 ∧ r = []) ∨ (Plcs s ∧ k = 0 ∧ ((s.length ≤ 64 ∧ r = s) ∨ (64 < s.length ∧ IsOct s r)))))
def ShfIs (p : List Pt) (z : Pt) (k : Int) (r : List Pt) : Prop := (¬ (Vl p ∧ Plc z) ∧ k = 1 ∧ r = []) ∨ ((Vl p ∧ Plc z) ∧ ((¬ Plcs (shift p z) ∧ k = 3 ∧ r = []) ∨ (Plcs (shift p z) ∧ k = 0 ∧ r = shift p z)))
def MirIs (p : List Pt) (k : Int) (r : List Pt) : Prop := (¬ Vl p ∧ k = 1 ∧ r = []) ∨ (Vl p ∧ k = 0 ∧ IsHull (mirror p) r)
def DskIs (n : Int) (k : Int) (r : List Pt) : Prop := (¬ (0 ≤ n ∧ n ≤ 100000) ∧ k = 1 ∧ r = []) ∨ ((0 ≤ n ∧ n ≤ 100000) ∧ k = 0 ∧ ∃ m, Wd n m ∧ IsHull (diskL n m) r)
/-- It returns the answer of these. -/
def Ans (P : Int → List Pt → Prop) (w : World) (e : Ending) (w' : World) : Prop := ∃ v k r, P k r ∧ e = .returned (.tuple #[v, .int .i64 k]) ∧ Sl w' v r ∧ Grew w w'
theorem oct_same {p q q' : List Pt} (h : IsOct p q) (h' : IsOct p q') : q = q' := by
  obtain ⟨a, b, c, d, s, t, i, j, h1, h2, h3, h4, h5, h6, h7, h8, hq⟩ := h
  obtain ⟨a', b', c', d', s', t', i', j', k1, k2, k3, k4, k5, k6, k7, k8, hr⟩ := h'
  obtain rfl := k1.one h1
  obtain rfl : b' = b := by have := k2.one h2; omega
  obtain rfl := k3.one h3
  obtain rfl : d' = d := by have := k4.one h4; omega
  obtain rfl := k5.one h5
  obtain rfl : t' = t := by have := k6.one h6; omega
  obtain rfl := k7.one h7
  obtain rfl : j' = j := by have := k8.one h8; omega
  exact hull_unique hq hr
theorem SumIs.one {p q r r' : List Pt} {k k' : Int} (h : SumIs p q k r) (h' : SumIs p q k' r') : k = k' ∧ r = r' := by
  rcases h with ⟨a, rfl, rfl⟩ | ⟨a, s, hs, h⟩ <;> rcases h' with ⟨a', rfl, rfl⟩ | ⟨a', s', hs', h'⟩
  · exact ⟨rfl, rfl⟩
  · exact absurd a' a
  · exact absurd a a'
  · obtain rfl := hull_unique hs hs'
    rcases h with ⟨b, rfl, rfl⟩ | ⟨b, rfl, h⟩ <;> rcases h' with ⟨b', rfl, rfl⟩ | ⟨b', rfl, h'⟩
    · exact ⟨rfl, rfl⟩
    · exact absurd b' b
    · exact absurd b b'
    · rcases h with ⟨c, rfl⟩ | ⟨c, h⟩ <;> rcases h' with ⟨c', rfl⟩ | ⟨c', h'⟩
      · exact ⟨rfl, rfl⟩
      · exfalso; omega
      · exfalso; omega
      · exact ⟨rfl, oct_same h h'⟩
theorem ShfIs.one {p r r' : List Pt} {z : Pt} {k k' : Int} (h : ShfIs p z k r) (h' : ShfIs p z k' r') : k = k' ∧ r = r' := by
  rcases h with ⟨a, rfl, rfl⟩ | ⟨a, h⟩ <;> rcases h' with ⟨a', rfl, rfl⟩ | ⟨a', h'⟩
  · exact ⟨rfl, rfl⟩
  · exact absurd a' a
  · exact absurd a a'
  · rcases h with ⟨b, rfl, rfl⟩ | ⟨b, rfl, rfl⟩ <;> rcases h' with ⟨b', rfl, rfl⟩ | ⟨b', rfl, rfl⟩
    · exact ⟨rfl, rfl⟩
    · exact absurd b' b
    · exact absurd b b'
    · exact ⟨rfl, rfl⟩
theorem MirIs.one {p r r' : List Pt} {k k' : Int} (h : MirIs p k r) (h' : MirIs p k' r') : k = k' ∧ r = r' := by
  rcases h with ⟨a, rfl, rfl⟩ | ⟨a, rfl, h⟩ <;> rcases h' with ⟨a', rfl, rfl⟩ | ⟨a', rfl, h'⟩
  · exact ⟨rfl, rfl⟩
  · exact absurd a' a
  · exact absurd a a'
  · exact ⟨rfl, hull_unique h h'⟩
theorem DskIs.one {n : Int} {r r' : List Pt} {k k' : Int} (h : DskIs n k r) (h' : DskIs n k' r') : k = k' ∧ r = r' := by
  rcases h with ⟨a, rfl, rfl⟩ | ⟨a, rfl, m, hm, h⟩ <;> rcases h' with ⟨a', rfl, rfl⟩ | ⟨a', rfl, m', hm', h'⟩
  · exact ⟨rfl, rfl⟩
  · exact absurd a' a
  · exact absurd a a'
  · obtain rfl := wd_unique hm hm'
    exact ⟨rfl, hull_unique h h'⟩
variable {fs fh fm fd : Nat}
theorem Fns.sum (F : Fns fs fh fm fd) (p q : List Pt) (v u : Value) (w : World) (hs : Sl w v p) (hu : Sl w u q) (h1 : p.length ≤ 9223372036854775807) (h2 : q.length ≤ 9223372036854775807) : Calls Tryz.prog fs #[v, u] w (Ans (SumIs p q) w) := by
  by_cases h : Vl p ∧ Vl q
  · refine (F.sum_ok p q v u w hs hu h.1 h.2).mono ?_
    rintro e w' ⟨s, hh, ⟨b, v', rfl, sl, g⟩ | ⟨b, v', t, ht, rfl, sl, g⟩⟩
    · exact ⟨v', 3, [], Or.inr ⟨h, s, hh, Or.inl ⟨b, rfl, rfl⟩⟩, rfl, sl, g⟩
    · exact ⟨v', 0, t, Or.inr ⟨h, s, hh, Or.inr ⟨b, rfl, ht⟩⟩, rfl, sl, g⟩
  · refine (F.sum_bad p q v u w hs hu h1 h2 h).mono ?_
    rintro e w' ⟨v', rfl, sl, g⟩
    exact ⟨v', 1, [], Or.inl ⟨h, rfl, rfl⟩, rfl, sl, g⟩
theorem hull_le {l q : List Pt} (h : IsHull l q) : q.length ≤ l.length := by
  have hnd : ∀ i j, i < q.length → j < q.length → i ≠ j → at' q i ≠ at' q j := fun _ _ hi hj hne => pg_distinct h.1 hi hj hne
  exact count_le (at' q) q.length l (fun _ _ hi hj hne => hnd _ _ hi hj hne) (fun _ hi => h.2.1 _ (at_mem hi))
end Mk
end Go.Proofs.YtlookcbokhknfaaGreat
namespace Go.Proofs.YtlookcbokhknfaaGreat
open Go.RowKit Hl Ex
namespace Ct
set_option maxRecDepth 100000

theorem in01_c (n lo hi : Int) (w : World) : Calls Tryz.prog 81 #[.int .i64 n, .int .i64 lo, .int .i64 hi] w fun e w' => e = .returned (.bool (decide (lo ≤ n ∧ n ≤ hi))) ∧ w = w' := by
  by_cases h1 : lo ≤ n
  · by_cases h2 : n ≤ hi
    · rw [decide_eq_true (show lo ≤ n ∧ n ≤ hi from ⟨h1, h2⟩)]
      go_enter Tryz.func81, Tryz.ntmps81
      go_wp2_with fail
      go_ret
      exact ⟨rfl, rfl⟩
    · rw [decide_eq_false (show ¬ (lo ≤ n ∧ n ≤ hi) from fun h => h2 h.2)]
      go_enter Tryz.func81, Tryz.ntmps81
      go_wp2_with fail
      go_ret
      exact ⟨by first | rfl | (simp; omega), rfl⟩
  · rw [decide_eq_false (show ¬ (lo ≤ n ∧ n ≤ hi) from fun h => h1 h.1)]
    go_enter Tryz.func81, Tryz.ntmps81
    go_wp2_with fail
    go_ret
    exact ⟨by first | rfl | (simp; omega), rfl⟩
theorem half_c (h : Hf) (w : World) : Calls Tryz.prog 37 #[.agg #[.int .i64 h.1, .int .i64 h.2.1, .int .i64 h.2.2]] w fun e w' => e = .returned (.bool (decide (WF h))) ∧ Grew w w' := by
  obtain ⟨ba, ea⟩ : ∃ b, decide (-1000000 ≤ h.1 ∧ h.1 ≤ 1000000) = b := ⟨_, rfl⟩
  obtain ⟨bb, eb⟩ : ∃ b, decide (-1000000 ≤ h.2.1 ∧ h.2.1 ≤ 1000000) = b := ⟨_, rfl⟩
  obtain ⟨bc, ec⟩ : ∃ b, decide (-1000000000000 ≤ h.2.2 ∧ h.2.2 ≤ 1000000000000) = b := ⟨_, rfl⟩
  have A := Lib.hid (fun W => in01_c h.1 (-1000000) 1000000 W)
  have B := Lib.hid (fun W => in01_c h.2.1 (-1000000) 1000000 W)
  have D := Lib.hid (fun W => in01_c h.2.2 (-1000000000000) 1000000000000 W)
  have E : (ba = true ∧ bb = true ∧ bc = true ∧ ¬ (h.1 = 0 ∧ h.2.1 = 0)) ↔ WF h := by
    rw [← ea, ← eb, ← ec, decide_eq_true_eq, decide_eq_true_eq, decide_eq_true_eq]
    unfold WF
    constructor
    · rintro ⟨a, b, c, d⟩; exact ⟨⟨a, b, c⟩, d⟩
    · rintro ⟨⟨a, b, c⟩, d⟩; exact ⟨a, b, c, d⟩
  obtain ⟨r, er⟩ : ∃ b, decide (WF h) = b := ⟨_, rfl⟩
  rw [er]
  rw [ea] at A
  rw [eb] at B
  rw [ec] at D
  have ER : Hid (decide (ba = true ∧ bb = true ∧ bc = true ∧ ¬ (h.1 = 0 ∧ h.2.1 = 0)) = r) := Lib.hid (by rw [← er]; exact decide_eq_decide.2 E)
  have HH := Lib.hid (Blk.new w #[.int .i64 h.1, .int .i64 h.2.1, .int .i64 h.2.2] 25)
  clear E er ea eb ec
  generalize h.1 = x at *
  generalize h.2.1 = y at *
  generalize h.2.2 = z at *
  go_enter Tryz.func37, Tryz.ntmps37
  go_wp2_with fail
  refine (A.out _).mono ?_
  rintro e w' ⟨rfl, rfl⟩
  go_wp2_with fail
  refine (B.out _).mono ?_
  rintro e w' ⟨rfl, rfl⟩
  go_wp2_with fail
  refine (D.out _).mono ?_
  rintro e w' ⟨rfl, rfl⟩
  clear A B D HH
  cases ba
  · obtain rfl : false = r := by rw [← ER.out]; simp
    clear ER
    go_wp2_with fail
    go_ret
    exact ⟨rfl, (by (repeat' (first | (with_reducible exact Grew.refl _) | (with_reducible assumption) | (with_reducible refine Grew.alloc ?_ _ _) | (with_reducible refine Grew.drew ?_) | (with_reducible refine Grew.drewN ?_ _) | (with_reducible refine Grew.setCell ?_ ?_ _) | go_size)))⟩
  · cases bb
    · obtain rfl : false = r := by rw [← ER.out]; simp
      clear ER
      go_wp2_with fail
      go_ret
      exact ⟨rfl, (by (repeat' (first | (with_reducible exact Grew.refl _) | (with_reducible assumption) | (with_reducible refine Grew.alloc ?_ _ _) | (with_reducible refine Grew.drew ?_) | (with_reducible refine Grew.drewN ?_ _) | (with_reducible refine Grew.setCell ?_ ?_ _) | go_size)))⟩
    · cases bc
      · obtain rfl : false = r := by rw [← ER.out]; simp
        clear ER
        go_wp2_with fail
        go_ret
        exact ⟨rfl, (by (repeat' (first | (with_reducible exact Grew.refl _) | (with_reducible assumption) | (with_reducible refine Grew.alloc ?_ _ _) | (with_reducible refine Grew.drew ?_) | (with_reducible refine Grew.drewN ?_ _) | (with_reducible refine Grew.setCell ?_ ?_ _) | go_size)))⟩
      · by_cases x0 : x = 0
        · by_cases y0 : y = 0
          · obtain rfl : false = r := by rw [← ER.out]; simp [x0, y0]
            clear ER
            subst x0 y0
            go_wp2_with fail
            go_ret
            exact ⟨rfl, (by (repeat' (first | (with_reducible exact Grew.refl _) | (with_reducible assumption) | (with_reducible refine Grew.alloc ?_ _ _) | (with_reducible refine Grew.drew ?_) | (with_reducible refine Grew.drewN ?_ _) | (with_reducible refine Grew.setCell ?_ ?_ _) | go_size)))⟩
          · obtain rfl : true = r := by rw [← ER.out]; simp [y0]
            clear ER
            subst x0
            go_wp2_with fail
            go_ret
            exact ⟨by first | rfl | simp [y0], (by (repeat' (first | (with_reducible exact Grew.refl _) | (with_reducible assumption) | (with_reducible refine Grew.alloc ?_ _ _) | (with_reducible refine Grew.drew ?_) | (with_reducible refine Grew.drewN ?_ _) | (with_reducible refine Grew.setCell ?_ ?_ _) | go_size)))⟩
        · obtain rfl : true = r := by rw [← ER.out]; simp [x0]
          clear ER
          go_wp2_with fail
          go_ret
          exact ⟨by first | rfl | simp [x0], (by (repeat' (first | (with_reducible exact Grew.refl _) | (with_reducible assumption) | (with_reducible refine Grew.alloc ?_ _ _) | (with_reducible refine Grew.drew ?_) | (with_reducible refine Grew.drewN ?_ _) | (with_reducible refine Grew.setCell ?_ ?_ _) | go_size)))⟩
theorem over_r (h : Hf) (x : Pt) (w : World) (hh : WF h) (hx : Plc x) : Calls Tryz.prog 38 #[.agg #[.int .i64 h.1, .int .i64 h.2.1, .int .i64 h.2.2], .agg #[.int .i64 x.1, .int .i64 x.2]] w fun e w' => e = .returned (.int .i64 (ov h x)) ∧ (w.alloc (.cells #[.int .i64 h.1, .int .i64 h.2.1, .int .i64 h.2.2] 25)).alloc (.cells #[.int .i64 x.1, .int .i64 x.2] 27) = w' := by
  have b := ov_bd (WF.eb hh) hx
  obtain ⟨⟨b0, b1⟩, ⟨b2, b3⟩, b4, b5⟩ := b
  obtain ⟨-, -, b6, b7⟩ := hh.1
  clear hh hx
  rcases h with ⟨A, B, C⟩
  rcases x with ⟨x, y⟩
  unfold ov at *
  simp only at *
  go_enter Tryz.func38, Tryz.ntmps38
  go_wp2_with fail
  go_ret
  exact ⟨rfl, rfl⟩
def FewSays (q : List Pt) (w : World) (e : Ending) (w' : World) : Prop := ∃ v r, ((q.length ≤ 64 ∧ r = q) ∨ (64 < q.length ∧ IsOct q r)) ∧ e = .returned v ∧ Sl w' v r ∧ Grew w w'
end Ct
end Go.Proofs.YtlookcbokhknfaaGreat
