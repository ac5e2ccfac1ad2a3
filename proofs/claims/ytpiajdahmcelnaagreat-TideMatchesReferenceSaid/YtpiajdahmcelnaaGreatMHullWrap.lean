/-
  Plain geometry: a hull that is found corner by corner.
-/
import Derived.Test.YtpiajdahmcelnaaGreatMHullTwo
import Derived.Test.YtpiajdahmcelnaaGreatMHullCon
namespace Go.Proofs.YtpiajdahmcelnaaGreat
namespace Hl
instance decBtw (a b x : Pt) : Decidable (btw a b x) := by unfold btw; infer_instance
/-- y is on the left of the side from f to t, or lies on it. -/
def Good (f t y : Pt) : Prop := 0 < cr f t y ∨ (cr f t y = 0 ∧ btw f t y)
/-- The better one of the end found, and a further point. -/
def nx (f tg y : Pt) : Pt := if tg = f ∨ cr f tg y < 0 ∨ (cr f tg y = 0 ∧ btw f y tg) then y else tg
def NX (f : Pt) (l : List Pt) : Pt := l.foldl (nx f) f
/-- What is known of the end found in some points. -/
def Best (f tg : Pt) (L : Pt → Prop) : Prop := (tg = f ∧ ∀ y, L y → y = f) ∨ (tg ≠ f ∧ L tg ∧ ∀ y, L y → Good f tg y)
theorem good_f (f t : Pt) : Good f t f := Or.inr ⟨cr_self _ _, by unfold btw; omega⟩
theorem good_t (f t : Pt) : Good f t t := Or.inr ⟨cr_self' _ _, by unfold btw; omega⟩
theorem best_step {f tg y : Pt} {L : Pt → Prop} (u v k : Int) (hg : ∀ z, (L z ∨ z = y) → z ≠ f → af u v k f < af u v k z) (h : Best f tg L) : Best f (nx f tg y) (fun z => L z ∨ z = y) := by
  unfold nx
  rcases h with ⟨h1, h2⟩ | ⟨h1, h2, h3⟩
  · rw [if_pos (Or.inl h1)]
    by_cases e : y = f
    · exact Or.inl ⟨e, fun z hz => hz.elim (h2 z) (fun ez => ez.trans e)⟩
    · refine Or.inr ⟨e, Or.inr rfl, fun z hz => ?_⟩
      rcases hz with hz | rfl
      · rw [h2 z hz]; exact good_f _ _
      · exact good_t _ _
  · have gto := hg tg (Or.inl h2) h1
    by_cases c1 : cr f tg y < 0
    · rw [if_pos (Or.inr (Or.inl c1))]
      have hy : y ≠ f := fun e => by rw [e, cr_self] at c1; omega
      have gy := hg y (Or.inr rfl) hy
      refine Or.inr ⟨hy, Or.inr rfl, fun z hz => ?_⟩
      rcases hz with hz | rfl
      · by_cases ez : z = f
        · rw [ez]; exact good_f _ _
        · have gz := hg z (Or.inl hz) ez
          have c2 : 0 ≤ cr f tg z := by rcases h3 z hz with h | h <;> omega
          have e := tri u v k f tg y z
          have m1 := Int.mul_nonneg c2 (show 0 ≤ af u v k y - af u v k f by omega)
          have m2 := Int.mul_pos (show 0 < -(cr f tg y) by omega) (show 0 < af u v k z - af u v k f by omega)
          have e2 : cr f y z * (af u v k tg - af u v k f) = cr f tg z * (af u v k y - af u v k f) + -(cr f tg y) * (af u v k z - af u v k f) := by grind
          left
          by_cases hp : 0 < cr f y z
          · exact hp
          · have := Int.mul_nonneg (show 0 ≤ -(cr f y z) by omega) (show 0 ≤ af u v k tg - af u v k f by omega)
            have e3 : -(cr f y z) * (af u v k tg - af u v k f) = -(cr f y z * (af u v k tg - af u v k f)) := by grind
            omega
      · exact good_t _ _
    · by_cases c2 : cr f tg y = 0 ∧ btw f y tg
      · rw [if_pos (Or.inr (Or.inr c2))]
        have hy : y ≠ f := fun e => by
          have := c2.2
          rw [e] at this
          unfold btw at this
          exact h1 (Prod.ext (by omega) (by omega))
        have gy := hg y (Or.inr rfl) hy
        refine Or.inr ⟨hy, Or.inr rfl, fun z hz => ?_⟩
        rcases hz with hz | rfl
        · have e := tri u v k f tg y z
          rw [c2.1, Int.zero_mul, Int.sub_zero] at e
          rcases h3 z hz with h | ⟨h, hb⟩
          · left
            have m := Int.mul_pos h (show 0 < af u v k y - af u v k f by omega)
            by_cases hp : 0 < cr f y z
            · exact hp
            · have := Int.mul_nonneg (show 0 ≤ -(cr f y z) by omega) (show 0 ≤ af u v k tg - af u v k f by omega)
              have e3 : -(cr f y z) * (af u v k tg - af u v k f) = -(cr f y z * (af u v k tg - af u v k f)) := by grind
              omega
          · right
            rw [h, Int.zero_mul] at e
            refine ⟨?_, ?_⟩
            · rcases Int.mul_eq_zero.1 e with e | e
              · exact e
              · omega
            · have b := c2.2
              unfold btw at b hb ⊢
              omega
        · exact good_t _ _
      · rw [if_neg (fun h => h.elim h1 (fun h => h.elim c1 c2))]
        refine Or.inr ⟨h1, Or.inl h2, fun z hz => ?_⟩
        rcases hz with hz | rfl
        · exact h3 z hz
        · by_cases c3 : 0 < cr f tg z
          · exact Or.inl c3
          · have c0 : cr f tg z = 0 := by omega
            right
            refine ⟨c0, ?_⟩
            by_cases ez : z = f
            · rw [ez]; unfold btw; omega
            · have gz := hg z (Or.inr rfl) ez
              by_cases hle : af u v k z ≤ af u v k tg
              · exact btw_of gto c0 (by omega) hle
              · exact absurd ⟨c0, btw_of gz (by rw [cr_swap, c0]; rfl) (by omega) (by omega)⟩ c2
theorem best_all {f : Pt} {l : List Pt} (u v k : Int) (hg : ∀ z, z ∈ l → z ≠ f → af u v k f < af u v k z) : Best f (NX f l) (fun y => y ∈ l) := by
  have key : ∀ (m : List Pt) (tg : Pt) (L : Pt → Prop), (∀ z, (L z ∨ z ∈ m) → z ≠ f → af u v k f < af u v k z) → Best f tg L → Best f (m.foldl (nx f) tg) (fun z => L z ∨ z ∈ m) := by
    intro m
    induction m with
    | nil =>
      intro tg L _ h
      rcases h with ⟨a, b⟩ | ⟨a, b, c⟩
      · exact Or.inl ⟨a, fun y hy => hy.elim (b y) (fun h => by cases h)⟩
      · exact Or.inr ⟨a, Or.inl b, fun y hy => hy.elim (c y) (fun h => by cases h)⟩
    | cons x m ih =>
      intro tg L hg h
      have h1 := best_step (y := x) u v k (fun z hz => hg z (hz.elim Or.inl (fun e => Or.inr (by rw [e]; exact List.mem_cons_self)))) h
      have h2 := ih (nx f tg x) (fun z => L z ∨ z = x) (fun z hz => hg z (by
        rcases hz with (hz | hz) | hz
        · exact Or.inl hz
        · exact Or.inr (by rw [hz]; exact List.mem_cons_self)
        · exact Or.inr (List.mem_cons_of_mem _ hz))) h1
      have hm : ∀ z, (L z ∨ z = x) ∨ z ∈ m ↔ L z ∨ z ∈ x :: m := fun z => by rw [List.mem_cons, or_assoc]
      rcases h2 with ⟨a, b⟩ | ⟨a, b, c⟩
      · exact Or.inl ⟨a, fun y hy => b y ((hm y).2 hy)⟩
      · exact Or.inr ⟨a, (hm _).1 b, fun y hy => c y ((hm y).2 hy)⟩
  have h := key l f (fun _ => False) (fun z hz => hg z (hz.elim (fun h => h.elim) id)) (Or.inl ⟨rfl, fun _ h => h.elim⟩)
  rcases h with ⟨a, b⟩ | ⟨a, b, c⟩
  · exact Or.inl ⟨a, fun y hy => b y (Or.inr hy)⟩
  · exact Or.inr ⟨a, b.elim (fun h => h.elim) id, fun y hy => c y (Or.inr hy)⟩
/-- Behind a side that has all on its left, its end is a corner: some functional is least there alone. -/
theorem corner_fun {a c : Pt} {l : List Pt} (hac : a ≠ c) (h : ∀ y, y ∈ l → Good a c y) : ∃ u v k : Int, ∀ z, z ∈ l → z ≠ c → af u v k c < af u v k z := by
  obtain ⟨M, hM, hb⟩ := steep (fun i => -(dt c a (at' l i))) l.length
  have f1 : ∀ y, cr a c y = af (-(c.2 - a.2)) (c.1 - a.1) ((c.2 - a.2) * a.1 - (c.1 - a.1) * a.2) y := cr_af a c
  have f2 : ∀ y, dt c a y = af (a.1 - c.1) (a.2 - c.2) (-((a.1 - c.1) * c.1 + (a.2 - c.2) * c.2)) y := dt_af c a
  refine ⟨M * -(c.2 - a.2) + (a.1 - c.1), M * (c.1 - a.1) + (a.2 - c.2), M * ((c.2 - a.2) * a.1 - (c.1 - a.1) * a.2) + -((a.1 - c.1) * c.1 + (a.2 - c.2) * c.2), fun z hz hne => ?_⟩
  have e : ∀ y, af (M * -(c.2 - a.2) + (a.1 - c.1)) (M * (c.1 - a.1) + (a.2 - c.2)) (M * ((c.2 - a.2) * a.1 - (c.1 - a.1) * a.2) + -((a.1 - c.1) * c.1 + (a.2 - c.2) * c.2)) y = M * cr a c y + dt c a y := fun y => by rw [f1, f2]; unfold af; grind
  rw [e, e, cr_self', dt_self, Int.mul_zero]
  obtain ⟨i, hi, ei⟩ := mem_at hz
  have hbi := hb i hi
  simp only [ei] at hbi
  rcases h z hz with g | ⟨g, b⟩
  · have := Int.mul_le_mul_of_nonneg_left (show 1 ≤ cr a c z by omega) (Int.le_of_lt hM)
    omega
  · rw [g, Int.mul_zero]
    have g' : cr c a z = 0 := by rw [cr_swap2, g]; rfl
    have d0 : 0 ≤ dt c a z := by
      unfold dt
      unfold btw at b
      have s1 : 0 ≤ (a.1 - c.1) * (z.1 - c.1) := by
        rcases Int.le_total 0 (a.1 - c.1) with k | k
        · exact Int.mul_nonneg k (by omega)
        · have := Int.mul_nonneg (show 0 ≤ -(a.1 - c.1) by omega) (show 0 ≤ -(z.1 - c.1) by omega)
          rwa [Int.neg_mul_neg] at this
      have s2 : 0 ≤ (a.2 - c.2) * (z.2 - c.2) := by
        rcases Int.le_total 0 (a.2 - c.2) with k | k
        · exact Int.mul_nonneg k (by omega)
        · have := Int.mul_nonneg (show 0 ≤ -(a.2 - c.2) by omega) (show 0 ≤ -(z.2 - c.2) by omega)
          rwa [Int.neg_mul_neg] at this
      omega
    by_cases d : dt c a z = 0
    · exact absurd (dt_zero hac.symm g' d) hne
    · omega
/-- Two sides with all on their left that end at one place begin at one place. -/
theorem one_before {a b c : Pt} (h1 : Good a c b) (h2 : Good b c a) : a = b := by
  have e : cr b c a = -(cr a c b) := by unfold cr; grind
  rcases h1 with h1 | ⟨h1, k1⟩
  · rcases h2 with h2 | ⟨h2, _⟩ <;> omega
  · rcases h2 with h2 | ⟨h2, k2⟩
    · omega
    · unfold btw at k1 k2
      exact Prod.ext (by omega) (by omega)
/-- The corners, one after the other. -/
def X (f : Pt) (l : List Pt) : Nat → Pt
  | 0 => f
  | i + 1 => NX (X f l i) l
section
variable {f : Pt} {l : List Pt}
theorem X_good (hf : f ∈ l) (h0 : ∀ z, z ∈ l → z ≠ f → ls f z) (hne : ∃ z, z ∈ l ∧ z ≠ f) : ∀ i, X f l i ∈ l ∧ X f l (i + 1) ∈ l ∧ X f l i ≠ X f l (i + 1) ∧ ∀ y, y ∈ l → Good (X f l i) (X f l (i + 1)) y := by
  have go : ∀ c, (∃ u v k : Int, ∀ z, z ∈ l → z ≠ c → af u v k c < af u v k z) → (∃ z, z ∈ l ∧ z ≠ c) → NX c l ∈ l ∧ c ≠ NX c l ∧ ∀ y, y ∈ l → Good c (NX c l) y := by
    intro c ⟨u, v, k, hg⟩ ⟨z, hz, hzc⟩
    rcases best_all u v k hg with ⟨_, b⟩ | ⟨a, b, d⟩
    · exact absurd (b z hz) hzc
    · exact ⟨b, fun e => a e.symm, d⟩
  intro i
  induction i with
  | zero =>
    obtain ⟨M, hM, hb⟩ := steep (fun i => f.2 - (at' l i).2) l.length
    have h := go f ⟨M, 1, 0, fun z hz hzf => by
      obtain ⟨i, hi, ei⟩ := mem_at hz
      have hbi := hb i hi
      simp only [ei] at hbi
      unfold af
      rcases h0 z hz hzf with h | ⟨h, h'⟩
      · have := Int.mul_le_mul_of_nonneg_left (show f.1 + 1 ≤ z.1 by omega) (Int.le_of_lt hM)
        rw [Int.mul_add] at this
        omega
      · rw [h]; omega⟩ hne
    exact ⟨hf, h.1, h.2.1, h.2.2⟩
  | succ i ih =>
    obtain ⟨h1, hc, h2, h3⟩ := ih
    have h := go _ (corner_fun h2 h3) ⟨X f l i, h1, h2⟩
    exact ⟨hc, h.1, h.2.1, h.2.2⟩
theorem X_back (hf : f ∈ l) (h0 : ∀ z, z ∈ l → z ≠ f → ls f z) (hne : ∃ z, z ∈ l ∧ z ≠ f) {i j : Nat} (e : X f l (i + 1) = X f l (j + 1)) : X f l i = X f l j := by
  obtain ⟨a1, _, _, a4⟩ := X_good hf h0 hne i
  obtain ⟨b1, _, _, b4⟩ := X_good hf h0 hne j
  refine one_before (c := X f l (i + 1)) (a4 _ b1) ?_
  rw [e]
  exact b4 _ a1
/-- As long as the first corner has not come again, all corners are different. -/
theorem X_distinct (hf : f ∈ l) (h0 : ∀ z, z ∈ l → z ≠ f → ls f z) (hne : ∃ z, z ∈ l ∧ z ≠ f) {k : Nat} (hk : ∀ i, 1 ≤ i → i < k → X f l i ≠ f) : ∀ i j, i < j → j < k → X f l i ≠ X f l j := by
  intro i
  induction i with
  | zero => intro j hj hjk e; exact hk j (by omega) hjk e.symm
  | succ i ih =>
    intro j hj hjk e
    obtain ⟨j', rfl⟩ : ∃ j', j = j' + 1 := ⟨j - 1, by omega⟩
    exact ih j' (by omega) (by omega) (X_back hf h0 hne e)
theorem X_few (hf : f ∈ l) (h0 : ∀ z, z ∈ l → z ≠ f → ls f z) (hne : ∃ z, z ∈ l ∧ z ≠ f) {k : Nat} (hk : ∀ i, 1 ≤ i → i < k → X f l i ≠ f) : k ≤ l.length :=
  count_le (X f l) k l (fun i j hi hj hij => by
    rcases Nat.lt_or_gt_of_ne hij with c | c
    · exact X_distinct hf h0 hne hk i j c hj
    · exact fun e => X_distinct hf h0 hne hk j i c hi e.symm) (fun i _ => (X_good hf h0 hne i).1)
/-- When the first corner comes again, the corners are the hull. -/
theorem X_hull (hf : f ∈ l) (h0 : ∀ z, z ∈ l → z ≠ f → ls f z) (hne : ∃ z, z ∈ l ∧ z ≠ f) {n : Nat} (hn : 1 ≤ n) (hk : ∀ i, 1 ≤ i → i < n → X f l i ≠ f) (hend : X f l n = f) {p : List Pt} (hp : p.length = n) (ep : ∀ i, i < n → at' p i = X f l i) : IsHull l p := by
  have G := X_good hf h0 hne
  have D := X_distinct hf h0 hne hk
  have n2 : 2 ≤ n := by
    by_cases e : n = 1
    · subst e; exact absurd hend.symm (G 0).2.2.1
    · omega
  have nxt : ∀ i, i < n → at' p ((i + 1) % p.length) = X f l (i + 1) := fun i hi => by
    rw [hp]
    by_cases e : i + 1 = n
    · rw [e, Nat.mod_self, ep 0 (by omega), hend]; rfl
    · rw [Nat.mod_eq_of_lt (by omega)]; exact ep _ (by omega)
  have hm : ∀ x, x ∈ p → x ∈ l := fun x hx => by
    obtain ⟨i, hi, e⟩ := mem_at hx
    rw [← e, ep i (by omega)]; exact (G i).1
  have hfirst : ∀ i, 1 ≤ i → i < p.length → ls (at' p 0) (at' p i) := fun i h1 hi => by
    rw [ep 0 (by omega), ep i (by omega)]
    exact h0 _ (G i).1 (hk i h1 (by omega))
  by_cases h3 : 3 ≤ n
  · refine hull_of_sides (by omega) hm (fun i j hi hj hij => ?_) (fun i hi y hy => ?_) (fun i hi => ?_) hfirst
    · rw [ep i (by omega), ep j (by omega)]
      rcases Nat.lt_or_gt_of_ne hij with c | c
      · exact D i j c (by omega)
      · exact fun e => D j i c (by omega) e.symm
    · rw [ep i (by omega), nxt i (by omega)]
      rcases (G i).2.2.2 y hy with h | h <;> omega
    · rw [nxt i (by omega), ep i (by omega)]
      -- the corner before
      obtain ⟨j, hj, ej, ej2⟩ : ∃ j, at' p (pv p.length i) = X f l j ∧ X f l (j + 1) = X f l i ∧ X f l j ≠ X f l (i + 1) := by
        by_cases e0 : i = 0
        · subst e0
          refine ⟨n - 1, ?_, ?_, ?_⟩
          · have epv : pv p.length 0 = n - 1 := by unfold pv; rw [hp, Nat.zero_add, Nat.mod_eq_of_lt (by omega)]
            rw [epv]; exact ep _ (by omega)
          · have e1 : n - 1 + 1 = n := by omega
            rw [e1, hend]; rfl
          · exact fun e => D 1 (n - 1) (by omega) (by omega) e.symm
        · refine ⟨i - 1, ?_, ?_, ?_⟩
          · have epv : pv p.length i = i - 1 := by
              unfold pv
              have : i + (p.length - 1) = p.length + (i - 1) := by omega
              rw [this, Nat.add_mod_left, Nat.mod_eq_of_lt (by omega)]
            rw [epv]; exact ep _ (by omega)
          · have e1 : i - 1 + 1 = i := by omega
            rw [e1]
          · by_cases e : i + 1 = n
            · rw [e, hend]
              by_cases e1 : i = 1
              · omega
              · exact hk (i - 1) (by omega) (by omega)
            · exact D (i - 1) (i + 1) (by omega) (by omega)
      rw [hj]
      have g1 := (G j).2.2.2 _ (G i).2.1
      have g2 := (G i).2.2.2 _ (G j).1
      rw [ej] at g1
      rcases g1 with g1 | ⟨g1, b1⟩
      · exact g1
      · exfalso
        refine ej2 ?_
        have e : cr (X f l i) (X f l (i + 1)) (X f l j) = cr (X f l j) (X f l i) (X f l (i + 1)) := (cr_rot _ _ _).symm
        rcases g2 with g2 | ⟨_, b2⟩
        · omega
        · unfold btw at b1 b2
          exact Prod.ext (by omega) (by omega)
  · have e2 : n = 2 := by omega
    subst e2
    refine ⟨⟨by omega, hfirst, fun h => by omega⟩, hm, fun y hy => ?_⟩
    rw [hs2 hp, ep 0 (by omega), ep 1 (by omega)]
    have g1 : Good f (X f l 1) y := (G 0).2.2.2 y hy
    have g2 : Good (X f l 1) (X f l 2) y := (G 1).2.2.2 y hy
    rw [hend] at g2
    have ex : X f l 0 = f := rfl
    rw [ex]
    have e : cr (X f l 1) f y = -(cr f (X f l 1) y) := cr_swap2 _ _ _
    rcases g1 with g1 | g1
    · rcases g2 with g2 | g2 <;> omega
    · exact g1
end
end Hl
end Go.Proofs.YtpiajdahmcelnaaGreat
