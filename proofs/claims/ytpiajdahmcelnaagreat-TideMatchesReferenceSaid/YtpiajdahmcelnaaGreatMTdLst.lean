/-
  Without a program: the bounds of all that is ranged over are the least ones for the rectangle and the time.
-/
import Derived.Test.YtpiajdahmcelnaaGreatMTdH
namespace Go.Proofs.YtpiajdahmcelnaaGreat
open Go.RowKit Hl
namespace Td
theorem lex2 {a b a' b' H : Int} (h0 : 0 ≤ b) (h1 : b < H) (h2 : 0 ≤ b') (h : a < a' ∨ (a = a' ∧ b < b')) : a * H + b < a' * H + b' := by
  rcases h with h | ⟨rfl, h⟩
  · have e : (a + 1) * H ≤ a' * H := Int.mul_le_mul_of_nonneg_right (by omega) (by omega)
    have : (a + 1) * H = a * H + H := by rw [Int.add_mul, Int.one_mul]
    omega
  · omega
theorem two_in {a b N H : Int} (ha : 0 ≤ a) (hN : a < N) (h0 : 0 ≤ b) (h1 : b < H) : 0 ≤ a * H + b ∧ a * H + b < N * H := by
  have e : (a + 1) * H ≤ N * H := Int.mul_le_mul_of_nonneg_right (by omega) (by omega)
  have : (a + 1) * H = a * H + H := by rw [Int.add_mul, Int.one_mul]
  have : 0 ≤ a * H := Int.mul_nonneg ha (by omega)
  omega
theorem two_of {v N H : Int} (hH : 0 < H) (h0 : 0 ≤ v) (h1 : v < N * H) : ∃ a b, 0 ≤ a ∧ a < N ∧ 0 ≤ b ∧ b < H ∧ v = a * H + b := by
  refine ⟨v / H, v % H, Int.ediv_nonneg h0 (by omega), ?_, Int.emod_nonneg _ (by omega), Int.emod_lt_of_pos _ hH, ?_⟩
  · exact Int.ediv_lt_of_lt_mul hH h1
  · have := Int.mul_ediv_add_emod v H
    rw [Int.mul_comm] at this
    omega
/-- The number of a block in a slot. -/
def nr (S Y X Y' X' s y x : Int) : Int := ((s - S) * (Y' - Y + 1) + (y - Y)) * (X' - X + 1) + (x - X)
theorem nr_lt {S Y X S' Y' X' s y x s' y' x' : Int} (h : Bx X X' Y Y' S S' x y s) (k : Bx X X' Y Y' S S' x' y' s') (hb : bef s y x s' y' x') : nr S Y X Y' X' s y x < nr S Y X Y' X' s' y' x' := by
  unfold Bx at h k
  unfold bef at hb
  unfold nr
  refine lex2 (by omega) (by omega) (by omega) ?_
  rcases hb with hb | ⟨rfl, hb | ⟨rfl, hb⟩⟩
  · exact Or.inl (lex2 (by omega) (by omega) (by omega) (Or.inl (by omega)))
  · exact Or.inl (lex2 (by omega) (by omega) (by omega) (Or.inr ⟨rfl, by omega⟩))
  · exact Or.inr ⟨rfl, by omega⟩
theorem nr_in {S Y X S' Y' X' s y x : Int} (h : Bx X X' Y Y' S S' x y s) : 0 ≤ nr S Y X Y' X' s y x ∧ nr S Y X Y' X' s y x < cntB S Y X S' Y' X' := by
  unfold Bx at h
  unfold nr cntB
  obtain ⟨p, q⟩ := two_in (a := s - S) (b := y - Y) (N := S' - S + 1) (H := Y' - Y + 1) (by omega) (by omega) (by omega) (by omega)
  exact two_in p q (by omega) (by omega)
theorem nr_of {S Y X S' Y' X' v : Int} (hY : Y ≤ Y') (hX : X ≤ X') (h0 : 0 ≤ v) (h1 : v < cntB S Y X S' Y' X') : ∃ s y x, Bx X X' Y Y' S S' x y s ∧ v = nr S Y X Y' X' s y x := by
  unfold cntB at h1
  obtain ⟨q, c, q0, q1, c0, c1, rfl⟩ := two_of (by omega) h0 h1
  obtain ⟨a, b, a0, a1, b0, b1, rfl⟩ := two_of (by omega) q0 q1
  refine ⟨a + S, b + Y, c + X, by unfold Bx; omega, ?_⟩
  unfold nr
  rw [show a + S - S = a by omega, show b + Y - Y = b by omega, show c + X - X = c by omega]
theorem nr_inj {S Y X S' Y' X' s y x s' y' x' : Int} (h : Bx X X' Y Y' S S' x y s) (k : Bx X X' Y Y' S S' x' y' s') (e : nr S Y X Y' X' s y x = nr S Y X Y' X' s' y' x') : s = s' ∧ y = y' ∧ x = x' := by
  by_cases h1 : bef s y x s' y' x'
  · have := nr_lt h k h1; omega
  · by_cases h2 : bef s' y' x' s y x
    · have := nr_lt k h h2; omega
    · unfold bef at h1 h2; omega
theorem ri_pair : ∀ {l : List Int}, l.Pairwise (· < ·) → Ri l
  | [], _ => trivial
  | [_], _ => trivial
  | a :: b :: r, h => ⟨(List.pairwise_cons.1 h).1 b (by simp), ri_pair (List.pairwise_cons.1 h).2⟩
theorem up_pair {l : List Fw} (h : Up l) : l.Pairwise Bf := by
  rw [List.pairwise_iff_getElem]
  intro i j hi hj hij
  have e1 := ith_get hi
  have e2 := ith_get hj
  rw [List.getElem?_eq_getElem hi] at e1
  rw [List.getElem?_eq_getElem hj] at e2
  rw [Option.some.inj e1, Option.some.inj e2]
  exact h.lt hij hj
section
variable {t : Ed} {S Y X S' Y' X' : Int} {a z : Nat}
theorem vis_mem (_ht : Tok t) (ha : Cut1 t.l S Y X a) (hz : Cut2 t.l S' Y' X' z) {f : Fw} (h : f ∈ vis Y Y' X X' ((t.l.take z).drop a)) : (∃ i, i < t.l.length ∧ ith t.l i = f) ∧ Bx X X' Y Y' S S' f.x f.y f.s := by
  obtain ⟨hm, hin⟩ := List.mem_filter.1 h
  obtain ⟨i, hi, rfl⟩ := mem_ith hm
  rw [List.length_drop, List.length_take] at hi
  rw [ith_drop, ith_take (by omega)] at hin ⊢
  have h1 := ha.2.2 (a + i) (by omega) (by omega)
  have h2 := hz.2.1 (a + i) (by omega)
  refine ⟨⟨a + i, by omega, rfl⟩, ?_⟩
  unfold inR at hin
  simp only [Bool.and_eq_true, decide_eq_true_eq] at hin
  unfold bef at h1 h2
  unfold Bx
  omega
theorem vis_has (ha : Cut1 t.l S Y X a) (hz : Cut2 t.l S' Y' X' z) {i : Nat} (hi : i < t.l.length) (h : Bx X X' Y Y' S S' (ith t.l i).x (ith t.l i).y (ith t.l i).s) : ith t.l i ∈ vis Y Y' X X' ((t.l.take z).drop a) := by
  have h1 : a ≤ i := by
    by_cases k : a ≤ i
    · exact k
    · have := ha.2.1 i (by omega)
      unfold bef at this
      unfold Bx at h
      omega
  have h2 : i < z := by
    by_cases k : i < z
    · exact k
    · have := hz.2.2 i (by omega) hi
      unfold bef at this
      unfold Bx at h
      omega
  refine List.mem_filter.2 ⟨?_, ?_⟩
  · have e : ith ((t.l.take z).drop a) (i - a) = ith t.l i := by rw [ith_drop, ith_take (by omega), show a + (i - a) = i by omega]
    rw [← e]
    exact ith_mem (by rw [List.length_drop, List.length_take]; omega)
  · unfold inR Bx at *
    simp only [Bool.and_eq_true, decide_eq_true_eq]
    omega
theorem vis_cnt (ht : Tok t) (hY : Y ≤ Y') (hX : X ≤ X') (hS : S ≤ S') (ha : Cut1 t.l S Y X a) (hz : Cut2 t.l S' Y' X' z) :
    ((vis Y Y' X X' ((t.l.take z).drop a)).length : Int) ≤ cntB S Y X S' Y' X' ∧ (((vis Y Y' X X' ((t.l.take z).drop a)).length : Int) = cntB S Y X S' Y' X' ↔ ∀ x y s, Bx X X' Y Y' S S' x y s → ∃ i, i < t.l.length ∧ (ith t.l i).x = x ∧ (ith t.l i).y = y ∧ (ith t.l i).s = s) := by
  have hs : (vis Y Y' X X' ((t.l.take z).drop a)).Pairwise Bf := (up_pair ht.2.2.2.2.2.2.2).sublist (List.filter_sublist.trans ((List.drop_sublist _ _).trans (List.take_sublist _ _)))
  have hm := fun f hf => vis_mem (t := t) (S := S) (Y := Y) (X := X) (S' := S') (Y' := Y') (X' := X') (a := a) (z := z) ht ha hz (f := f) hf
  have hr : Ri ((vis Y Y' X X' ((t.l.take z).drop a)).map fun f => nr S Y X Y' X' f.s f.y f.x) := ri_pair (List.pairwise_map.2 (List.Pairwise.imp_of_mem (fun {f g} hf hg h => nr_lt (hm f hf).2 (hm g hg).2 h) hs))
  have hc : (0 : Int) ≤ cntB S Y X S' Y' X' := by
    have := (nr_in (S := S) (Y := Y) (X := X) (S' := S') (Y' := Y') (X' := X') (s := S) (y := Y) (x := X) (by unfold Bx; omega))
    omega
  obtain ⟨c1, c2⟩ := ri_count hr hc (fun v hv => by
    obtain ⟨f, hf, rfl⟩ := List.mem_map.1 hv
    exact nr_in (hm f hf).2)
  rw [List.length_map, Int.sub_zero] at c1 c2
  refine ⟨c1, c2.trans ⟨fun h x y s hb => ?_, fun h v v0 v1 => ?_⟩⟩
  · obtain ⟨p, q⟩ := nr_in hb
    obtain ⟨f, hf, e⟩ := List.mem_map.1 (h _ p q)
    obtain ⟨⟨i, hi, rfl⟩, hbf⟩ := hm f hf
    obtain ⟨e1, e2, e3⟩ := nr_inj hbf hb e
    exact ⟨i, hi, e3, e2, e1⟩
  · obtain ⟨s, y, x, hb, rfl⟩ := nr_of hY hX v0 v1
    obtain ⟨i, hi, rfl, rfl, rfl⟩ := h x y s hb
    exact List.mem_map.2 ⟨_, vis_has ha hz hi hb, rfl⟩
/-- What is ranged over is what holds somewhere. -/
theorem bl_hs (ht : Tok t) (hY : Y ≤ Y') (hX : X ≤ X') (hS : S ≤ S') (ha : Cut1 t.l S Y X a) (hz : Cut2 t.l S' Y' X' z) (c : Bd) : (∃ f, f ∈ bl t.r ((t.l.take z).drop a) S Y X S' Y' X' ∧ c = f.k) ↔ Hs t X X' Y Y' S S' c := by
  obtain ⟨c1, c2⟩ := vis_cnt ht hY hX hS ha hz
  unfold bl
  constructor
  · rintro ⟨f, hf, rfl⟩
    rcases List.mem_append.1 hf with hf | hf
    · obtain ⟨⟨i, hi, rfl⟩, hb⟩ := vis_mem ht ha hz hf
      exact ⟨_, _, _, hb, (hd_up ht.2.2.2.2.2.2.2 hi ⟨rfl, rfl, rfl⟩).symm⟩
    · by_cases hn : 0 < cntB S Y X S' Y' X' - ((vis Y Y' X X' ((t.l.take z).drop a)).length : Int)
      · rw [if_pos hn, List.mem_singleton] at hf
        subst hf
        have hno : ¬ ∀ x y s, Bx X X' Y Y' S S' x y s → ∃ i, i < t.l.length ∧ (ith t.l i).x = x ∧ (ith t.l i).y = y ∧ (ith t.l i).s = s := fun h => by
          have := c2.2 h
          omega
        refine Classical.byContradiction fun k => hno fun x y s hb => Classical.byContradiction fun g => k ⟨x, y, s, hb, ?_⟩
        exact (hd_none fun i hi e => g ⟨i, hi, e⟩).symm
      · rw [if_neg hn] at hf
        cases hf
  · rintro ⟨x, y, s, hb, rfl⟩
    by_cases h : ∃ i, i < t.l.length ∧ (ith t.l i).x = x ∧ (ith t.l i).y = y ∧ (ith t.l i).s = s
    · obtain ⟨i, hi, e⟩ := h
      have hv : Hd t x y s = (ith t.l i).k := hd_up ht.2.2.2.2.2.2.2 hi e
      obtain ⟨rfl, rfl, rfl⟩ := e
      exact ⟨_, List.mem_append.2 (Or.inl (vis_has ha hz hi hb)), hv⟩
    · have hv : Hd t x y s = t.r.k := hd_none fun i hi e => h ⟨i, hi, e⟩
      have hn : 0 < cntB S Y X S' Y' X' - ((vis Y Y' X X' ((t.l.take z).drop a)).length : Int) := by
        by_cases e : ((vis Y Y' X X' ((t.l.take z).drop a)).length : Int) = cntB S Y X S' Y' X'
        · exact absurd (c2.1 e x y s hb) h
        · omega
      exact ⟨t.r, List.mem_append.2 (Or.inr (by rw [if_pos hn]; simp)), hv⟩
end
/-! ### Joined bounds -/
def jb : List Fw → Bd
  | [] => f0.k
  | f :: r => r.foldl (fun k g => jn k g.k) f.k
theorem lst_fold : ∀ (r : List Fw) (P : Bd → Prop) (k : Bd), Lst P k → Lst (fun c => P c ∨ ∃ g, g ∈ r ∧ c = g.k) (r.foldl (fun k g => jn k g.k) k)
  | [], P, k, h => h.of_iff fun c => ⟨Or.inl, fun h => by
      rcases h with h | ⟨g, hg, _⟩
      · exact h
      · cases hg⟩
  | g :: r, P, k, h => (lst_fold r _ _ (h.add g.k)).of_iff fun c => by
      simp only [List.mem_cons]
      constructor
      · rintro ((h | h) | ⟨f, hf, h⟩)
        · exact Or.inl h
        · exact Or.inr ⟨g, Or.inl rfl, h⟩
        · exact Or.inr ⟨f, Or.inr hf, h⟩
      · rintro (h | ⟨f, rfl | hf, h⟩)
        · exact Or.inl (Or.inl h)
        · exact Or.inl (Or.inr h)
        · exact Or.inr ⟨f, hf, h⟩
theorem lst_jb {l : List Fw} (h : l ≠ []) : Lst (fun c => ∃ g, g ∈ l ∧ c = g.k) (jb l) := by
  cases l with
  | nil => exact absurd rfl h
  | cons f r =>
    clear h
    refine (lst_fold r _ _ (Lst.one f.k)).of_iff fun c => ?_
    simp only [List.mem_cons]
    constructor
    · rintro (h | ⟨g, hg, h⟩)
      · exact ⟨f, Or.inl rfl, h⟩
      · exact ⟨g, Or.inr hg, h⟩
    · rintro ⟨g, rfl | hg, h⟩
      · exact Or.inl h
      · exact Or.inr ⟨g, hg, h⟩
def pU (f : Fw) : Int × Int := (f.k.a, f.k.b)
def pV (f : Fw) : Int × Int := (f.k.c, f.k.d)
def pH (f : Fw) : Int × Int := (f.k.e, f.k.f)
theorem pU_ok (f : Fw) : Sok (pU (fit f)) := by have := (fit_bok f).1; unfold Sok pU; exact this
theorem pV_ok (f : Fw) : Sok (pV (fit f)) := by have := (fit_bok f).2.1; unfold Sok pV; exact this
theorem pH_ok (f : Fw) : Sok (pH (fit f)) := by have := (fit_bok f).2.2; unfold Sok pH; simp only; omega
theorem sj_jb {l : List Fw} (h : ∀ f, f ∈ l → Bok f.k) (hn : l ≠ []) : sj pU l = ((jb l).a, (jb l).b) ∧ sj pV l = ((jb l).c, (jb l).d) ∧ sj pH l = ((jb l).e, (jb l).f) := by
  cases l with
  | nil => exact absurd rfl hn
  | cons f r =>
    have key : ∀ (p : Fw → Int × Int) (q : Bd → Int × Int), (∀ f, p f = q f.k) → (∀ k m, q (jn k m) = js (q k) (q m)) → ∀ (r : List Fw) (k : Bd), (∀ f, f ∈ r → Bok f.k) → r.foldl (fun s g => js s (p (fit g))) (q k) = q (r.foldl (fun k g => jn k g.k) k) := by
      intro p q hp hq r
      induction r with
      | nil => intro k _; rfl
      | cons g r ih =>
        intro k hk
        rw [List.foldl_cons, List.foldl_cons, fit_is (hk g (by simp)), hp, ← hq]
        exact ih _ (fun f hf => hk f (by simp [hf]))
    have hf := fit_is (h f (by simp))
    have hr : ∀ g, g ∈ r → Bok g.k := fun g hg => h g (by simp [hg])
    refine ⟨?_, ?_, ?_⟩
    · show r.foldl (fun s g => js s (pU (fit g))) (pU (fit f)) = _
      rw [hf]
      exact key pU (fun k => (k.a, k.b)) (fun _ => rfl) (fun _ _ => rfl) r f.k hr
    · show r.foldl (fun s g => js s (pV (fit g))) (pV (fit f)) = _
      rw [hf]
      exact key pV (fun k => (k.c, k.d)) (fun _ => rfl) (fun _ _ => rfl) r f.k hr
    · show r.foldl (fun s g => js s (pH (fit g))) (pH (fit f)) = _
      rw [hf]
      exact key pH (fun k => (k.e, k.f)) (fun _ => rfl) (fun _ _ => rfl) r f.k hr
theorem bl_ov {t : Ed} {S Y X S' Y' X' : Int} {a z : Nat} (ht : Tok t) (hY : Y ≤ Y') (hX : X ≤ X') (hS : S ≤ S') (ha : Cut1 t.l S Y X a) (hz : Cut2 t.l S' Y' X' z) :
    sj pU (bl t.r ((t.l.take z).drop a) S Y X S' Y' X') = ((Ov t X X' Y Y' S S').a, (Ov t X X' Y Y' S S').b) ∧ sj pV (bl t.r ((t.l.take z).drop a) S Y X S' Y' X') = ((Ov t X X' Y Y' S S').c, (Ov t X X' Y Y' S S').d) ∧ sj pH (bl t.r ((t.l.take z).drop a) S Y X S' Y' X') = ((Ov t X X' Y Y' S S').e, (Ov t X X' Y Y' S S').f) := by
  have hb := bl_hs ht hY hX hS ha hz
  have hn : bl t.r ((t.l.take z).drop a) S Y X S' Y' X' ≠ [] := fun e => by
    obtain ⟨f, hf, _⟩ := (hb (Hd t X Y S)).2 ⟨X, Y, S, by unfold Bx; omega, rfl⟩
    rw [e] at hf
    cases hf
  have hk : ∀ f, f ∈ bl t.r ((t.l.take z).drop a) S Y X S' Y' X' → Bok f.k := fun f hf => by
    obtain ⟨x, y, s, _, e⟩ := (hb f.k).1 ⟨f, hf, rfl⟩
    rw [e]
    exact Hd_bok ht x y s
  rw [Ov_is ((lst_jb hn).of_iff hb)]
  exact sj_jb hk hn
end Td
end Go.Proofs.YtpiajdahmcelnaaGreat
