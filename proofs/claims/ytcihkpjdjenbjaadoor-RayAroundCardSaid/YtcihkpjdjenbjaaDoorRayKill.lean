/-
  Plain: what is no corner of a hull, and how many corners there are at most.
-/
import Derived.Test.YtcihkpjdjenbjaaDoorRayDir
namespace Go.Proofs.YtcihkpjdjenbjaaDoor
namespace Ry
open Hl

theorem af_comb (u v k a b c : Int) (x A B C : Pt) (hx : a * (A.1 - x.1) + b * (B.1 - x.1) + c * (C.1 - x.1) = 0) (hy : a * (A.2 - x.2) + b * (B.2 - x.2) + c * (C.2 - x.2) = 0) :
    a * af u v k A + b * af u v k B + c * af u v k C = (a + b + c) * af u v k x := by
  unfold af
  have e1 : u * (a * (A.1 - x.1) + b * (B.1 - x.1) + c * (C.1 - x.1)) = 0 := by rw [hx, Int.mul_zero]
  have e2 : v * (a * (A.2 - x.2) + b * (B.2 - x.2) + c * (C.2 - x.2)) = 0 := by rw [hy, Int.mul_zero]
  grind
theorem zero_of {a f : Int} (ha : 0 < a) (h : a * f = 0) : f = 0 := by
  rcases Int.mul_eq_zero.1 h with e | e
  · omega
  · exact e
theorem zeros {p q r : Int} (hp : 0 ≤ p) (hq : 0 ≤ q) (hr : 0 ≤ r) (h : p + q + r = 0) : p = 0 ∧ q = 0 ∧ r = 0 := by omega
/-- A corner of a hull is between other places of it only if these are the corner. -/
theorem kill {l q : List Pt} (h : IsHull l q) (h3 : 3 ≤ q.length) {x A B C : Pt} (hx : x ∈ q) (hA : A ∈ l) (hB : B ∈ l) (hC : C ∈ l) {a b c : Int} (ha : 0 ≤ a) (hb : 0 ≤ b) (hc : 0 ≤ c)
    (ex : a * (A.1 - x.1) + b * (B.1 - x.1) + c * (C.1 - x.1) = 0) (ey : a * (A.2 - x.2) + b * (B.2 - x.2) + c * (C.2 - x.2) = 0) : (0 < a → A = x) ∧ (0 < b → B = x) ∧ (0 < c → C = x) := by
  obtain ⟨i, hi, rfl⟩ := mem_at hx
  have hP := h.1.2.2 (by omega)
  have ins : ∀ y, y ∈ l → Ins q.length (at' q) y := fun y hy => by
    have := h.2.2 y hy
    unfold Hs at this
    rwa [if_neg (by omega), if_neg (by omega)] at this
  have f : ∀ y, y ∈ l → 0 ≤ cr (at' q (pv q.length i)) (at' q i) y := fun y hy => ins_pv (ins y hy) hi
  have g : ∀ y, y ∈ l → 0 ≤ cr (at' q i) (at' q ((i + 1) % q.length)) y := fun y hy => ins y hy i hi
  have z1 : a * cr (at' q (pv q.length i)) (at' q i) A + b * cr (at' q (pv q.length i)) (at' q i) B + c * cr (at' q (pv q.length i)) (at' q i) C = 0 := by
    rw [cr_af, cr_af, cr_af, af_comb _ _ _ a b c (at' q i) A B C ex ey, ← cr_af, cr_self', Int.mul_zero]
  have z2 : a * cr (at' q i) (at' q ((i + 1) % q.length)) A + b * cr (at' q i) (at' q ((i + 1) % q.length)) B + c * cr (at' q i) (at' q ((i + 1) % q.length)) C = 0 := by
    rw [cr_af, cr_af, cr_af, af_comb _ _ _ a b c (at' q i) A B C ex ey, ← cr_af, cr_self, Int.mul_zero]
  obtain ⟨a1, b1, c1⟩ := zeros (Int.mul_nonneg ha (f A hA)) (Int.mul_nonneg hb (f B hB)) (Int.mul_nonneg hc (f C hC)) z1
  obtain ⟨a2, b2, c2⟩ := zeros (Int.mul_nonneg ha (g A hA)) (Int.mul_nonneg hb (g B hB)) (Int.mul_nonneg hc (g C hC)) z2
  have t := turn hP h3 hi
  exact ⟨fun p => only_corner t (zero_of p a1) (zero_of p a2), fun p => only_corner t (zero_of p b1) (zero_of p b2), fun p => only_corner t (zero_of p c1) (zero_of p c2)⟩
theorem tn_comb (m : Nat) : ∀ (a b c : Int) (x A B C : Pt), a * (A.1 - x.1) + b * (B.1 - x.1) + c * (C.1 - x.1) = 0 → a * (A.2 - x.2) + b * (B.2 - x.2) + c * (C.2 - x.2) = 0 →
    a * ((tn m A).1 - (tn m x).1) + b * ((tn m B).1 - (tn m x).1) + c * ((tn m C).1 - (tn m x).1) = 0 ∧ a * ((tn m A).2 - (tn m x).2) + b * ((tn m B).2 - (tn m x).2) + c * ((tn m C).2 - (tn m x).2) = 0 := by
  induction m with
  | zero => exact fun a b c x A B C h1 h2 => ⟨h1, h2⟩
  | succ m ih =>
    intro a b c x A B C h1 h2
    obtain ⟨i1, i2⟩ := ih a b c x A B C h1 h2
    refine ⟨?_, i1⟩
    show a * (-(tn m A).2 - -(tn m x).2) + b * (-(tn m B).2 - -(tn m x).2) + c * (-(tn m C).2 - -(tn m x).2) = 0
    rw [show -(tn m A).2 - -(tn m x).2 = -((tn m A).2 - (tn m x).2) by omega, show -(tn m B).2 - -(tn m x).2 = -((tn m B).2 - (tn m x).2) by omega, show -(tn m C).2 - -(tn m x).2 = -((tn m C).2 - (tn m x).2) by omega, Int.mul_neg, Int.mul_neg, Int.mul_neg]
    omega
theorem lf_inj {x y : Pt} (h : lf x = lf y) : x = y := by
  unfold lf at h
  have h1 := congrArg Prod.fst h
  have h2 := congrArg Prod.snd h
  simp only at h1 h2
  exact Prod.ext h2 (by omega)
theorem tn_inj (m : Nat) : ∀ {x y : Pt}, tn m x = tn m y → x = y := by
  induction m with
  | zero => exact fun h => h
  | succ m ih => exact fun h => ih (lf_inj h)
/-- The same, of places that are turned. -/
theorem kill_tn {l q : List Pt} (h : IsHull l q) (h3 : 3 ≤ q.length) (m : Nat) {x A B C : Pt} (hx : tn m x ∈ q) (hA : tn m A ∈ l) (hB : tn m B ∈ l) (hC : tn m C ∈ l) {a b c : Int} (ha : 0 ≤ a) (hb : 0 ≤ b) (hc : 0 ≤ c)
    (ex : a * (A.1 - x.1) + b * (B.1 - x.1) + c * (C.1 - x.1) = 0) (ey : a * (A.2 - x.2) + b * (B.2 - x.2) + c * (C.2 - x.2) = 0) : (0 < a → A = x) ∧ (0 < b → B = x) ∧ (0 < c → C = x) := by
  obtain ⟨e1, e2⟩ := tn_comb m a b c x A B C ex ey
  obtain ⟨k1, k2, k3⟩ := kill h h3 hx hA hB hC ha hb hc e1 e2
  exact ⟨fun p => tn_inj m (k1 p), fun p => tn_inj m (k2 p), fun p => tn_inj m (k3 p)⟩

/-! ### Counting -/
theorem corners_ne {n : Nat} {P : Nat → Pt} (h : Cvx n P) (hn : 3 ≤ n) {i k : Nat} (hi : i < n) (hk : k < n) (hik : k ≠ i) : P k ≠ P i := fun e => by
  by_cases e1 : k = (i + 1) % n
  · have := turn h hn hi
    rw [← e1, e, cr_self'] at this
    omega
  · have := h i k hi hk hik e1
    rw [e, cr_self] at this
    omega
theorem nodup_of : ∀ (q : List Pt), (∀ i k, i < q.length → k < q.length → k ≠ i → at' q k ≠ at' q i) → q.Nodup
  | [], _ => List.nodup_nil
  | x :: q, h => by
    refine List.nodup_cons.2 ⟨fun hx => ?_, nodup_of q fun i k hi hk hik => ?_⟩
    · obtain ⟨i, hi, e⟩ := mem_at hx
      exact h 0 (i + 1) (Nat.succ_pos _) (Nat.succ_lt_succ hi) (Nat.succ_ne_zero i) e
    · exact h (i + 1) (k + 1) (Nat.succ_lt_succ hi) (Nat.succ_lt_succ hk) (fun e => hik (Nat.succ.inj e))
theorem len_sub : ∀ (q S : List Pt), q.Nodup → (∀ x, x ∈ q → x ∈ S) → q.length ≤ S.length
  | [], _, _, _ => Nat.zero_le _
  | x :: q, S, hq, hs => by
    obtain ⟨hx, hq'⟩ := List.nodup_cons.1 hq
    have hm := hs x List.mem_cons_self
    have := len_sub q (S.erase x) hq' fun y hy => by
      have hne : y ≠ x := fun e => hx (by rw [← e]; exact hy)
      rw [List.mem_erase_of_ne hne]
      exact hs y (List.mem_cons_of_mem _ hy)
    rw [List.length_erase_of_mem hm] at this
    have := List.length_pos_of_mem hm
    rw [List.length_cons]
    omega
theorem hull_sub {l q S : List Pt} (h : IsHull l q) (h3 : 3 ≤ q.length) (hs : ∀ x, x ∈ q → x ∈ S) : q.length ≤ S.length :=
  len_sub q S (nodup_of q fun _ _ hi hk hik => corners_ne (h.1.2.2 (by omega)) h3 hi hk hik) hs

/-! ### Few columns -/
theorem column (l : List Pt) (X : Int) : ∃ m M : Int, ∀ y, y ∈ l → y.1 = X → (m ≤ y.2 ∧ y.2 ≤ M) ∧ (X, m) ∈ l ∧ (X, M) ∈ l := by
  induction l with
  | nil => exact ⟨0, 0, fun y hy => by cases hy⟩
  | cons z l ih =>
    obtain ⟨m, M, h⟩ := ih
    by_cases hz : z.1 = X
    · by_cases hy : ∃ y, y ∈ l ∧ y.1 = X
      · obtain ⟨y, y1, y2⟩ := hy
        obtain ⟨h1, h2, h3⟩ := h y y1 y2
        refine ⟨min m z.2, max M z.2, fun w hw hX => ?_⟩
        have hw' : m ≤ w.2 ∧ w.2 ≤ M ∨ w = z := by
          rcases List.mem_cons.1 hw with e | e
          · exact Or.inr e
          · exact Or.inl (h w e hX).1
        refine ⟨⟨?_, ?_⟩, ?_, ?_⟩
        · rcases hw' with e | e
          · omega
          · rw [e]; omega
        · rcases hw' with e | e
          · omega
          · rw [e]; omega
        · by_cases hmz : m ≤ z.2
          · rw [Int.min_eq_left hmz]; exact List.mem_cons_of_mem _ h2
          · rw [Int.min_eq_right (by omega)]; exact List.mem_cons.2 (Or.inl (Prod.ext hz.symm rfl))
        · by_cases hmz : M ≤ z.2
          · rw [Int.max_eq_right hmz]; exact List.mem_cons.2 (Or.inl (Prod.ext hz.symm rfl))
          · rw [Int.max_eq_left (by omega)]; exact List.mem_cons_of_mem _ h3
      · refine ⟨z.2, z.2, fun w hw hX => ?_⟩
        rcases List.mem_cons.1 hw with e | e
        · subst e
          have : (X, w.2) = w := Prod.ext hz.symm rfl
          rw [this]
          exact ⟨⟨Int.le_refl _, Int.le_refl _⟩, List.mem_cons_self, List.mem_cons_self⟩
        · exact absurd ⟨w, e, hX⟩ hy
    · refine ⟨m, M, fun w hw hX => ?_⟩
      rcases List.mem_cons.1 hw with e | e
      · exact absurd (e ▸ hX) hz
      · obtain ⟨h1, h2, h3⟩ := h w e hX
        exact ⟨h1, List.mem_cons_of_mem _ h2, List.mem_cons_of_mem _ h3⟩
/-- A hull of places in few columns has at most two corners in each. -/
theorem columns {l q : List Pt} (h : IsHull l q) (h3 : 3 ≤ q.length) (r : Nat) (hr : ∀ x, x ∈ l → -(r : Int) ≤ x.1 ∧ x.1 ≤ r) : q.length ≤ 2 * (2 * r + 1) := by
  have cm : ∃ f : Int → Int × Int, ∀ X y, y ∈ l → y.1 = X → ((f X).1 ≤ y.2 ∧ y.2 ≤ (f X).2) ∧ (X, (f X).1) ∈ l ∧ (X, (f X).2) ∈ l := by
    refine ⟨fun X => (Classical.choose (column l X), Classical.choose (Classical.choose_spec (column l X))), fun X => ?_⟩
    exact Classical.choose_spec (Classical.choose_spec (column l X))
  obtain ⟨f, hf⟩ := cm
  have hs : q.length ≤ ((List.range (2 * r + 1)).flatMap fun (i : Nat) => [((i : Int) - r, (f ((i : Int) - r)).1), ((i : Int) - r, (f ((i : Int) - r)).2)]).length := by
    refine hull_sub h h3 fun x hx => ?_
    have hl := h.2.1 x hx
    obtain ⟨⟨b1, b2⟩, m1, m2⟩ := hf x.1 x hl rfl
    have hR := hr x hl
    refine List.mem_flatMap.2 ⟨(x.1 + r).toNat, List.mem_range.2 (by omega), ?_⟩
    have e : (((x.1 + r).toNat : Nat) : Int) - r = x.1 := by omega
    rw [e]
    obtain ⟨k1, k2, _⟩ := kill h h3 (x := x) (A := (x.1, (f x.1).1)) (B := (x.1, (f x.1).2)) (C := x) (a := (f x.1).2 - x.2) (b := x.2 - (f x.1).1) (c := 0) hx m1 m2 hl (by omega) (by omega) (Int.le_refl _) (by simp) (by simp only; grind)
    by_cases e1 : (f x.1).2 = x.2
    · refine List.mem_cons_of_mem _ (List.mem_cons.2 (Or.inl ?_))
      rw [e1]
    · refine List.mem_cons.2 (Or.inl (k1 ?_).symm)
      omega
  rw [List.length_flatMap] at hs
  have e : (List.map (fun (i : Nat) => ([((i : Int) - (r : Int), (f ((i : Int) - r)).1), ((i : Int) - r, (f ((i : Int) - r)).2)] : List Pt).length) (List.range (2 * r + 1))).sum = 2 * (2 * r + 1) := by
    have : (fun (i : Nat) => ([((i : Int) - (r : Int), (f ((i : Int) - r)).1), ((i : Int) - r, (f ((i : Int) - r)).2)] : List Pt).length) = fun _ => 2 := rfl
    rw [this]
    generalize 2 * r + 1 = N
    induction N with
    | zero => rfl
    | succ N ih => rw [List.range_succ, List.map_append, List.sum_append, ih]; simp; omega
  omega
end Ry
end Go.Proofs.YtcihkpjdjenbjaaDoor
