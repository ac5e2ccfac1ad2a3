/-
  Currents and tides without a program: flows, what holds, least bounds, how many blocks have no flow.
-/
import Derived.WalkKit
namespace Go.Proofs.YtpiajdahmcelnaaGreat
namespace Td
/-- Six bounds. -/
structure Bd where
  a : Int
  b : Int
  c : Int
  d : Int
  e : Int
  f : Int
  deriving DecidableEq
/-- A flow. -/
structure Fw where
  x : Int
  y : Int
  s : Int
  k : Bd
  deriving DecidableEq
/-- An edition. -/
structure Ed where
  v : Int
  z : Int
  n : Int
  r : Fw
  l : List Fw
def Bok (k : Bd) : Prop := (-5000 ≤ k.a ∧ k.a ≤ k.b ∧ k.b ≤ 5000) ∧ (-5000 ≤ k.c ∧ k.c ≤ k.d ∧ k.d ≤ 5000) ∧ (-2000 ≤ k.e ∧ k.e ≤ k.f ∧ k.f ≤ 2000)
instance (k : Bd) : Decidable (Bok k) := by unfold Bok; infer_instance
def Fok (n : Int) (f : Fw) : Prop := Bok f.k ∧ (-50 ≤ f.x ∧ f.x ≤ 50) ∧ (-50 ≤ f.y ∧ f.y ≤ 50) ∧ (0 ≤ f.s ∧ f.s ≤ n - 1)
instance (n : Int) (f : Fw) : Decidable (Fok n f) := by unfold Fok; infer_instance
/-- Before. -/
def bef (s y x s' y' x' : Int) : Prop := s < s' ∨ (s = s' ∧ (y < y' ∨ (y = y' ∧ x < x')))
instance (s y x s' y' x' : Int) : Decidable (bef s y x s' y' x') := by unfold bef; infer_instance
def Bf (f g : Fw) : Prop := bef f.s f.y f.x g.s g.y g.x
instance (f g : Fw) : Decidable (Bf f g) := by unfold Bf; infer_instance
def f0 : Fw := ⟨0, 0, 0, ⟨0, 0, 0, 0, 0, 0⟩⟩
def ith (l : List Fw) (i : Nat) : Fw := l.getD i f0
theorem ith_mem {l : List Fw} {i : Nat} (h : i < l.length) : ith l i ∈ l := by
  unfold ith
  rw [List.getD_eq_getElem?_getD, List.getElem?_eq_getElem h]
  exact List.getElem_mem h
theorem mem_ith {l : List Fw} {f : Fw} (h : f ∈ l) : ∃ i, i < l.length ∧ ith l i = f := by
  obtain ⟨i, hi, e⟩ := List.getElem_of_mem h
  refine ⟨i, hi, ?_⟩
  unfold ith
  rw [List.getD_eq_getElem?_getD, List.getElem?_eq_getElem hi]
  exact e
theorem ith_get {l : List Fw} {i : Nat} (h : i < l.length) : l[i]? = some (ith l i) := by
  unfold ith
  rw [List.getD_eq_getElem?_getD, List.getElem?_eq_getElem h]
  rfl
theorem ith_drop (l : List Fw) (k i : Nat) : ith (l.drop k) i = ith l (k + i) := by
  unfold ith
  rw [List.getD_eq_getElem?_getD, List.getD_eq_getElem?_getD, List.getElem?_drop]
theorem ith_take {l : List Fw} {k i : Nat} (h : i < k) : ith (l.take k) i = ith l i := by
  unfold ith
  rw [List.getD_eq_getElem?_getD, List.getD_eq_getElem?_getD, List.getElem?_take, if_pos h]
/-- Flows that rise. -/
def Up (l : List Fw) : Prop := ∀ i, i + 1 < l.length → Bf (ith l i) (ith l (i + 1))
theorem bef_trans {a b c d e f g h i : Int} (p : bef a b c d e f) (q : bef d e f g h i) : bef a b c g h i := by
  unfold bef at *
  omega
theorem bef_irr {a b c : Int} : ¬ bef a b c a b c := by
  unfold bef
  omega
theorem Up.lt {l : List Fw} (h : Up l) {i j : Nat} (hij : i < j) (hj : j < l.length) : Bf (ith l i) (ith l j) := by
  obtain ⟨d, rfl⟩ : ∃ d, j = i + 1 + d := ⟨j - (i + 1), by omega⟩
  clear hij
  induction d with
  | zero => exact h i (by omega)
  | succ d ih => exact bef_trans (ih (by omega)) (h (i + 1 + d) (by omega))
theorem Up.inj {l : List Fw} (h : Up l) {i j : Nat} (hi : i < l.length) (hj : j < l.length) (e1 : (ith l i).x = (ith l j).x) (e2 : (ith l i).y = (ith l j).y) (e3 : (ith l i).s = (ith l j).s) : i = j := by
  by_cases hij : i < j
  · have := h.lt hij hj
    unfold Bf at this
    rw [e1, e2, e3] at this
    exact absurd this bef_irr
  · by_cases hji : j < i
    · have := h.lt hji hi
      unfold Bf at this
      rw [e1, e2, e3] at this
      exact absurd this bef_irr
    · omega
def Flok (n : Int) (l : List Fw) : Prop := (∀ i, i < l.length → Fok n (ith l i)) ∧ Up l
/-- An edition is well-formed. -/
def Tok (t : Ed) : Prop := (1 ≤ t.v ∧ t.v ≤ 1000000) ∧ (0 ≤ t.z ∧ t.z ≤ 1000000000) ∧ (0 ≤ t.n ∧ t.n ≤ 1000) ∧ Bok t.r.k ∧ (t.r.s = 0 ∧ t.r.y = 0 ∧ t.r.x = 0) ∧ t.l.length ≤ 4000 ∧ Flok t.n t.l
/-- What holds in a block and a slot. -/
def hit (x y s : Int) (f : Fw) : Bool := decide (f.x = x ∧ f.y = y ∧ f.s = s)
def fnd (x y s : Int) (l : List Fw) : Option Fw := l.find? (hit x y s)
def hd (r : Bd) (l : List Fw) (x y s : Int) : Bd := ((fnd x y s l).map (·.k)).getD r
def Hd (t : Ed) (x y s : Int) : Bd := hd t.r.k t.l x y s
theorem hd_none {r : Bd} {l : List Fw} {x y s : Int} (h : ∀ i, i < l.length → ¬ ((ith l i).x = x ∧ (ith l i).y = y ∧ (ith l i).s = s)) : hd r l x y s = r := by
  have e : fnd x y s l = none := List.find?_eq_none.2 fun f hf => by
    obtain ⟨i, hi, rfl⟩ := mem_ith hf
    unfold hit
    rw [decide_eq_true_eq]
    exact h i hi
  unfold hd
  rw [e]
  rfl
theorem hd_at {r : Bd} {l : List Fw} {x y s : Int} {i : Nat} (hi : i < l.length) (h : (ith l i).x = x ∧ (ith l i).y = y ∧ (ith l i).s = s) (h0 : ∀ j, j < i → ¬ ((ith l j).x = x ∧ (ith l j).y = y ∧ (ith l j).s = s)) : hd r l x y s = (ith l i).k := by
  have e : fnd x y s l = some (ith l i) := by
    unfold fnd
    rw [List.find?_eq_some_iff_getElem]
    refine ⟨by unfold hit; rw [decide_eq_true_eq]; exact h, i, hi, ?_, fun j hj => ?_⟩
    · have := ith_get hi
      rw [List.getElem?_eq_getElem hi] at this
      exact Option.some.inj this
    · have hj' : j < l.length := by omega
      have := ith_get hj'
      rw [List.getElem?_eq_getElem hj'] at this
      rw [Option.some.inj this]
      unfold hit
      simp only [Bool.not_eq_true', decide_eq_false_iff_not]
      exact h0 j hj
  unfold hd
  rw [e]
  rfl
theorem hd_up {r : Bd} {l : List Fw} (hu : Up l) {x y s : Int} {i : Nat} (hi : i < l.length) (h : (ith l i).x = x ∧ (ith l i).y = y ∧ (ith l i).s = s) : hd r l x y s = (ith l i).k :=
  hd_at hi h fun j hj ⟨e1, e2, e3⟩ => by
    obtain ⟨h1, h2, h3⟩ := h
    exact absurd (hu.inj (by omega) hi (e1.trans h1.symm) (e2.trans h2.symm) (e3.trans h3.symm)) (by omega)
/-! ### Least bounds -/
def Wi (c k : Bd) : Prop := (k.a ≤ c.a ∧ c.b ≤ k.b) ∧ (k.c ≤ c.c ∧ c.d ≤ k.d) ∧ (k.e ≤ c.e ∧ c.f ≤ k.f)
instance (c k : Bd) : Decidable (Wi c k) := by unfold Wi; infer_instance
structure Lst (P : Bd → Prop) (k : Bd) : Prop where
  all : ∀ c, P c → Wi c k
  ha : ∃ c, P c ∧ c.a = k.a
  hb : ∃ c, P c ∧ c.b = k.b
  hc : ∃ c, P c ∧ c.c = k.c
  hd : ∃ c, P c ∧ c.d = k.d
  he : ∃ c, P c ∧ c.e = k.e
  hf : ∃ c, P c ∧ c.f = k.f
def jn (k c : Bd) : Bd := ⟨min k.a c.a, max k.b c.b, min k.c c.c, max k.d c.d, min k.e c.e, max k.f c.f⟩
theorem Lst.one (d : Bd) : Lst (fun c => c = d) d := ⟨fun c e => by rw [e]; unfold Wi; omega, ⟨d, rfl, rfl⟩, ⟨d, rfl, rfl⟩, ⟨d, rfl, rfl⟩, ⟨d, rfl, rfl⟩, ⟨d, rfl, rfl⟩, ⟨d, rfl, rfl⟩⟩
theorem Lst.of_iff {P Q : Bd → Prop} {k : Bd} (h : Lst P k) (e : ∀ c, P c ↔ Q c) : Lst Q k := by
  have : P = Q := funext fun c => propext (e c)
  rwa [← this]
theorem pick_min {P Q : Bd → Prop} {g : Bd → Int} {m n : Int} (h : ∃ c, P c ∧ g c = m) (k : ∃ c, Q c ∧ g c = n) : ∃ c, (P c ∨ Q c) ∧ g c = min m n := by
  obtain ⟨c, hc, e⟩ := h
  obtain ⟨d, hd, e'⟩ := k
  by_cases l : m ≤ n
  · exact ⟨c, Or.inl hc, by omega⟩
  · exact ⟨d, Or.inr hd, by omega⟩
theorem pick_max {P Q : Bd → Prop} {g : Bd → Int} {m n : Int} (h : ∃ c, P c ∧ g c = m) (k : ∃ c, Q c ∧ g c = n) : ∃ c, (P c ∨ Q c) ∧ g c = max m n := by
  obtain ⟨c, hc, e⟩ := h
  obtain ⟨d, hd, e'⟩ := k
  by_cases l : m ≤ n
  · exact ⟨d, Or.inr hd, by omega⟩
  · exact ⟨c, Or.inl hc, by omega⟩
theorem Lst.or {P Q : Bd → Prop} {k m : Bd} (h : Lst P k) (g : Lst Q m) : Lst (fun c => P c ∨ Q c) (jn k m) := by
  refine ⟨fun c hc => ?_, pick_min h.ha g.ha, pick_max h.hb g.hb, pick_min h.hc g.hc, pick_max h.hd g.hd, pick_min h.he g.he, pick_max h.hf g.hf⟩
  have : Wi c k ∨ Wi c m := hc.imp (h.all c) (g.all c)
  unfold Wi at *
  simp only [jn]
  omega
theorem Lst.add {P : Bd → Prop} {k : Bd} (h : Lst P k) (d : Bd) : Lst (fun c => P c ∨ c = d) (jn k d) := h.or (Lst.one d)
theorem Lst.unique {P : Bd → Prop} {k m : Bd} (h : Lst P k) (g : Lst P m) : k = m := by
  have one : ∀ {k m : Bd}, Lst P k → Lst P m → Wi k m := by
    intro k m h g
    obtain ⟨c1, p1, e1⟩ := h.ha
    obtain ⟨c2, p2, e2⟩ := h.hb
    obtain ⟨c3, p3, e3⟩ := h.hc
    obtain ⟨c4, p4, e4⟩ := h.hd
    obtain ⟨c5, p5, e5⟩ := h.he
    obtain ⟨c6, p6, e6⟩ := h.hf
    have w1 := g.all _ p1
    have w2 := g.all _ p2
    have w3 := g.all _ p3
    have w4 := g.all _ p4
    have w5 := g.all _ p5
    have w6 := g.all _ p6
    unfold Wi at *
    omega
  have p := one h g
  have q := one g h
  unfold Wi at p q
  rcases k with ⟨k1, k2, k3, k4, k5, k6⟩
  rcases m with ⟨m1, m2, m3, m4, m5, m6⟩
  simp only at p q
  obtain rfl : k1 = m1 := by omega
  obtain rfl : k2 = m2 := by omega
  obtain rfl : k3 = m3 := by omega
  obtain rfl : k4 = m4 := by omega
  obtain rfl : k5 = m5 := by omega
  obtain rfl : k6 = m6 := by omega
  rfl
theorem Lst.bok {P : Bd → Prop} {k : Bd} (h : Lst P k) (g : ∀ c, P c → Bok c) : Bok k := by
  obtain ⟨c1, p1, e1⟩ := h.ha
  obtain ⟨c2, p2, e2⟩ := h.hb
  obtain ⟨c3, p3, e3⟩ := h.hc
  obtain ⟨c4, p4, e4⟩ := h.hd
  obtain ⟨c5, p5, e5⟩ := h.he
  obtain ⟨c6, p6, e6⟩ := h.hf
  have v1 := h.all _ p1
  have v3 := h.all _ p3
  have v5 := h.all _ p5
  have w1 := g _ p1
  have w2 := g _ p2
  have w3 := g _ p3
  have w4 := g _ p4
  have w5 := g _ p5
  have w6 := g _ p6
  unfold Bok Wi at *
  omega
theorem Lst.many {P : Nat → Bd → Prop} (h : ∀ i, ∃ k, Lst (P i) k) (n : Nat) : ∃ k, Lst (fun c => ∃ i, i ≤ n ∧ P i c) k := by
  induction n with
  | zero =>
    obtain ⟨k, hk⟩ := h 0
    exact ⟨k, hk.of_iff fun c => ⟨fun p => ⟨0, Nat.le_refl _, p⟩, fun ⟨i, hi, p⟩ => by (obtain rfl : i = 0 := by omega); exact p⟩⟩
  | succ n ih =>
    obtain ⟨k, hk⟩ := ih
    obtain ⟨m, hm⟩ := h (n + 1)
    refine ⟨jn k m, (hk.or hm).of_iff fun c => ⟨fun p => ?_, fun ⟨i, hi, p⟩ => ?_⟩⟩
    · rcases p with ⟨i, hi, p⟩ | p
      · exact ⟨i, by omega, p⟩
      · exact ⟨n + 1, Nat.le_refl _, p⟩
    · by_cases e : i = n + 1
      · subst e; exact Or.inr p
      · exact Or.inl ⟨i, by omega, p⟩
/-! ### The bounds for a rectangle and some time -/
def Bx (x0 x1 y0 y1 s0 s1 x y s : Int) : Prop := (x0 ≤ x ∧ x ≤ x1) ∧ (y0 ≤ y ∧ y ≤ y1) ∧ (s0 ≤ s ∧ s ≤ s1)
def Hs (t : Ed) (x0 x1 y0 y1 s0 s1 : Int) (c : Bd) : Prop := ∃ x y s, Bx x0 x1 y0 y1 s0 s1 x y s ∧ c = Hd t x y s
theorem hs_some (t : Ed) {x0 x1 y0 y1 s0 s1 : Int} (hx : x0 ≤ x1) (hy : y0 ≤ y1) (hs : s0 ≤ s1) : ∃ k, Lst (Hs t x0 x1 y0 y1 s0 s1) k := by
  obtain ⟨k, hk⟩ := Lst.many (P := fun i c => ∃ j, j ≤ (y1 - y0).toNat ∧ ∃ m, m ≤ (s1 - s0).toNat ∧ c = Hd t (x0 + (i : Nat)) (y0 + (j : Nat)) (s0 + (m : Nat)))
    (fun i => Lst.many (P := fun j c => ∃ m, m ≤ (s1 - s0).toNat ∧ c = Hd t (x0 + (i : Nat)) (y0 + (j : Nat)) (s0 + (m : Nat)))
      (fun j => Lst.many (P := fun m c => c = Hd t (x0 + (i : Nat)) (y0 + (j : Nat)) (s0 + (m : Nat))) (fun m => ⟨_, Lst.one _⟩) _) _) (x1 - x0).toNat
  refine ⟨k, hk.of_iff fun c => ⟨?_, ?_⟩⟩
  · rintro ⟨i, hi, j, hj, m, hm, rfl⟩
    exact ⟨_, _, _, by unfold Bx; omega, rfl⟩
  · rintro ⟨x, y, s, hb, rfl⟩
    unfold Bx at hb
    refine ⟨(x - x0).toNat, by omega, (y - y0).toNat, by omega, (s - s0).toNat, by omega, ?_⟩
    rw [show x0 + ((x - x0).toNat : Int) = x by omega, show y0 + ((y - y0).toNat : Int) = y by omega, show s0 + ((s - s0).toNat : Int) = s by omega]
open Classical in
noncomputable def Ov (t : Ed) (x0 x1 y0 y1 s0 s1 : Int) : Bd := if h : ∃ k, Lst (Hs t x0 x1 y0 y1 s0 s1) k then Classical.choose h else f0.k
theorem Ov_lst (t : Ed) {x0 x1 y0 y1 s0 s1 : Int} (hx : x0 ≤ x1) (hy : y0 ≤ y1) (hs : s0 ≤ s1) : Lst (Hs t x0 x1 y0 y1 s0 s1) (Ov t x0 x1 y0 y1 s0 s1) := by
  have h := hs_some t hx hy hs
  unfold Ov
  rw [dif_pos h]
  exact Classical.choose_spec h
theorem Ov_is {t : Ed} {x0 x1 y0 y1 s0 s1 : Int} {k : Bd} (h : Lst (Hs t x0 x1 y0 y1 s0 s1) k) : Ov t x0 x1 y0 y1 s0 s1 = k := by
  have h' : ∃ k, Lst (Hs t x0 x1 y0 y1 s0 s1) k := ⟨k, h⟩
  unfold Ov
  rw [dif_pos h']
  exact (Classical.choose_spec h').unique h
theorem Ov_one (t : Ed) (x y s : Int) : Ov t x x y y s s = Hd t x y s :=
  Ov_is ((Lst.one _).of_iff fun c => ⟨fun e => ⟨x, y, s, by unfold Bx; omega, e⟩, fun ⟨x', y', s', hb, e⟩ => by
    unfold Bx at hb
    obtain rfl : x' = x := by omega
    obtain rfl : y' = y := by omega
    obtain rfl : s' = s := by omega
    exact e⟩)
theorem Hd_bok {t : Ed} (h : Tok t) (x y s : Int) : Bok (Hd t x y s) := by
  by_cases k : ∃ i, i < t.l.length ∧ ((ith t.l i).x = x ∧ (ith t.l i).y = y ∧ (ith t.l i).s = s)
  · obtain ⟨i, hi, e⟩ := k
    unfold Hd
    rw [hd_up h.2.2.2.2.2.2.2 hi e]
    exact (h.2.2.2.2.2.2.1 i hi).1
  · unfold Hd
    rw [hd_none fun i hi e => k ⟨i, hi, e⟩]
    exact h.2.2.2.1
theorem Ov_bok {t : Ed} (h : Tok t) {x0 x1 y0 y1 s0 s1 : Int} (hx : x0 ≤ x1) (hy : y0 ≤ y1) (hs : s0 ≤ s1) : Bok (Ov t x0 x1 y0 y1 s0 s1) :=
  (Ov_lst t hx hy hs).bok fun c ⟨x, y, s, _, e⟩ => by rw [e]; exact Hd_bok h x y s
/-! ### How many blocks have no flow -/
/-- Integers that rise. -/
def Ri : List Int → Prop
  | [] => True
  | [_] => True
  | a :: b :: r => a < b ∧ Ri (b :: r)
theorem Ri.tail {a : Int} {r : List Int} (h : Ri (a :: r)) : Ri r := by
  cases r with
  | nil => trivial
  | cons b r => exact h.2
theorem Ri.low {a : Int} {r : List Int} (h : Ri (a :: r)) : ∀ v, v ∈ r → a < v := by
  induction r generalizing a with
  | nil => intro v hv; cases hv
  | cons b r ih =>
    intro v hv
    rcases List.mem_cons.1 hv with rfl | hv
    · exact h.1
    · exact Int.lt_trans h.1 (ih h.2 v hv)
theorem ri_count {l : List Int} (h : Ri l) {a b : Int} (hab : a ≤ b) (hl : ∀ v, v ∈ l → a ≤ v ∧ v < b) : (l.length : Int) ≤ b - a ∧ ((l.length : Int) = b - a ↔ ∀ v, a ≤ v → v < b → v ∈ l) := by
  induction l generalizing a with
  | nil =>
    refine ⟨by simp; omega, fun h v h1 h2 => ?_, fun h => ?_⟩
    · simp at h; omega
    · by_cases e : a < b
      · exact absurd (h a (Int.le_refl _) e) (by simp)
      · simp; omega
  | cons c r ih =>
    have hc := hl c (by simp)
    obtain ⟨i1, i2⟩ := ih h.tail (a := c + 1) (by omega) (fun v hv => ⟨by have := h.low v hv; omega, (hl v (by simp [hv])).2⟩)
    rw [List.length_cons]
    refine ⟨by omega, fun e v h1 h2 => ?_, fun g => ?_⟩
    · have e1 : c = a := by omega
      by_cases ev : v = c
      · rw [ev]; simp
      · exact List.mem_cons.2 (Or.inr (i2.1 (by omega) v (by omega) h2))
    · have e1 : c = a := by
        rcases List.mem_cons.1 (g a (Int.le_refl _) (by omega)) with e | e
        · exact e.symm
        · have := h.low a e; omega
      have := i2.2 fun v h1 h2 => by
        rcases List.mem_cons.1 (g v (by omega) h2) with e | e
        · omega
        · exact e
      omega
end Td
end Go.Proofs.YtpiajdahmcelnaaGreat
