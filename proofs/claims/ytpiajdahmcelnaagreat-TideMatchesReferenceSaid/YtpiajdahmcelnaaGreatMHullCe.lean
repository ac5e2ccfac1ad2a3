/-
  Plain geometry: corners that turn left, rise, and then fall, are a polygon; and the other way round.
-/
import Derived.Test.YtpiajdahmcelnaaGreatMHullTwo
namespace Go.Proofs.YtpiajdahmcelnaaGreat
namespace Hl
/-- The order of places as a functional. -/
theorem ls_steep {a b : Pt} (ha : Plc a) (hb : Plc b) : ls a b ↔ af 1000001 1 0 a < af 1000001 1 0 b := by
  unfold Plc at ha hb
  unfold ls af
  omega
theorem sep_id (u v k : Int) (m M p q y : Pt) : (af u v k M - af u v k m) * cr p q y = (af u v k M - af u v k y) * cr p q m + (af u v k y - af u v k m) * cr p q M + (af u v k q - af u v k p) * cr m M y := by unfold af cr; grind
theorem pos_of {d s : Int} (hd : 0 < d) (h : 0 < d * s) : 0 < s := by
  by_cases hs : 0 < s
  · exact hs
  · have := Int.mul_nonneg (show 0 ≤ d by omega) (show 0 ≤ -s by omega)
    rw [Int.mul_neg] at this
    omega
/-- What is on the left of the chord is on the left of a side on the other side of the chord. -/
theorem sep {u v k : Int} {m M p q y : Pt} (hm : af u v k m < af u v k M) (h1 : af u v k m ≤ af u v k y) (h2 : af u v k y ≤ af u v k M) (hpq : af u v k p < af u v k q) (a : 0 ≤ cr p q m) (b : 0 ≤ cr p q M) (c : 0 < cr m M y) : 0 < cr p q y := by
  refine pos_of (show 0 < af u v k M - af u v k m by omega) ?_
  rw [sep_id]
  have e1 := Int.mul_nonneg (show 0 ≤ af u v k M - af u v k y by omega) a
  have e2 := Int.mul_nonneg (show 0 ≤ af u v k y - af u v k m by omega) b
  have e3 := Int.mul_pos (show 0 < af u v k q - af u v k p by omega) c
  omega
theorem grows_all {g : Nat → Int} {a : Nat} (h : ∀ i, i < a → g i < g (i + 1)) : ∀ i j, i < j → j ≤ a → g i < g j := by
  intro i j hij
  induction j with
  | zero => omega
  | succ j ih =>
    intro hj
    have h1 := h j (by omega)
    by_cases e : i = j
    · rw [e]; exact h1
    · have := ih (by omega) (by omega)
      omega
/-- A chain that rises from m to M, and one back: all is on the left of the sides of the first one. -/
theorem chains_left {u v k : Int} {A B : Nat → Pt} {a b : Nat} (ia : ∀ i, i < a → af u v k (A i) < af u v k (A (i + 1))) (ta : ∀ i, i + 2 ≤ a → 0 < cr (A i) (A (i + 1)) (A (i + 2)))
    (ib : ∀ j, j < b → af u v k (B (j + 1)) < af u v k (B j)) (tb : ∀ j, j + 2 ≤ b → 0 < cr (B j) (B (j + 1)) (B (j + 2))) (e1 : A a = B 0) (e2 : B b = A 0) {i : Nat} (hi : i < a) :
    (∀ l, l ≤ a → l ≠ i → l ≠ i + 1 → 0 < cr (A i) (A (i + 1)) (A l)) ∧ ∀ j, 0 < j → j < b → 0 < cr (A i) (A (i + 1)) (B j) := by
  have ca := chain_all (u := u) (v := v) (k := k) (P := A) (a + 1) (fun i hi => ia i (by omega)) (fun i hi => ta i (by omega))
  have cb := chain_all (u := -u) (v := -v) (k := -k) (P := B) (b + 1) (fun i hi => by have := ib i (by omega); rw [neg_af, neg_af]; omega) (fun i hi => tb i (by omega))
  have ga := grows_all (g := fun i => af u v k (A i)) ia
  have gb := grows_all (g := fun i => -(af u v k (B i))) (a := b) (fun i hi => by have := ib i hi; omega)
  have side : ∀ l, l ≤ a → l ≠ i → l ≠ i + 1 → 0 < cr (A i) (A (i + 1)) (A l) := fun l hl h1 h2 => by
    by_cases h : l < i
    · rw [← cr_rot]
      exact ca l i (i + 1) h (by omega) (by omega)
    · exact ca i (i + 1) l (by omega) (by omega) (by omega)
  refine ⟨side, fun j h1 h2 => ?_⟩
  have m0 : 0 ≤ cr (A i) (A (i + 1)) (A 0) := by
    by_cases e : i = 0
    · rw [e, cr_self]; exact Int.le_refl _
    · exact Int.le_of_lt (side 0 (by omega) (by omega) (by omega))
  have m1 : 0 ≤ cr (A i) (A (i + 1)) (A a) := by
    by_cases e : i + 1 = a
    · rw [← e, cr_self']; exact Int.le_refl _
    · exact Int.le_of_lt (side a (by omega) (by omega) (by omega))
  have c : 0 < cr (A 0) (A a) (B j) := by
    have := cb 0 j b h1 h2 (by omega)
    rw [e2, ← e1] at this
    rw [cr_rot]
    exact this
  have f0 := ga 0 a (by omega) (Nat.le_refl _)
  have f1 := gb 0 j h1 (by omega)
  have f2 := gb j b h2 (Nat.le_refl _)
  rw [e2] at f2
  rw [← e1] at f1
  exact sep f0 (by omega) (by omega) (ia i hi) m0 m1 c

/-- Side i rises. -/
def Rise (p : List Pt) (i : Nat) : Prop := ls (at' p i) (at' p ((i + 1) % p.length))
instance (p : List Pt) (i : Nat) : Decidable (Rise p i) := by unfold Rise ls; infer_instance
/-- What the landed code asks of the corners. -/
def Goes (p : List Pt) : Prop := ∀ i, i < p.length → 0 < cr (at' p (pv p.length i)) (at' p i) (at' p ((i + 1) % p.length)) ∧ (Rise p i → i = 0 ∨ Rise p (i - 1))
theorem pv_succ {n i : Nat} (h : i + 1 < n) : pv n (i + 1) = i := by
  unfold pv
  rw [show i + 1 + (n - 1) = i + n by omega, Nat.add_mod_right, Nat.mod_eq_of_lt (by omega)]
theorem goes_cvx {p : List Pt} (h3 : 3 ≤ p.length) (hp : Plcs p) (h : Goes p) : (∀ i, 1 ≤ i → i < p.length → ls (at' p 0) (at' p i)) ∧ Cvx p.length (at' p) := by
  obtain ⟨n, hn⟩ : ∃ n, p.length = n := ⟨_, rfl⟩
  unfold Goes at h
  have hR : ∀ i, Rise p i ↔ ls (at' p i) (at' p ((i + 1) % p.length)) := fun i => Iff.rfl
  rw [hn] at h3 h hR ⊢
  have hpl : ∀ i, i < n → Plc (at' p i) := fun i hi => hp i (by omega)
  have hpl' : ∀ i, Plc (at' p (i % n)) := fun i => hpl _ (Nat.mod_lt _ (by omega))
  -- a side that does not rise falls
  have up : ∀ i, i < n → Rise p i → af 1000001 1 0 (at' p i) < af 1000001 1 0 (at' p ((i + 1) % n)) := fun i hi hr => (ls_steep (hpl i hi) (hpl' _)).1 ((hR i).1 hr)
  have dn : ∀ i, i < n → ¬ Rise p i → af 1000001 1 0 (at' p ((i + 1) % n)) < af 1000001 1 0 (at' p i) := fun i hi hr => by
    rcases ls_total (at' p i) (at' p ((i + 1) % n)) with e | e | e
    · exact absurd ((hR i).2 e) hr
    · have := (h i hi).1
      rw [← e, cr_self'] at this
      omega
    · exact (ls_steep (hpl' _) (hpl i hi)).1 e
  -- what rises comes first
  have pre : ∀ j, j < n → Rise p j → ∀ i, i ≤ j → Rise p i := by
    intro j
    induction j with
    | zero => intro _ hr i hi; obtain rfl : i = 0 := by omega
              exact hr
    | succ j ih =>
      intro hj hr i hi
      by_cases e : i = j + 1
      · rw [e]; exact hr
      · exact ih (by omega) (((h _ hj).2 hr).resolve_left (by omega)) i (by omega)
  have cut : ∀ m, m ≤ n → ∃ r, r ≤ m ∧ (∀ i, i < r → Rise p i) ∧ ∀ i, r ≤ i → i < m → ¬ Rise p i := by
    intro m
    induction m with
    | zero => intro _; exact ⟨0, Nat.le_refl _, fun i hi => by omega, fun i h1 h2 => by omega⟩
    | succ m ih =>
      intro hm
      obtain ⟨r, h1, h2, h4⟩ := ih (by omega)
      by_cases hr : Rise p m
      · exact ⟨m + 1, Nat.le_refl _, fun i hi => pre m (by omega) hr i (by omega), fun i h1 h2 => by omega⟩
      · refine ⟨r, by omega, h2, fun i h5 h6 => ?_⟩
        by_cases e : i = m
        · rw [e]; exact hr
        · exact h4 i h5 (by omega)
  obtain ⟨r, hrn, hup, hdn⟩ := cut n (Nat.le_refl _)
  have r0 : 1 ≤ r := by
    by_cases e : 1 ≤ r
    · exact e
    · exfalso
      have hr0 : r = 0 := by omega
      have g := grows_all (g := fun i => -(af 1000001 1 0 (at' p (i % n)))) (a := n) (fun i hi => by
        have := dn i hi (hdn i (by omega) hi)
        rw [Nat.mod_eq_of_lt hi]
        omega) 0 n (by omega) (Nat.le_refl _)
      simp only [Nat.mod_self, Nat.zero_mod] at g
      omega
  have r1 : r < n := by
    by_cases e : r < n
    · exact e
    · exfalso
      have g := grows_all (g := fun i => af 1000001 1 0 (at' p (i % n))) (a := n) (fun i hi => by
        have := up i hi (hup i (by omega))
        rw [Nat.mod_eq_of_lt hi]
        omega) 0 n (by omega) (Nat.le_refl _)
      simp only [Nat.mod_self, Nat.zero_mod] at g
      omega
  -- the chain there, and the chain back
  have ia : ∀ i, i < r → af 1000001 1 0 (at' p i) < af 1000001 1 0 (at' p (i + 1)) := fun i hi => by
    have := up i (by omega) (hup i hi)
    rwa [Nat.mod_eq_of_lt (show i + 1 < n by omega)] at this
  have ta : ∀ i, i + 2 ≤ r → 0 < cr (at' p i) (at' p (i + 1)) (at' p (i + 2)) := fun i hi => by
    have := (h (i + 1) (by omega)).1
    rwa [pv_succ (by omega), Nat.mod_eq_of_lt (show i + 1 + 1 < n by omega)] at this
  obtain ⟨B, hB⟩ : ∃ B : Nat → Pt, B = fun j => at' p ((r + j) % n) := ⟨_, rfl⟩
  have eB : ∀ j, r + j < n → B j = at' p (r + j) := fun j hj => by rw [hB]; simp only; rw [Nat.mod_eq_of_lt hj]
  have eB' : ∀ j, B (j + 1) = at' p ((r + j + 1) % n) := fun j => by rw [hB]; simp only; rw [Nat.add_assoc]
  have ib : ∀ j, j < n - r → af 1000001 1 0 (B (j + 1)) < af 1000001 1 0 (B j) := fun j hj => by
    have := dn (r + j) (by omega) (hdn _ (by omega) (by omega))
    rw [eB j (by omega), eB']
    exact this
  have tb : ∀ j, j + 2 ≤ n - r → 0 < cr (B j) (B (j + 1)) (B (j + 2)) := fun j hj => by
    have := (h (r + j + 1) (by omega)).1
    rw [pv_succ (by omega)] at this
    rw [eB j (by omega), eB (j + 1) (by omega), eB' (j + 1)]
    exact this
  have e1 : at' p r = B 0 := (eB 0 (by omega)).symm
  have e2 : B (n - r) = at' p 0 := by
    rw [hB]; simp only; rw [show r + (n - r) = n by omega, Nat.mod_self]
  have sa := fun i hi => chains_left ia ta ib tb e1 e2 (i := i) hi
  have sb := fun i hi => chains_left (u := -1000001) (v := -1) (k := -0) (A := B) (B := at' p) (a := n - r) (b := r) (fun j hj => by have := ib j hj; rw [neg_af, neg_af]; omega) tb
    (fun j hj => by have := ia j hj; rw [neg_af, neg_af]; omega) ta e2 e1 (i := i) hi
  have ga := grows_all (g := fun i => af 1000001 1 0 (at' p i)) ia
  have gb := grows_all (g := fun i => -(af 1000001 1 0 (B i))) (a := n - r) (fun i hi => by have := ib i hi; omega)
  constructor
  · intro i h1 h2
    refine (ls_steep (hpl 0 (by omega)) (hpl i h2)).2 ?_
    by_cases e : i ≤ r
    · exact ga 0 i (by omega) e
    · have := gb (i - r) (n - r) (by omega) (Nat.le_refl _)
      rw [e2, eB (i - r) (by omega), show r + (i - r) = i by omega] at this
      omega
  · intro i k hi hk hki hkn
    by_cases e : i < r
    · rw [Nat.mod_eq_of_lt (show i + 1 < n by omega)] at hkn ⊢
      obtain ⟨s1, s2⟩ := sa i e
      by_cases ek : k ≤ r
      · exact s1 k ek hki hkn
      · have := s2 (k - r) (by omega) (by omega)
        rwa [eB (k - r) (by omega), show r + (k - r) = k by omega] at this
    · obtain ⟨j, rfl⟩ : ∃ j, i = r + j := ⟨i - r, by omega⟩
      obtain ⟨s1, s2⟩ := sb j (by omega)
      rw [← eB j (by omega), ← eB']
      by_cases ek : k = 0
      · rw [ek, ← e2]
        refine s1 (n - r) (Nat.le_refl _) (by omega) (fun h => ?_)
        apply hkn
        rw [ek, show r + j + 1 = n by omega, Nat.mod_self]
      · by_cases el : k < r
        · exact s2 k (by omega) el
        · have := s1 (k - r) (by omega) (by omega) (fun h => by
            apply hkn
            rw [Nat.mod_eq_of_lt (by omega)]
            omega)
          rwa [eB (k - r) (by omega), show r + (k - r) = k by omega] at this
theorem cvx_goes {p : List Pt} (h3 : 3 ≤ p.length) (hp : Plcs p) (h0 : ∀ i, 1 ≤ i → i < p.length → ls (at' p 0) (at' p i)) (hc : Cvx p.length (at' p)) : Goes p := by
  intro i hi
  refine ⟨turn hc h3 hi, fun hr => ?_⟩
  by_cases e : i = 0
  · exact Or.inl e
  · refine Or.inr ?_
    obtain ⟨j, rfl⟩ : ∃ j, i = j + 1 := ⟨i - 1, by omega⟩
    rw [Nat.add_sub_cancel]
    by_cases hj : Rise p j
    · exact hj
    · exfalso
      have t := turn hc h3 hi
      rw [pv_succ hi] at t
      have p0 := hp 0 (by omega)
      have pj := hp j (by omega)
      have pi := hp (j + 1) hi
      have pn := hp ((j + 1 + 1) % p.length) (Nat.mod_lt _ (by omega))
      have f0 := (ls_steep p0 pi).1 (h0 (j + 1) (by omega) hi)
      have f2 := (ls_steep pi pn).1 hr
      have f1 : af 1000001 1 0 (at' p (j + 1)) ≤ af 1000001 1 0 (at' p j) := by
        unfold Rise at hj
        rw [Nat.mod_eq_of_lt hi] at hj
        have : ¬ af 1000001 1 0 (at' p j) < af 1000001 1 0 (at' p (j + 1)) := fun h => hj ((ls_steep pj pi).2 h)
        omega
      have c := cone 1000001 1 0 (at' p j) (at' p (j + 1)) (at' p ((j + 1 + 1) % p.length)) (at' p 0)
      have c1 : 0 ≤ cr (at' p j) (at' p (j + 1)) (at' p 0) := by
        by_cases e0 : j = 0
        · rw [e0, cr_self]; exact Int.le_refl _
        · have := hc j 0 (by omega) (by omega) (by omega) (by rw [Nat.mod_eq_of_lt hi]; omega)
          rw [Nat.mod_eq_of_lt hi] at this
          omega
      have c2 : 0 ≤ cr (at' p (j + 1)) (at' p ((j + 1 + 1) % p.length)) (at' p 0) := by
        by_cases e0 : 0 = (j + 1 + 1) % p.length
        · rw [← e0, cr_self']; exact Int.le_refl _
        · have := hc (j + 1) 0 hi (by omega) (by omega) e0
          omega
      have m1 := Int.mul_nonneg c1 (show 0 ≤ af 1000001 1 0 (at' p ((j + 1 + 1) % p.length)) - af 1000001 1 0 (at' p (j + 1)) by omega)
      have m2 := Int.mul_nonneg c2 (show 0 ≤ af 1000001 1 0 (at' p j) - af 1000001 1 0 (at' p (j + 1)) by omega)
      have m3 := Int.mul_pos t (show 0 < -(af 1000001 1 0 (at' p 0) - af 1000001 1 0 (at' p (j + 1))) by omega)
      rw [Int.mul_neg, c] at m3
      omega
end Hl
end Go.Proofs.YtpiajdahmcelnaaGreat
