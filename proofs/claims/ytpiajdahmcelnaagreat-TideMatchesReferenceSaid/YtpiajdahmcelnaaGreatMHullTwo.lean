/-
  Plain geometry: a chain there and a chain back are a hull.
-/
import Derived.Test.YtpiajdahmcelnaaGreatMHullCon
namespace Go.Proofs.YtpiajdahmcelnaaGreat
namespace Hl
section
variable {u v k : Int} {l S T : List Pt}
theorem neg_af (u v k : Int) (x : Pt) : af (-u) (-v) (-k) x = -(af u v k x) := by unfold af; grind
/-- Two sides that meet at the end of the order, in one line: then all lies in this line. -/
theorem meet_flat {A M B y : Pt} (hA : af u v k A < af u v k M) (hB : af u v k B < af u v k M) (z : cr A M B = 0) (h1 : 0 ≤ cr A M y) (h2 : 0 ≤ cr M B y) : cr A M y = 0 := by
  have e := tri u v k M A B y
  have z1 : cr M A B = 0 := by rw [cr_swap2, z]; rfl
  have z2 : cr M A y = -(cr A M y) := cr_swap2 _ _ _
  rw [z1, z2, Int.zero_mul, Int.sub_zero] at e
  have m1 := Int.mul_nonneg h2 (show 0 ≤ af u v k M - af u v k A by omega)
  have e2 : cr M B y * (af u v k M - af u v k A) + cr A M y * (af u v k M - af u v k B) = 0 := by grind
  by_cases c : cr A M y = 0
  · exact c
  · have := Int.mul_pos (show 0 < cr A M y by omega) (show 0 < af u v k M - af u v k B by omega)
    omega
/-- Behind the last side of a chain the next one turns left, if not all lies in one line. -/
theorem junction (hS : Chain u v k (fun y => y ∈ l) S) (hT : Chain (-u) (-v) (-k) (fun y => y ∈ l) T) (h1 : 2 ≤ S.length) (h2 : 2 ≤ T.length) (h3 : 3 ≤ S.length ∨ 3 ≤ T.length) (e : at' S (S.length - 1) = at' T 0) : 0 < cr (at' S (S.length - 2)) (at' S (S.length - 1)) (at' T 1) := by
  have es : S.length - 2 + 1 = S.length - 1 := by omega
  have iA := hS.inc (S.length - 2) (by omega)
  have lA := hS.left (S.length - 2) (by omega)
  rw [es] at iA lA
  have iB := hT.inc 0 (by omega)
  have lB := hT.left 0 (by omega)
  rw [neg_af, neg_af] at iB
  rw [Nat.zero_add] at iB lB
  rw [← e] at iB lB
  have g := lA _ (hT.mem 1 (by omega))
  by_cases z : cr (at' S (S.length - 2)) (at' S (S.length - 1)) (at' T 1) = 0
  · exfalso
    have flat : ∀ y, y ∈ l → cr (at' S (S.length - 2)) (at' S (S.length - 1)) y = 0 := fun y hy => meet_flat iA (by omega) z (lA y hy) (lB y hy)
    have ne : at' S (S.length - 2) ≠ at' S (S.length - 1) := fun ee => by rw [ee] at iA; omega
    rcases h3 with h3 | h3
    · have t := hS.turns 0 (by omega)
      have := on_line ne (flat _ (hS.mem 0 (by omega))) (flat _ (hS.mem (0 + 1) (by omega))) (flat _ (hS.mem (0 + 2) (by omega)))
      omega
    · have t := hT.turns 0 (by omega)
      have := on_line ne (flat _ (hT.mem 0 (by omega))) (flat _ (hT.mem (0 + 1) (by omega))) (flat _ (hT.mem (0 + 2) (by omega)))
      omega
  · omega
/-- Both chains share their ends alone. -/
theorem chains_apart (hS : Chain u v k (fun y => y ∈ l) S) (hT : Chain (-u) (-v) (-k) (fun y => y ∈ l) T) {i b : Nat} (hi0 : 1 ≤ i) (hi : i + 1 < S.length) (hb : b + 1 < T.length) : at' S i ≠ at' T b := by
  intro e
  have ei : i - 1 + 1 = i := by omega
  have ei2 : i - 1 + 2 = i + 1 := by omega
  have t := hS.turns (i - 1) (by omega)
  rw [ei, ei2] at t
  have g1 := hS.inc i hi
  have g2 := hT.inc b hb
  rw [neg_af, neg_af, ← e] at g2
  have l1 := hT.left b hb _ (hS.mem (i + 1) hi)
  rw [← e] at l1
  have l2 := hS.left i hi _ (hT.mem (b + 1) hb)
  have l3 := hS.left (i - 1) (by omega) _ (hT.mem (b + 1) hb)
  rw [ei] at l3
  have z : cr (at' S i) (at' S (i + 1)) (at' T (b + 1)) = 0 := by rw [cr_swap] at l1; omega
  have q := tri u v k (at' S i) (at' S (i + 1)) (at' T (b + 1)) (at' S (i - 1))
  rw [z, Int.zero_mul, Int.sub_zero, ← cr_rot, ← cr_rot (at' S (i - 1)) (at' S i) (at' S (i + 1))] at q
  have m1 := Int.mul_nonneg l3 (show 0 ≤ af u v k (at' S (i + 1)) - af u v k (at' S i) by omega)
  have m2 := Int.mul_pos t (show 0 < af u v k (at' S i) - af u v k (at' T (b + 1)) by omega)
  have q2 : cr (at' S (i - 1)) (at' S i) (at' T (b + 1)) * (af u v k (at' S (i + 1)) - af u v k (at' S i)) + cr (at' S (i - 1)) (at' S i) (at' S (i + 1)) * (af u v k (at' S i) - af u v k (at' T (b + 1))) = 0 := by grind
  omega
theorem btw_of {a b y : Pt} (hab : af u v k a < af u v k b) (c : cr a b y = 0) (h1 : af u v k a ≤ af u v k y) (h2 : af u v k y ≤ af u v k b) : btw a b y := by
  have s1 := seg1 u v k a b y
  have s2 := seg2 u v k a b y
  rw [c, Int.mul_zero, Int.add_zero] at s1
  rw [c, Int.mul_zero, Int.sub_zero] at s2
  have key : ∀ d e : Int, d * (af u v k y - af u v k a) = e * (af u v k b - af u v k a) → (0 ≤ e ∧ e ≤ d) ∨ (d ≤ e ∧ e ≤ 0) := by
    intro d e h
    rcases Int.le_total 0 d with hd | hd
    · left
      constructor
      · have := Int.mul_nonneg hd (show 0 ≤ af u v k y - af u v k a by omega)
        exact nonneg_of (show 0 < af u v k b - af u v k a by omega) (by rw [Int.mul_comm]; omega)
      · have := Int.mul_nonneg hd (show 0 ≤ af u v k b - af u v k y by omega)
        have e3 : (af u v k b - af u v k a) * (d - e) = d * (af u v k b - af u v k y) := by grind
        have := nonneg_of (show 0 < af u v k b - af u v k a by omega) (show 0 ≤ (af u v k b - af u v k a) * (d - e) by rw [e3]; exact this)
        omega
    · right
      constructor
      · have := Int.mul_nonneg (show 0 ≤ -d by omega) (show 0 ≤ af u v k b - af u v k y by omega)
        have e3 : (af u v k b - af u v k a) * (e - d) = (-d) * (af u v k b - af u v k y) := by grind
        have := nonneg_of (show 0 < af u v k b - af u v k a by omega) (show 0 ≤ (af u v k b - af u v k a) * (e - d) by rw [e3]; exact this)
        omega
      · have := Int.mul_nonneg (show 0 ≤ -d by omega) (show 0 ≤ af u v k y - af u v k a by omega)
        have e3 : (af u v k b - af u v k a) * (-e) = (-d) * (af u v k y - af u v k a) := by grind
        have := nonneg_of (show 0 < af u v k b - af u v k a by omega) (show 0 ≤ (af u v k b - af u v k a) * (-e) by rw [e3]; exact this)
        omega
  have k1 := key _ _ s1
  have k2 := key _ _ s2
  unfold btw
  omega
theorem two_chains (hS : Chain u v k (fun y => y ∈ l) S) (hT : Chain (-u) (-v) (-k) (fun y => y ∈ l) T) (h1 : 2 ≤ S.length) (h2 : 2 ≤ T.length) (eM : at' S (S.length - 1) = at' T 0) (em : at' T (T.length - 1) = at' S 0)
    (hls : ∀ y z, y ∈ l → z ∈ l → af u v k y < af u v k z → ls y z) : IsHull l (S.take (S.length - 1) ++ T.take (T.length - 1)) := by
  obtain ⟨s, hs⟩ : ∃ s, S.length = s + 1 := ⟨S.length - 1, by omega⟩
  obtain ⟨t, ht⟩ : ∃ t, T.length = t + 1 := ⟨T.length - 1, by omega⟩
  have ls1 : S.length - 1 = s := by omega
  have lt1 : T.length - 1 = t := by omega
  rw [ls1] at eM ⊢
  rw [lt1] at em ⊢
  obtain ⟨p, hp⟩ : ∃ p, S.take s ++ T.take t = p := ⟨_, rfl⟩
  have hn : p.length = s + t := by rw [← hp]; simp; omega
  have aS : ∀ i, i < s → at' p i = at' S i := fun i hi => by
    rw [← hp, at_append (by simp; omega), at_take hi (by omega)]
  have aT : ∀ j, j < t → at' p (s + j) = at' T j := fun j hj => by
    have h : at' (S.take s ++ T.take t) (s + j) = at' (T.take t) j := by
      have hl : (S.take s).length = s := by simp; omega
      unfold at'
      simp only [List.getD, List.getElem?_append_right (show (S.take s).length ≤ s + j by omega), hl, Nat.add_sub_cancel_left]
    rw [← hp, h, at_take hj (by omega)]
  rw [hp]
  have nS : ∀ i, i < s → at' p ((i + 1) % p.length) = at' S (i + 1) := fun i hi => by
    rw [hn, Nat.mod_eq_of_lt (by omega)]
    by_cases e : i + 1 = s
    · have := aT 0 (by omega)
      rw [Nat.add_zero] at this
      rw [e, this, eM]
    · exact aS _ (by omega)
  have nT : ∀ j, j < t → at' p ((s + j + 1) % p.length) = at' T (j + 1) := fun j hj => by
    by_cases e : j + 1 = t
    · have e2 : s + j + 1 = s + t := by omega
      rw [hn, e2, Nat.mod_self, aS 0 (by omega), e, em]
    · rw [hn, Nat.mod_eq_of_lt (by omega)]
      exact aT (j + 1) (by omega)
  have incS := inc_all hS.inc
  have incT := inc_all hT.inc
  have hm : ∀ x, x ∈ p → x ∈ l := fun x hx => by
    obtain ⟨i, hi, e⟩ := mem_at hx
    rw [← e]
    by_cases c : i < s
    · rw [aS i c]; exact hS.mem i (by omega)
    · obtain ⟨j, hj⟩ : ∃ j, i = s + j := ⟨i - s, by omega⟩
      rw [hj, aT j (by omega)]; exact hT.mem j (by omega)
  have cross : ∀ i j, i < s → j < t → at' S i ≠ at' T j := fun i j hi hj e => by
    by_cases e0 : i = 0
    · subst e0
      rw [← em] at e
      have := incT j t hj (by omega)
      rw [e] at this
      omega
    · by_cases j0 : j = 0
      · subst j0
        rw [← eM] at e
        have := incS i s hi (by omega)
        rw [e] at this
        omega
      · exact chains_apart hS hT (by omega) (by omega) (by omega) e
  have hd : ∀ i j, i < p.length → j < p.length → i ≠ j → at' p i ≠ at' p j := by
    have half : ∀ i j, i < j → j < p.length → at' p i ≠ at' p j := by
      intro i j hij hj e
      by_cases ci : i < s
      · by_cases cj : j < s
        · rw [aS i ci, aS j cj] at e
          have := incS i j hij (by omega)
          rw [e] at this
          omega
        · obtain ⟨b, hb⟩ : ∃ b, j = s + b := ⟨j - s, by omega⟩
          rw [aS i ci, hb, aT b (by omega)] at e
          exact cross i b ci (by omega) e
      · obtain ⟨a, ha⟩ : ∃ a, i = s + a := ⟨i - s, by omega⟩
        obtain ⟨b, hb⟩ : ∃ b, j = s + b := ⟨j - s, by omega⟩
        rw [ha, hb, aT a (by omega), aT b (by omega)] at e
        have := incT a b (by omega) (by omega)
        rw [e] at this
        omega
    intro i j hi hj hne e
    rcases Nat.lt_or_gt_of_ne hne with c | c
    · exact half i j c hj e
    · exact half j i c hi e.symm
  have hl : ∀ i, i < p.length → ∀ y, y ∈ l → 0 ≤ cr (at' p i) (at' p ((i + 1) % p.length)) y := fun i hi y hy => by
    by_cases c : i < s
    · rw [aS i c, nS i c]; exact hS.left i (by omega) y hy
    · obtain ⟨j, hj⟩ : ∃ j, i = s + j := ⟨i - s, by omega⟩
      rw [hj, aT j (by omega), nT j (by omega)]; exact hT.left j (by omega) y hy
  have h0 : ∀ i, 1 ≤ i → i < p.length → ls (at' p 0) (at' p i) := fun i h1' hi => by
    refine hls _ _ (hm _ (at_mem (by omega))) (hm _ (at_mem hi)) ?_
    rw [aS 0 (by omega)]
    by_cases c : i < s
    · rw [aS i c]; exact incS 0 i (by omega) (by omega)
    · obtain ⟨j, hj⟩ : ∃ j, i = s + j := ⟨i - s, by omega⟩
      rw [hj, aT j (by omega)]
      have := incT j t (by omega) (by omega)
      rw [neg_af, neg_af, em] at this
      omega
  by_cases h3 : 3 ≤ p.length
  · refine hull_of_sides h3 hm hd hl (fun i hi => ?_) h0
    have cond : 3 ≤ S.length ∨ 3 ≤ T.length := by omega
    by_cases c : i < s
    · rw [nS i c]
      by_cases e0 : i = 0
      · subst e0
        have epv : pv p.length 0 = s + (t - 1) := by
          unfold pv
          rw [hn, Nat.zero_add, Nat.mod_eq_of_lt (by omega)]; omega
        rw [epv, aT _ (by omega), aS 0 (by omega)]
        have hS' : Chain (- -u) (- -v) (- -k) (fun y => y ∈ l) S := by rw [Int.neg_neg, Int.neg_neg, Int.neg_neg]; exact hS
        have := junction hT hS' h2 h1 cond.symm (by rw [lt1]; exact em)
        have e3 : T.length - 2 = t - 1 := by omega
        rw [e3, lt1, em] at this
        exact this
      · have epv : pv p.length i = i - 1 := by
          unfold pv
          have : i + (p.length - 1) = p.length + (i - 1) := by omega
          rw [this, Nat.add_mod_left, Nat.mod_eq_of_lt (by omega)]
        rw [epv, aS _ (by omega), aS i c]
        have := hS.turns (i - 1) (by omega)
        have e1 : i - 1 + 1 = i := by omega
        have e2 : i - 1 + 2 = i + 1 := by omega
        rwa [e1, e2] at this
    · obtain ⟨j, hj⟩ : ∃ j, i = s + j := ⟨i - s, by omega⟩
      subst hj
      rw [nT j (by omega)]
      have epv : pv p.length (s + j) = s + j - 1 := by
        unfold pv
        have : s + j + (p.length - 1) = p.length + (s + j - 1) := by omega
        rw [this, Nat.add_mod_left, Nat.mod_eq_of_lt (by omega)]
      rw [epv]
      by_cases e0 : j = 0
      · subst e0
        have e5 : s + 0 - 1 = s - 1 := by omega
        rw [e5, aS _ (by omega), aT 0 (by omega), ← eM]
        have := junction hS hT h1 h2 cond (by rw [ls1]; exact eM)
        have e3 : S.length - 2 = s - 1 := by omega
        rw [e3, ls1] at this
        exact this
      · have e4 : s + j - 1 = s + (j - 1) := by omega
        rw [e4, aT _ (by omega), aT j (by omega)]
        have := hT.turns (j - 1) (by omega)
        have e1 : j - 1 + 1 = j := by omega
        have e2 : j - 1 + 2 = j + 1 := by omega
        rwa [e1, e2] at this
  · have s1 : s = 1 := by omega
    have t1 : t = 1 := by omega
    subst s1 t1
    refine ⟨⟨by omega, h0, fun h => by omega⟩, hm, fun y hy => ?_⟩
    rw [hs2 (by omega)]
    have p0 := aS 0 (by omega)
    have p1 := aT 0 (by omega)
    rw [Nat.add_zero, ← eM] at p1
    rw [p0, p1]
    have l1 := hS.left 0 (by omega) y hy
    have l2 := hT.left 0 (by omega) y hy
    rw [Nat.zero_add, ← eM, em] at l2
    rw [Nat.zero_add] at l1
    rw [cr_swap2] at l2
    have g := hS.inc 0 (by omega)
    rw [Nat.zero_add] at g
    have lo := hS.low y hy
    have up := hT.low y hy
    rw [neg_af, neg_af, ← eM] at up
    exact ⟨by omega, btw_of g (by omega) lo (by omega)⟩
end
end Hl
end Go.Proofs.YtpiajdahmcelnaaGreat
