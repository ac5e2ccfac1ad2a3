/-
  Layer 12 in plain words: rows, tables, uses, the first row for a use; what further, left out, divided and changed rows do.
-/
import Derived.Test.YthdoobgellaheaaRows
namespace Go.Proofs.Ythdoobgellaheaa
namespace Tb

/-- A row. -/
structure Rw where
  lo : Int
  hi : Int
  age : Int
  since : Int
  part : Int
  turn : Int
/-- A row is right. -/
def Rt (r : Rw) : Prop := ((-1000 ≤ r.lo ∧ r.lo ≤ 1000) ∧ (-1000 ≤ r.hi ∧ r.hi ≤ 1000) ∧ r.lo ≤ r.hi) ∧ (0 ≤ r.age ∧ r.age ≤ 10000) ∧ (0 ≤ r.since ∧ r.since ≤ 1000000000) ∧ (0 ≤ r.part ∧ r.part ≤ 500) ∧ (0 ≤ r.turn ∧ r.turn ≤ 8)
/-- A table. -/
def Tbl (l : List Rw) : Prop := l.length ≤ 50 ∧ ∀ r, r ∈ l → Rt r
/-- A use. -/
def Us (t a s : Int) : Prop := (-1000 ≤ t ∧ t ≤ 1000) ∧ (0 ≤ a ∧ a ≤ 10000) ∧ (0 ≤ s ∧ s ≤ 1000000000)
/-- A row is for a use. -/
def Fr (t a s : Int) (r : Rw) : Prop := r.lo ≤ t ∧ t ≤ r.hi ∧ a ≤ r.age ∧ s ≤ r.since
instance (r : Rw) : Decidable (Rt r) := by unfold Rt; exact inferInstance
instance (l : List Rw) : Decidable (Tbl l) := by unfold Tbl; exact inferInstance
instance (t a s : Int) : Decidable (Us t a s) := by unfold Us; exact inferInstance
instance (t a s : Int) (r : Rw) : Decidable (Fr t a s r) := by unfold Fr; exact inferInstance
/-- The first row for a use. -/
def fd (t a s : Int) (l : List Rw) : Option Rw := l.find? fun r => decide (Fr t a s r)
theorem fd_nil (t a s : Int) : fd t a s [] = none := rfl
theorem fd_yes {t a s : Int} {r : Rw} (h : Fr t a s r) (l : List Rw) : fd t a s (r :: l) = some r := by
  unfold fd
  rw [List.find?_cons_of_pos (by simpa using h)]
theorem fd_no {t a s : Int} {r : Rw} (h : ¬ Fr t a s r) (l : List Rw) : fd t a s (r :: l) = fd t a s l := by
  unfold fd
  rw [List.find?_cons_of_neg (by simpa using h)]
theorem fd_app (t a s : Int) (k l : List Rw) : fd t a s (k ++ l) = (fd t a s k).or (fd t a s l) := by
  unfold fd
  rw [List.find?_append]
theorem fd_some {t a s : Int} {l : List Rw} {r : Rw} (h : fd t a s l = some r) : r ∈ l ∧ Fr t a s r := by
  unfold fd at h
  exact ⟨List.mem_of_find?_eq_some h, by simpa using List.find?_some h⟩
theorem fd_none {t a s : Int} {l : List Rw} : fd t a s l = none ↔ ∀ r, r ∈ l → ¬ Fr t a s r := by
  unfold fd
  rw [List.find?_eq_none]
  simp
/-- What Find answers. -/
def An (l : List Rw) (t a s : Int) : Int × Int × Int :=
  if Tbl l ∧ Us t a s then
    match fd t a s l with
    | some r => (r.part, r.turn, 0)
    | none => (0, 0, 4)
  else (0, 0, 1)
theorem An_some {l : List Rw} {t a s : Int} (h1 : Tbl l) (h2 : Us t a s) {r : Rw} (h : fd t a s l = some r) : An l t a s = (r.part, r.turn, 0) := by
  unfold An
  rw [if_pos ⟨h1, h2⟩, h]
theorem An_none {l : List Rw} {t a s : Int} (h1 : Tbl l) (h2 : Us t a s) (h : fd t a s l = none) : An l t a s = (0, 0, 4) := by
  unfold An
  rw [if_pos ⟨h1, h2⟩, h]
theorem An_bad {l : List Rw} {t a s : Int} (h : ¬ (Tbl l ∧ Us t a s)) : An l t a s = (0, 0, 1) := by
  unfold An
  rw [if_neg h]

/-- The row at a place. -/
def ith (l : List Rw) (i : Nat) : Rw := l.getD i ⟨0, 0, 0, 0, 0, 0⟩
theorem ith_mem {l : List Rw} {i : Nat} (h : i < l.length) : ith l i ∈ l := by
  unfold ith
  rw [List.getD_eq_getElem?_getD, List.getElem?_eq_getElem h]
  exact List.getElem_mem h
theorem ith_get {l : List Rw} {i : Nat} (h : i < l.length) : l[i]? = some (ith l i) := by
  unfold ith
  rw [List.getD_eq_getElem?_getD, List.getElem?_eq_getElem h]
  rfl
theorem mem_ith {l : List Rw} {r : Rw} (h : r ∈ l) : ∃ i, i < l.length ∧ ith l i = r := by
  obtain ⟨i, hi, e⟩ := List.getElem_of_mem h
  refine ⟨i, hi, ?_⟩
  unfold ith
  rw [List.getD_eq_getElem?_getD, List.getElem?_eq_getElem hi]
  exact e
theorem take_snoc {l : List Rw} {k : Nat} (h : k < l.length) : l.take (k + 1) = l.take k ++ [ith l k] := by
  rw [List.take_add_one, ith_get h]
  rfl
theorem split_at {l : List Rw} {k : Nat} (h : k < l.length) : l = l.take k ++ ith l k :: l.drop (k + 1) := by
  have e : l.drop k = ith l k :: l.drop (k + 1) := by
    rw [List.drop_eq_getElem_cons h]
    congr 1
    have := ith_get h
    rw [List.getElem?_eq_getElem h] at this
    exact Option.some.inj this
  rw [← e, List.take_append_drop]
theorem Tbl.take {l : List Rw} (h : Tbl l) (k : Nat) : Tbl (l.take k) := ⟨by rw [List.length_take]; have := h.1; omega, fun r hr => h.2 r (List.mem_of_mem_take hr)⟩
theorem Tbl.rt {l : List Rw} (h : Tbl l) {k : Nat} (hk : k < l.length) : Rt (ith l k) := h.2 _ (ith_mem hk)
/-- The loop of 'first' over a list: none before k, then one at k. -/
theorem fd_at {t a s : Int} {l : List Rw} {k : Nat} (hk : k < l.length) (h0 : ∀ j, j < k → ¬ Fr t a s (ith l j)) (h1 : Fr t a s (ith l k)) : fd t a s l = some (ith l k) := by
  rw [split_at hk, fd_app, fd_none.2, fd_yes h1]
  · rw [← split_at hk]; rfl
  · intro r hr
    obtain ⟨j, hj, e⟩ := mem_ith hr
    rw [List.length_take] at hj
    have e2 : ith (l.take k) j = ith l j := by
      unfold ith
      rw [List.getD_eq_getElem?_getD, List.getD_eq_getElem?_getD, List.getElem?_take, if_pos (by omega)]
    rw [← e, e2]
    exact h0 j (by omega)
theorem fd_out {t a s : Int} {l : List Rw} (h0 : ∀ j, j < l.length → ¬ Fr t a s (ith l j)) : fd t a s l = none :=
  fd_none.2 fun r hr => by
    obtain ⟨j, hj, e⟩ := mem_ith hr
    rw [← e]
    exact h0 j hj
theorem Tbl.app {k l : List Rw} (h : Tbl (k ++ l)) : Tbl k ∧ Tbl l := by
  obtain ⟨h1, h2⟩ := h
  rw [List.length_append] at h1
  exact ⟨⟨by omega, fun r hr => h2 r (List.mem_append_left _ hr)⟩, ⟨by omega, fun r hr => h2 r (List.mem_append_right _ hr)⟩⟩
theorem or_some {α : Type} (x : α) (o : Option α) : (some x).or o = some x := rfl
theorem or_none {α : Type} (o : Option α) : (none : Option α).or o = o := rfl
theorem further_one {t a s : Int} {k l : List Rw} {r : Rw} (h : fd t a s k = some r) : fd t a s (k ++ l) = fd t a s k := by
  rw [fd_app, h, or_some]
theorem further_two {t a s : Int} {k l : List Rw} (h : fd t a s k = none) : fd t a s (k ++ l) = fd t a s l := by
  rw [fd_app, h, or_none]
/-- A row behind one that is for all its uses. -/
theorem covered {t a s : Int} {l : List Rw} {j k : Nat} (hj : j < k) (hk : k < l.length) (h : Fr t a s (ith l k) → Fr t a s (ith l j)) : fd t a s (l.take k ++ l.drop (k + 1)) = fd t a s l := by
  have e : fd t a s l = fd t a s (l.take k ++ ith l k :: l.drop (k + 1)) := by rw [← split_at hk]
  rw [e, fd_app, fd_app]
  by_cases c : Fr t a s (ith l k)
  · have hm : ith l j ∈ l.take k := by
      have : (l.take k)[j]? = some (ith l j) := by rw [List.getElem?_take, if_pos hj, ith_get (by omega)]
      exact List.mem_of_getElem? this
    cases hf : fd t a s (l.take k) with
    | none => exact absurd (h c) (fd_none.1 hf _ hm)
    | some r => rfl
  · rw [fd_no c]
theorem Tbl.less {l : List Rw} (h : Tbl l) (k : Nat) : Tbl (l.take k ++ l.drop (k + 1)) := by
  refine ⟨?_, fun r hr => ?_⟩
  · rw [List.length_append, List.length_take, List.length_drop]
    have := h.1
    omega
  · rcases List.mem_append.1 hr with hr | hr
    · exact h.2 r (List.mem_of_mem_take hr)
    · exact h.2 r (List.mem_of_mem_drop hr)
theorem Tbl.more {l : List Rw} (h : Tbl l) (hl : l.length < 50) (k : Nat) (hk : k < l.length) {x y : Rw} (hx : Rt x) (hy : Rt y) : Tbl ((l.take k ++ [x, y]) ++ l.drop (k + 1)) := by
  refine ⟨?_, fun r hr => ?_⟩
  · rw [List.length_append, List.length_append, List.length_take, List.length_drop]
    simp only [List.length_cons, List.length_nil]
    omega
  · rcases List.mem_append.1 hr with hr | hr
    · rcases List.mem_append.1 hr with hr | hr
      · exact h.2 r (List.mem_of_mem_take hr)
      · rcases List.mem_cons.1 hr with rfl | hr
        · exact hx
        · rw [List.mem_singleton] at hr
          subst hr
          exact hy
    · exact h.2 r (List.mem_of_mem_drop hr)
/-- What is said for a use. -/
def sy (t a s : Int) (l : List Rw) : Option (Int × Int) := (fd t a s l).map fun r => (r.part, r.turn)
theorem sy_of {t a s : Int} {k l : List Rw} (h : fd t a s k = fd t a s l) : sy t a s k = sy t a s l := by
  unfold sy
  rw [h]
theorem map_or {α β : Type} (f : α → β) (x y : Option α) : (x.or y).map f = (x.map f).or (y.map f) := by cases x <;> rfl
theorem sy_app (t a s : Int) (k l : List Rw) : sy t a s (k ++ l) = (sy t a s k).or (sy t a s l) := by
  unfold sy
  rw [fd_app, map_or]
theorem mid_eq {t a s : Int} {p q m n : List Rw} (h : sy t a s m = sy t a s n) : sy t a s ((p ++ m) ++ q) = sy t a s ((p ++ n) ++ q) := by
  rw [sy_app, sy_app, sy_app t a s (p ++ n), sy_app t a s p n, h]
theorem An_sy {k l : List Rw} {t a s : Int} (h1 : Tbl k) (h2 : Tbl l) (h3 : Us t a s) (h : sy t a s k = sy t a s l) : An k t a s = An l t a s ∧ ((An k t a s).2.2 = 0 ∨ (An k t a s).2.2 = 4) := by
  unfold sy at h
  cases e : fd t a s k with
  | none =>
    rw [e] at h
    cases f : fd t a s l with
    | none => rw [An_none h1 h3 e, An_none h2 h3 f]; exact ⟨rfl, Or.inr rfl⟩
    | some r => rw [f] at h; cases h
  | some x =>
    rw [e] at h
    cases f : fd t a s l with
    | none => rw [f] at h; cases h
    | some r =>
      rw [f] at h
      rw [An_some h1 h3 e, An_some h2 h3 f]
      injection h with h
      injection h with h h'
      exact ⟨by rw [h, h'], Or.inl rfl⟩
def lower (x : Rw) (c : Int) : Rw := ⟨x.lo, c, x.age, x.since, x.part, x.turn⟩
def upper (x : Rw) (c : Int) : Rw := ⟨c + 1, x.hi, x.age, x.since, x.part, x.turn⟩
theorem sy_one (t a s : Int) (r : Rw) : sy t a s [r] = if Fr t a s r then some (r.part, r.turn) else none := by
  unfold sy
  by_cases h : Fr t a s r
  · rw [fd_yes h, if_pos h]; rfl
  · rw [fd_no h, if_neg h]; rfl
theorem divided (t a s : Int) (x : Rw) (c : Int) (h0 : x.lo ≤ c) (h1 : c < x.hi) : sy t a s [lower x c, upper x c] = sy t a s [x] ∧ sy t a s [upper x c, lower x c] = sy t a s [x] := by
  have e1 : sy t a s [lower x c, upper x c] = (sy t a s [lower x c]).or (sy t a s [upper x c]) := sy_app t a s [lower x c] [upper x c]
  have e2 : sy t a s [upper x c, lower x c] = (sy t a s [upper x c]).or (sy t a s [lower x c]) := sy_app t a s [upper x c] [lower x c]
  have hp : (lower x c).part = x.part ∧ (lower x c).turn = x.turn ∧ (upper x c).part = x.part ∧ (upper x c).turn = x.turn := ⟨rfl, rfl, rfl, rfl⟩
  have hf : (Fr t a s x ↔ Fr t a s (lower x c) ∨ Fr t a s (upper x c)) := by
    unfold Fr lower upper
    simp only
    omega
  rw [e1, e2, sy_one, sy_one, sy_one, hp.1, hp.2.1, hp.2.2.1, hp.2.2.2]
  by_cases c1 : Fr t a s (lower x c)
  · by_cases c2 : Fr t a s (upper x c)
    · rw [if_pos c1, if_pos c2, if_pos (hf.2 (Or.inl c1))]; exact ⟨rfl, rfl⟩
    · rw [if_pos c1, if_neg c2, if_pos (hf.2 (Or.inl c1))]; exact ⟨rfl, rfl⟩
  · by_cases c2 : Fr t a s (upper x c)
    · rw [if_neg c1, if_pos c2, if_pos (hf.2 (Or.inr c2))]; exact ⟨rfl, rfl⟩
    · rw [if_neg c1, if_neg c2, if_neg (fun h => (hf.1 h).elim c1 c2)]; exact ⟨rfl, rfl⟩
theorem divided_sy {t a s : Int} {l : List Rw} {k : Nat} (hk : k < l.length) {m : List Rw} (h : sy t a s m = sy t a s [ith l k]) : sy t a s l = sy t a s ((l.take k ++ m) ++ l.drop (k + 1)) := by
  have e : sy t a s l = sy t a s ((l.take k ++ [ith l k]) ++ l.drop (k + 1)) := by
    rw [List.append_assoc, List.singleton_append, ← split_at hk]
  rw [e]
  exact mid_eq h.symm
theorem divided_rt {x : Rw} {c : Int} (h : Rt x) (h0 : x.lo ≤ c) (h1 : c < x.hi) : Rt (lower x c) ∧ Rt (upper x c) := by
  unfold Rt lower upper at *
  simp only
  omega
theorem apart (t a s : Int) (x y : Rw) (h : ¬ (x.lo ≤ y.hi ∧ y.lo ≤ x.hi)) : sy t a s [y, x] = sy t a s [x, y] := by
  have e1 : sy t a s [y, x] = (sy t a s [y]).or (sy t a s [x]) := sy_app t a s [y] [x]
  have e2 : sy t a s [x, y] = (sy t a s [x]).or (sy t a s [y]) := sy_app t a s [x] [y]
  rw [e1, e2, sy_one, sy_one]
  by_cases c1 : Fr t a s x
  · by_cases c2 : Fr t a s y
    · exfalso
      unfold Fr at c1 c2
      omega
    · rw [if_pos c1, if_neg c2]; rfl
  · by_cases c2 : Fr t a s y
    · rw [if_neg c1, if_pos c2]; rfl
    · rw [if_neg c1, if_neg c2]
/-- The list with two neighbours changed. -/
def swap (l : List Rw) (k : Nat) : List Rw := (l.take (k - 1) ++ [ith l k, ith l (k - 1)]) ++ l.drop (k + 1)
theorem split_two {l : List Rw} {k : Nat} (h0 : 0 < k) (h : k < l.length) : l = (l.take (k - 1) ++ [ith l (k - 1), ith l k]) ++ l.drop (k + 1) := by
  have e := split_at h
  have e2 := take_snoc (l := l) (k := k - 1) (by omega)
  rw [show k - 1 + 1 = k by omega] at e2
  rw [e2] at e
  rw [List.append_assoc] at e ⊢
  exact e
theorem Tbl.swap {l : List Rw} (h : Tbl l) {k : Nat} (h0 : 0 < k) (hk : k < l.length) : Tbl (swap l k) := by
  refine ⟨?_, fun r hr => ?_⟩
  · unfold Tb.swap
    rw [List.length_append, List.length_append, List.length_take, List.length_drop]
    simp only [List.length_cons, List.length_nil]
    have := h.1
    omega
  · unfold Tb.swap at hr
    rcases List.mem_append.1 hr with hr | hr
    · rcases List.mem_append.1 hr with hr | hr
      · exact h.2 r (List.mem_of_mem_take hr)
      · rcases List.mem_cons.1 hr with rfl | hr
        · exact h.rt hk
        · rw [List.mem_singleton] at hr
          subst hr
          exact h.rt (by omega)
    · exact h.2 r (List.mem_of_mem_drop hr)
theorem swap_sy {t a s : Int} {l : List Rw} {k : Nat} (h0 : 0 < k) (hk : k < l.length) (h : ¬ ((ith l (k - 1)).lo ≤ (ith l k).hi ∧ (ith l k).lo ≤ (ith l (k - 1)).hi)) : sy t a s l = sy t a s (swap l k) := by
  have e := split_two h0 hk
  have e2 : sy t a s l = sy t a s ((l.take (k - 1) ++ [ith l (k - 1), ith l k]) ++ l.drop (k + 1)) := by rw [← e]
  rw [e2]
  unfold swap
  exact mid_eq (apart t a s _ _ h).symm
theorem swap_set {l : List Rw} {k : Nat} (h0 : 0 < k) (hk : k < l.length) : (l.set (k - 1) (ith l k)).set k (ith l (k - 1)) = swap l k := by
  refine List.ext_getElem? fun i => ?_
  unfold swap
  by_cases c1 : i < k - 1
  · rw [List.getElem?_set_ne (by omega), List.getElem?_set_ne (by omega), List.append_assoc, List.getElem?_append_left (by rw [List.length_take]; omega), List.getElem?_take, if_pos c1]
  · have hl : (l.take (k - 1)).length = k - 1 := by rw [List.length_take]; omega
    by_cases c2 : i = k - 1
    · subst c2
      rw [List.getElem?_set_ne (by omega), List.getElem?_set_self (by omega), List.append_assoc, List.getElem?_append_right (by omega), hl, Nat.sub_self]
      rfl
    · by_cases c3 : i = k
      · subst c3
        rw [List.getElem?_set_self (by rw [List.length_set]; exact hk), List.append_assoc, List.getElem?_append_right (by omega), hl, show i - (i - 1) = 1 by omega]
        rfl
      · rw [List.getElem?_set_ne (by omega), List.getElem?_set_ne (by omega), List.getElem?_append_right (by rw [List.length_append, hl]; simp only [List.length_cons, List.length_nil]; omega), List.getElem?_drop, List.length_append, hl]
        congr 1
        simp only [List.length_cons, List.length_nil]
        omega
end Tb
end Go.Proofs.Ythdoobgellaheaa
