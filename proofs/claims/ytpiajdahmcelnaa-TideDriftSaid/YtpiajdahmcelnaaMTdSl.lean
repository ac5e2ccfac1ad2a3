/-
  Slices of flows: what came in, and what the call itself gathers.
-/
import Derived.Laws.AppendOwn
import Derived.Test.YtpiajdahmcelnaaMHullGeoC
import Derived.Test.YtpiajdahmcelnaaMTdPlain
namespace Go.Proofs.Ytpiajdahmcelnaa
open Go.RowKit Hl
namespace Td

/-- The nine cells of a flow. -/
def rc (r : Fw) : List Value := [.int .i64 r.x, .int .i64 r.y, .int .i64 r.s, .int .i64 r.k.a, .int .i64 r.k.b, .int .i64 r.k.c, .int .i64 r.k.d, .int .i64 r.k.e, .int .i64 r.k.f]
def cl (l : List Fw) : List Value := l.flatMap rc
theorem cl_cons (r : Fw) (l : List Fw) : cl (r :: l) = rc r ++ cl l := rfl
theorem cl_app (k l : List Fw) : cl (k ++ l) = cl k ++ cl l := by unfold cl; rw [List.flatMap_append]
theorem cl_len (l : List Fw) : (cl l).length = l.length * 9 := by
  induction l with
  | nil => rfl
  | cons r l ih =>
    rw [cl_cons, List.length_append, ih, List.length_cons]
    simp only [rc, List.length_cons, List.length_nil]
    omega
theorem cl_at (l : List Fw) {i : Nat} (hi : i < l.length) {j : Nat} (hj : j < 9) : (cl l)[i * 9 + j]? = (rc (ith l i))[j]? := by
  induction l generalizing i with
  | nil => exact absurd hi (Nat.not_lt_zero _)
  | cons r l ih =>
    rw [cl_cons]
    have hr : (rc r).length = 9 := rfl
    cases i with
    | zero =>
      rw [Nat.zero_mul, Nat.zero_add, List.getElem?_append_left (by omega)]
      rfl
    | succ i =>
      rw [List.getElem?_append_right (by omega), hr, show (i + 1) * 9 + j - 9 = i * 9 + j by omega, ih (by simpa using hi)]
      rfl
/-- These rows lie here. -/
def Row (w : World) (b o : Nat) (l : List Fw) : Prop := b < w.heap.size ∧ ∀ j u, (cl l)[j]? = some u → w.cell? ⟨b, o + j, none⟩ = some u
theorem Row.grew {W w : World} {b o : Nat} {l : List Fw} (h : Row W b o l) (g : Grew W w) : Row w b o l := ⟨Nat.lt_of_lt_of_le h.1 g.size, fun j u hu => by rw [g.cell h.1]; exact h.2 j u hu⟩
theorem Row.at {w : World} {b o : Nat} {l : List Fw} (h : Row w b o l) {i : Nat} (hi : i < l.length) :
    w.cell? ⟨b, o + i * 9, none⟩ = some (.int .i64 (ith l i).x) ∧ w.cell? ⟨b, o + i * 9 + 1, none⟩ = some (.int .i64 (ith l i).y) ∧ w.cell? ⟨b, o + i * 9 + 2, none⟩ = some (.int .i64 (ith l i).s) ∧ w.cell? ⟨b, o + i * 9 + 3, none⟩ = some (.int .i64 (ith l i).k.a) ∧ w.cell? ⟨b, o + i * 9 + 4, none⟩ = some (.int .i64 (ith l i).k.b) ∧ w.cell? ⟨b, o + i * 9 + 5, none⟩ = some (.int .i64 (ith l i).k.c) ∧ w.cell? ⟨b, o + i * 9 + 6, none⟩ = some (.int .i64 (ith l i).k.d) ∧ w.cell? ⟨b, o + i * 9 + 7, none⟩ = some (.int .i64 (ith l i).k.e) ∧ w.cell? ⟨b, o + i * 9 + 8, none⟩ = some (.int .i64 (ith l i).k.f) :=
  ⟨h.2 (i * 9) _ (cl_at l hi (j := 0) (by omega)), h.2 (i * 9 + 1) _ (cl_at l hi (by omega)), h.2 (i * 9 + 2) _ (cl_at l hi (by omega)), h.2 (i * 9 + 3) _ (cl_at l hi (by omega)), h.2 (i * 9 + 4) _ (cl_at l hi (by omega)), h.2 (i * 9 + 5) _ (cl_at l hi (by omega)), h.2 (i * 9 + 6) _ (cl_at l hi (by omega)), h.2 (i * 9 + 7) _ (cl_at l hi (by omega)), h.2 (i * 9 + 8) _ (cl_at l hi (by omega))⟩
/-- A slice of these rows. -/
def Rs (w : World) (v : Value) (l : List Fw) : Prop := ∃ a c, v = .slice a l.length c ∧ l.length ≤ c ∧ (l.length = 0 ∨ ∃ b o, a = some ⟨b, o, none⟩ ∧ Row w b o l)
theorem Rs.grew {W w : World} {v : Value} {l : List Fw} (h : Rs W v l) (g : Grew W w) : Rs w v l := by
  obtain ⟨a, c, rfl, h1, h2⟩ := h
  refine ⟨a, c, rfl, h1, ?_⟩
  rcases h2 with h2 | ⟨b, o, rfl, hr⟩
  · exact Or.inl h2
  · exact Or.inr ⟨b, o, rfl, hr.grew g⟩
theorem Rs.shape {w : World} {v : Value} {l : List Fw} (h : Rs w v l) : ∃ a c, v = .slice a l.length c ∧ l.length ≤ c := by
  obtain ⟨a, c, e, h1, _⟩ := h
  exact ⟨a, c, e, h1⟩
theorem Rs.row {w : World} {a : Option Addr} {n c : Nat} {l : List Fw} (h : Rs w (.slice a n c) l) (h0 : 0 < l.length) : ∃ b o, a = some ⟨b, o, none⟩ ∧ Row w b o l := by
  obtain ⟨a', c', e, _, h2⟩ := h
  injection e with e1 e2 e3
  subst e1
  rcases h2 with h2 | h2
  · omega
  · exact h2
theorem Rs.nil (w : World) (a : Option Addr) (c : Nat) : Rs w (.slice a 0 c) [] := ⟨a, c, rfl, Nat.zero_le _, Or.inl rfl⟩
theorem Rs.kept {w w' : World} {v : Value} {l : List Fw} {row : Option Nat} (h : Rs w v l) (g : w.grownBy w' row) (hne : 0 < l.length → ∀ b o n c, v = .slice (some ⟨b, o, none⟩) n c → some b ≠ row) : Rs w' v l := by
  obtain ⟨a, c, rfl, h1, h2⟩ := h
  refine ⟨a, c, rfl, h1, ?_⟩
  by_cases h0 : l.length = 0
  · exact Or.inl h0
  · rcases h2 with h2 | ⟨b, o, rfl, hr⟩
    · exact Or.inl h2
    · exact Or.inr ⟨b, o, rfl, Nat.lt_of_lt_of_le hr.1 g.size, fun j u hu => World.grownBy.cell g (hr.2 j u hu) (hne (by omega) _ _ _ _ rfl)⟩
theorem add_off (b o k : Nat) : (⟨b, o, none⟩ : Addr).add k = ⟨b, o + k, none⟩ := by
  unfold Addr.add
  split
  · rename_i e; subst e; rfl
  · rfl
theorem cl_take (l : List Fw) (k : Nat) {j : Nat} {u : Value} (h : (cl (l.take k))[j]? = some u) : (cl l)[j]? = some u := by
  have e : cl l = cl (l.take k) ++ cl (l.drop k) := by rw [← cl_app, List.take_append_drop]
  have hj := (List.getElem?_eq_some_iff.1 h).1
  rw [e, List.getElem?_append_left hj]
  exact h
theorem cl_drop (l : List Fw) {k : Nat} (hk : k ≤ l.length) {j : Nat} {u : Value} (h : (cl (l.drop k))[j]? = some u) : (cl l)[k * 9 + j]? = some u := by
  have e : cl l = cl (l.take k) ++ cl (l.drop k) := by rw [← cl_app, List.take_append_drop]
  have hl : (cl (l.take k)).length = k * 9 := by rw [cl_len, List.length_take]; omega
  rw [e, List.getElem?_append_right (by omega), hl, show k * 9 + j - k * 9 = j by omega]
  exact h
/-- l[:k]. -/
theorem Rs.take {w : World} {a : Option Addr} {n c : Nat} {l : List Fw} (h : Rs w (.slice a n c) l) {k : Nat} (hk : k ≤ l.length) : Rs w (.slice a k c) (l.take k) := by
  obtain ⟨a', c', e, h1, h2⟩ := h
  injection e with e1 e2 e3
  subst e1 e2 e3
  have hl : (l.take k).length = k := by rw [List.length_take]; omega
  refine ⟨a, c, by rw [hl], by omega, ?_⟩
  rcases h2 with h2 | ⟨b, o, rfl, hr⟩
  · exact Or.inl (by omega)
  · exact Or.inr ⟨b, o, rfl, hr.1, fun j u hu => hr.2 j u (cl_take l k hu)⟩
/-- l[k:]. -/
theorem Rs.drop {w : World} {a : Option Addr} {n c : Nat} {l : List Fw} (h : Rs w (.slice a n c) l) {k : Nat} (hk : k ≤ l.length) : Rs w (.slice (if c = k then a else a.map (·.add (k * 9))) (n - k) (c - k)) (l.drop k) := by
  obtain ⟨a', c', e, h1, h2⟩ := h
  injection e with e1 e2 e3
  subst e1 e2 e3
  have hl : (l.drop k).length = l.length - k := List.length_drop
  refine ⟨_, _, by rw [hl], by omega, ?_⟩
  by_cases h0 : l.length = k
  · exact Or.inl (by omega)
  · rcases h2 with h2 | ⟨b, o, rfl, hr⟩
    · exact Or.inl (by omega)
    · refine Or.inr ⟨b, o + k * 9, by rw [if_neg (by omega), Option.map_some, add_off], hr.1, fun j u hu => ?_⟩
      rw [Nat.add_assoc]
      exact hr.2 _ u (cl_drop l hk hu)
/-- A slice of rows of the call's own. -/
def Ow (B : Nat) (w : World) (v : Value) (l : List Fw) : Prop := w.ownsRow B 25 9 v l.length (cl l)
theorem Ow.nil (B : Nat) (w : World) : Ow B w (.slice none 0 0) [] := World.ownsRow_nil w B _ 9
theorem Ow.grew {B : Nat} {W w : World} {v : Value} {l : List Fw} (h : Ow B W v l) (g : Grew W w) : Ow B w v l :=
  World.ownsRow.kept h (row := none) ⟨g.os, g.tape, g.output, g.size, fun k hk _ => g.block k hk⟩ (by cases hv : v.ownBlock <;> simp)
theorem Ow.lt {B : Nat} {w : World} {v : Value} {l : List Fw} (h : Ow B w v l) : ∀ k, v.ownBlock = some k → B ≤ k ∧ k < w.heap.size := fun k e => World.ownsRow.lt h k e
/-- New cells of rows. -/
theorem rs_new (w : World) (l : List Fw) (_h0 : 0 < l.length) : Rs (w.alloc (.cells (cl l).toArray 25)) (.slice (some ⟨w.heap.size, 0, none⟩) l.length l.length) l :=
  ⟨_, _, rfl, Nat.le_refl _, Or.inr ⟨w.heap.size, 0, rfl, by rw [World.size_alloc]; omega, fun j u hu => by
    rw [Nat.zero_add, cell_of_row _ _ _ _ _ _ (heap_alloc_new w _)]
    simpa using hu⟩⟩
end Td
end Go.Proofs.Ytpiajdahmcelnaa
