/-
  A row that is stored into a slice of the call's own.
-/
import Derived.Test.YthdoobgellaheaaTbBox
namespace Go.Proofs.Ythdoobgellaheaa
open Go.RowKit Wd
namespace Tb
/-- The six stores of a row. -/
def put6 (W : World) (g o : Nat) (r : Rw) : World := (((((W.setCell ⟨g, o, none⟩ (.int .i64 r.lo)).setCell ⟨g, o + 1, none⟩ (.int .i64 r.hi)).setCell ⟨g, o + 2, none⟩ (.int .i64 r.age)).setCell ⟨g, o + 3, none⟩ (.int .i64 r.since)).setCell ⟨g, o + 4, none⟩ (.int .i64 r.part)).setCell ⟨g, o + 5, none⟩ (.int .i64 r.turn)
theorem off_ne (g a b : Nat) (h : a ≠ b) : (⟨g, a, none⟩ : Addr) ≠ ⟨g, b, none⟩ := fun e => h (by injection e)
theorem far_at (W : World) (g : Nat) {a b : Nat} (v : Value) (h : a ≠ b) : (W.setCell ⟨g, a, none⟩ v).cell? ⟨g, b, none⟩ = W.cell? ⟨g, b, none⟩ := World.cell?_setCell_other _ _ _ _ (off_ne g a b h)
theorem put6_out (W : World) (g o : Nat) (r : Rw) (p : Nat) (h : p < o ∨ o + 6 ≤ p) : (put6 W g o r).cell? ⟨g, p, none⟩ = W.cell? ⟨g, p, none⟩ := by
  unfold put6
  rw [far_at _ g (a := o + 5) _ (by omega), far_at _ g (a := o + 4) _ (by omega), far_at _ g (a := o + 3) _ (by omega), far_at _ g (a := o + 2) _ (by omega), far_at _ g (a := o + 1) _ (by omega), far_at _ g (a := o) _ (by omega)]
theorem set_at {W : World} {g a b : Nat} {v u : Value} (h : W.cell? ⟨g, b, none⟩ = some u) : (W.setCell ⟨g, a, none⟩ v).cell? ⟨g, b, none⟩ = some (if a = b then v else u) := by
  by_cases e : a = b
  · subst e
    rw [World.cell?_setCell_same _ _ _ h, if_pos rfl]
  · rw [far_at W g v e, if_neg e, h]
theorem put6_in {W : World} {g o : Nat} {x : Rw} (h : ∀ d u, (rc x)[d]? = some u → W.cell? ⟨g, o + d, none⟩ = some u) (r : Rw) : ∀ d u, (rc r)[d]? = some u → (put6 W g o r).cell? ⟨g, o + d, none⟩ = some u := by
  intro d u hu
  have hd : d < 6 := (List.getElem?_eq_some_iff.1 hu).1
  obtain ⟨u0, h0⟩ : ∃ u0, W.cell? ⟨g, o + d, none⟩ = some u0 := by
    obtain ⟨z, hz⟩ : ∃ z, (rc x)[d]? = some z := ⟨(rc x)[d]'hd, List.getElem?_eq_getElem _⟩
    exact ⟨z, h d z hz⟩
  unfold put6
  rw [set_at (set_at (set_at (set_at (set_at (set_at h0)))))]
  match d, hd, hu with
  | 0, _, hu => simpa [rc] using hu
  | 1, _, hu => simpa [rc] using hu
  | 2, _, hu => simpa [rc] using hu
  | 3, _, hu => simpa [rc] using hu
  | 4, _, hu => simpa [rc] using hu
  | 5, _, hu => simpa [rc] using hu
theorem put6_size (W : World) (g o : Nat) (r : Rw) : (put6 W g o r).heap.size = W.heap.size := by
  unfold put6
  simp
theorem ith_set (l : List Rw) (i j : Nat) (r : Rw) (hi : i < l.length) : ith (l.set i r) j = if i = j then r else ith l j := by
  unfold ith
  rw [List.getD_eq_getElem?_getD, List.getElem?_set]
  by_cases e : i = j
  · rw [if_pos e, if_pos e, if_pos hi]; rfl
  · rw [if_neg e, if_neg e, List.getD_eq_getElem?_getD]
theorem Row.put {W : World} {g : Nat} {l : List Rw} (h : Row W g 0 l) {i : Nat} (hi : i < l.length) (r : Rw) : Row (put6 W g (i * 6) r) g 0 (l.set i r) := by
  refine ⟨by rw [put6_size]; exact h.1, fun j u hu => ?_⟩
  have hj : j < (l.set i r).length * 6 := by
    have := (List.getElem?_eq_some_iff.1 hu).1
    rwa [cl_len] at this
  have ej : j = j / 6 * 6 + j % 6 := by omega
  rw [List.length_set] at hj
  rw [ej, cl_at (l.set i r) (by rw [List.length_set]; omega) (by omega), ith_set l i _ r hi] at hu
  rw [Nat.zero_add]
  by_cases e : i = j / 6
  · rw [if_pos e] at hu
    rw [ej, ← e]
    refine put6_in (x := ith l i) (fun d z hz => ?_) r _ u hu
    have hd : d < 6 := (List.getElem?_eq_some_iff.1 hz).1
    have := h.2 (i * 6 + d) z (by rw [cl_at l hi hd]; exact hz)
    rwa [Nat.zero_add] at this
  · rw [if_neg e] at hu
    rw [put6_out _ _ _ _ _ (by omega)]
    have := h.2 j u (by rw [ej, cl_at l (by omega) (by omega)]; exact hu)
    rwa [Nat.zero_add] at this
theorem swap_len {l : List Rw} {k : Nat} (h0 : 0 < k) (hk : k < l.length) : (swap l k).length = l.length := by
  rw [← swap_set h0 hk, List.length_set, List.length_set]
theorem put6_grew {V W : World} (h : Grew V W) {g o : Nat} (hg : V.heap.size ≤ g) (r : Rw) : Grew V (put6 W g o r) := by
  unfold put6
  exact (((((h.setCell hg _).setCell hg _).setCell hg _).setCell hg _).setCell hg _).setCell hg _
end Tb
end Go.Proofs.Ythdoobgellaheaa
