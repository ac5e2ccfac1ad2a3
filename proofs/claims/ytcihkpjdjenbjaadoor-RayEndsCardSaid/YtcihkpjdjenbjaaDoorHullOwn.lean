/-
  A slice of points of the call's own, to which points are appended.
  What package hull owes besides: the slices that it hands back are new.
-/
import Derived.Laws.AppendOwn
import Derived.Test.YtcihkpjdjenbjaaDoorHullCon
namespace Go.Proofs.YtcihkpjdjenbjaaDoor
open Go.RowKit
namespace Hl
theorem info_pt : (Tryd.prog.info? 23).map (fun i => (i.zero, i.size, i.bytes)) = some (some (.agg #[.int .i64 0, .int .i64 0]), 2, 16) := by kernel_rfl
/-- v is a slice of the call's own (in blocks from B on) that reads as p. -/
def Own (B : Nat) (w : World) (v : Value) (p : List Pt) : Prop := w.ownsRow B 23 2 v p.length (cellsOf p)
theorem cellsOf_len (p : List Pt) : (cellsOf p).length = p.length * 2 := by
  induction p with
  | nil => rfl
  | cons x p ih =>
    have e : cellsOf (x :: p) = [.int .i64 x.1, .int .i64 x.2] ++ cellsOf p := rfl
    rw [e, List.length_append, ih]
    simp
    omega
theorem cellsOf_append (p q : List Pt) : cellsOf (p ++ q) = cellsOf p ++ cellsOf q := by
  unfold cellsOf
  rw [List.flatMap_append]
theorem Own.nil (B : Nat) (w : World) : Own B w (.slice none 0 0) [] := World.ownsRow_nil w B _ 2
theorem Own.alloc {B : Nat} {w : World} {v : Value} {p : List Pt} (h : Own B w v p) (o : Obj) : Own B (w.alloc o) v p := World.ownsRow.alloc h o
theorem Own.drew {B : Nat} {w : World} {v : Value} {p : List Pt} (h : Own B w v p) : Own B w.drew v p := h
theorem Own.grew {B : Nat} {W w : World} {v : Value} {p : List Pt} (h : Own B W v p) (g : Grew W w) : Own B w v p :=
  World.ownsRow.kept h (row := none) ⟨g.os, g.tape, g.output, g.size, fun k hk _ => g.block k hk⟩ (by cases hv : v.ownBlock <;> simp)
theorem Own.sl {B : Nat} {w : World} {v : Value} {p : List Pt} (h : Own B w v p) : Sl w v p := by
  by_cases h0 : p = []
  · subst h0
    rcases h.2 with ⟨rfl, _⟩ | ⟨g, cap, cur, rfl, _⟩
    · exact Or.inl ⟨rfl, none, 0, rfl⟩
    · exact Or.inl ⟨rfl, _, _, rfl⟩
  · have hc := fun g => World.ownsRow.cells (g := g) h
    rcases h.2 with ⟨_, h1⟩ | ⟨g, cap, cur, rfl, _, hg, _⟩
    · exact absurd (List.length_eq_zero_iff.1 h1) h0
    · refine Or.inr ⟨g, 0, cap, rfl, (Array.getElem?_eq_some_iff.1 hg).1, fun i hi => ?_⟩
      obtain ⟨a, b⟩ := cellsOf_at p i hi
      have ad : ∀ k, (⟨g, 0, none⟩ : Addr).add k = ⟨g, 0 + k, none⟩ := fun k => by
        unfold Addr.add
        split
        · rename_i e; subst e; rfl
        · rfl
      have k1 := hc g rfl _ _ a
      have k2 := hc g rfl _ _ b
      rw [ad] at k1 k2
      exact ⟨k1, k2⟩
/-! ### Steps of a region -/
theorem row_cells {w : World} {b o : Nat} {p : List Pt} (h : Row w b o p) : ∀ j u, (cellsOf p)[j]? = some u → w.cell? ((⟨b, o, none⟩ : Addr).add j) = some u := by
  intro j u hj
  have ad : ∀ k, (⟨b, o, none⟩ : Addr).add k = ⟨b, o + k, none⟩ := fun k => by
    unfold Addr.add
    split
    · rename_i e; subst e; rfl
    · rfl
  have hlt : j < p.length * 2 := by
    have h1 := (List.getElem?_eq_some_iff.1 hj).1
    rwa [cellsOf_len] at h1
  obtain ⟨a1, a2⟩ := cellsOf_at p (j / 2) (by omega)
  obtain ⟨c1, c2⟩ := h.2 (j / 2) (by omega)
  rw [ad]
  by_cases e : j % 2 = 0
  · have ej : j = j / 2 * 2 := by omega
    rw [ej] at hj ⊢
    rw [a1] at hj
    rw [c1]; exact hj
  · have ej : j = j / 2 * 2 + 1 := by omega
    have e1 : o + j = o + j / 2 * 2 + 1 := by omega
    rw [e1, c2]
    rw [ej, a2] at hj
    exact hj
theorem cells_one (p : List Pt) : ∀ u, u ∈ cellsOf p → u.oneCell' = true := by
  intro u hu
  unfold cellsOf at hu
  rw [List.mem_flatMap] at hu
  obtain ⟨x, _, hx⟩ := hu
  rcases List.mem_cons.1 hx with rfl | hx
  · rfl
  · rcases List.mem_cons.1 hx with rfl | hx
    · rfl
    · cases hx
end Hl
end Go.Proofs.YtcihkpjdjenbjaaDoor
namespace Go.Proofs.YtcihkpjdjenbjaaDoor
open Go.RowKit
namespace Hl
theorem Own.less {B B' : Nat} {w : World} {v : Value} {p : List Pt} (h : Own B w v p) (hb : B' ≤ B) : Own B' w v p := by
  obtain ⟨hl, h | ⟨g, cap, cur, e, h1, h2⟩⟩ := h
  · exact ⟨hl, Or.inl h⟩
  · exact ⟨hl, Or.inr ⟨g, cap, cur, e, Nat.le_trans hb h1, h2⟩⟩
/-- A slice of the call's own. -/
structure SlN (w w' : World) (v : Value) (p : List Pt) : Prop where
  own : Own w.heap.size w' v p
theorem SlN.sl {w w' : World} {v : Value} {p : List Pt} (h : SlN w w' v p) : Sl w' v p := h.own.sl
theorem SlN.new {w w' : World} {v : Value} {p : List Pt} (h : SlN w w' v p) : ∀ k, v.ownBlock = some k → w.heap.size ≤ k := fun k e => (World.ownsRow.lt h.own k e).1
theorem SlN.grown {w w1 w2 : World} {v : Value} {p : List Pt} (h : SlN w w1 v p) (g : Grew w1 w2) : SlN w w2 v p := ⟨h.own.grew g⟩
theorem SlN.later {w w1 w2 : World} {v : Value} {p : List Pt} (h : SlN w1 w2 v p) (g : Grew w w1) : SlN w w2 v p := ⟨h.own.less g.size⟩
def HullNew (l : List Pt) (w : World) (e : Ending) (w' : World) : Prop := ∃ q, IsHull l q ∧ ((q.length ≤ 64 ∧ ∃ v, e = .returned (.tuple #[v, .int .i64 0]) ∧ SlN w w' v q ∧ Grew w w') ∨ (64 < q.length ∧ Empty 2 w e w'))
def EightNew (p : List Pt) (w : World) (e : Ending) (w' : World) : Prop := ∃ q v, IsOct p q ∧ e = .returned (.tuple #[v, .int .i64 0]) ∧ SlN w w' v q ∧ Grew w w'
theorem HullNew.says {l : List Pt} {w : World} {e : Ending} {w' : World} (h : HullNew l w e w') : HullSays l w e w' := by
  obtain ⟨q, hq, ⟨h1, v, he, hs, g⟩ | h⟩ := h
  · exact ⟨q, hq, Or.inl ⟨h1, v, he, hs.sl, g⟩⟩
  · exact ⟨q, hq, Or.inr h⟩
theorem EightNew.says {p : List Pt} {w : World} {e : Ending} {w' : World} (h : EightNew p w e w') : EightSays p w e w' := by
  obtain ⟨q, v, hq, he, hs, g⟩ := h
  exact ⟨q, v, hq, he, hs.sl, g⟩
end Hl
end Go.Proofs.YtcihkpjdjenbjaaDoor
