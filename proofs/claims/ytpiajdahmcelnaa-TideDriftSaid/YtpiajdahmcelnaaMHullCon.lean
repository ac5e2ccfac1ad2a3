/-
  What package hull owes, a contract each, and what follows of it at the examples.
  The examples of chapter 3: what they are as points.
  The examples at the head of the statements about layer 3.
  A slice of points of the call's own, to which points are appended.
  What package hull owes besides: the slices that it hands back are new.
-/
import Derived.IntWalk
import Derived.Test.YtpiajdahmcelnaaMHullSl
import Derived.Laws.AppendOwn
namespace Go.Proofs.Ytpiajdahmcelnaa
open Go.RowKit
namespace Hl
/-- The bounds of points: the least and the greatest of u X + v Y. -/
def IsMin (p : List Pt) (u v m : Int) : Prop := (∃ x, x ∈ p ∧ u * x.1 + v * x.2 = m) ∧ ∀ x, x ∈ p → m ≤ u * x.1 + v * x.2
/-- The corners of the eight-sided hull, out of the bounds: X from a to b, Y from c to d, X + Y from s to t, X - Y from i to j. -/
def octL (a b c d s t i j : Int) : List Pt := [(b, b - j), (b, t - b), (t - d, d), (d + i, d), (a, a - i), (a, s - a), (s - c, c), (c + j, c)]
def IsOct (p q : List Pt) : Prop := ∃ a b c d s t i j : Int, IsMin p 1 0 a ∧ IsMin p (-1) 0 (-b) ∧ IsMin p 0 1 c ∧ IsMin p 0 (-1) (-d) ∧ IsMin p 1 1 s ∧ IsMin p (-1) (-1) (-t) ∧ IsMin p 1 (-1) i ∧ IsMin p (-1) 1 (-j) ∧ IsHull (octL a b c d s t i j) q
def IsBox (p : List Pt) (lo hi : Pt) : Prop := IsMin p 1 0 lo.1 ∧ IsMin p (-1) 0 (-hi.1) ∧ IsMin p 0 1 lo.2 ∧ IsMin p 0 (-1) (-hi.2)

def Empty (k : Int) (w : World) (e : Ending) (w' : World) : Prop := ∃ v, e = .returned (.tuple #[v, .int .i64 k]) ∧ Sl w' v [] ∧ Grew w w'
def HasSays (p : List Pt) (x : Pt) (w : World) (e : Ending) (w' : World) : Prop := ∃ r : Bool, e = .returned (.tuple #[.bool r, .int .i64 0]) ∧ (r = true ↔ Hs p x) ∧ Grew w w'
def HullSays (l : List Pt) (w : World) (e : Ending) (w' : World) : Prop := ∃ q, IsHull l q ∧ ((q.length ≤ 64 ∧ ∃ v, e = .returned (.tuple #[v, .int .i64 0]) ∧ Sl w' v q ∧ Grew w w') ∨ (64 < q.length ∧ Empty 2 w e w'))
def EightSays (p : List Pt) (w : World) (e : Ending) (w' : World) : Prop := ∃ q v, IsOct p q ∧ e = .returned (.tuple #[v, .int .i64 0]) ∧ Sl w' v q ∧ Grew w w'
def BoxSays (p : List Pt) (w : World) (e : Ending) (w' : World) : Prop := ∃ lo hi : Pt, IsBox p lo hi ∧ e = .returned (.tuple #[.agg #[.int .i64 lo.1, .int .i64 lo.2], .agg #[.int .i64 hi.1, .int .i64 hi.2], .int .i64 0]) ∧ Grew w w'

structure Code : Prop where
  valid : ∀ (p : List Pt) (v : Value) (w : World), Sl w v p → p.length ≤ 9223372036854775807 → Calls Try.prog 44 #[v] w (Tells (Vl p) w)
  has_ok : ∀ (p : List Pt) (x : Pt) (v : Value) (w : World), Sl w v p → Vl p → Plc x → Calls Try.prog 22 #[v, .agg #[.int .i64 x.1, .int .i64 x.2]] w (HasSays p x w)
  has_bad : ∀ (p : List Pt) (x : Pt) (v : Value) (w : World), Sl w v p → p.length ≤ 9223372036854775807 → ¬ (Vl p ∧ Plc x) → Calls Try.prog 22 #[v, .agg #[.int .i64 x.1, .int .i64 x.2]] w fun e w' => e = .returned (.tuple #[.bool false, .int .i64 1]) ∧ Grew w w'
  hull_big : ∀ (l : List Pt) (v : Value) (w : World), Sl w v l → l.length ≤ 9223372036854775807 → 4000 < l.length → Calls Try.prog 43 #[v] w (Empty 2 w)
  hull_bad : ∀ (l : List Pt) (v : Value) (w : World), Sl w v l → l.length ≤ 4000 → (l = [] ∨ ¬ Plcs l) → Calls Try.prog 43 #[v] w (Empty 1 w)
  hull_ok : ∀ (l : List Pt) (v : Value) (w : World), Sl w v l → l.length ≤ 4000 → l ≠ [] → Plcs l → Calls Try.prog 43 #[v] w (HullSays l w)
  box_ok : ∀ (p : List Pt) (v : Value) (w : World), Sl w v p → Vl p → Calls Try.prog 23 #[v] w (BoxSays p w)
  box_bad : ∀ (p : List Pt) (v : Value) (w : World), Sl w v p → p.length ≤ 9223372036854775807 → ¬ Vl p → Calls Try.prog 23 #[v] w fun e w' => e = .returned (.tuple #[.agg #[.int .i64 ((0, 0) : Pt).1, .int .i64 ((0, 0) : Pt).2], .agg #[.int .i64 ((0, 0) : Pt).1, .int .i64 ((0, 0) : Pt).2], .int .i64 1]) ∧ Grew w w'
/-! ### Points in a new block -/
def cellsOf (p : List Pt) : List Value := p.flatMap fun x => [.int .i64 x.1, .int .i64 x.2]
theorem cellsOf_at : ∀ (p : List Pt) (i : Nat), i < p.length → (cellsOf p)[i * 2]? = some (.int .i64 (at' p i).1) ∧ (cellsOf p)[i * 2 + 1]? = some (.int .i64 (at' p i).2)
  | [], i, h => absurd h (by simp)
  | x :: p, 0, _ => ⟨rfl, rfl⟩
  | x :: p, i + 1, h => by
    have ih := cellsOf_at p i (by simpa using h)
    have e1 : (i + 1) * 2 = i * 2 + 1 + 1 := by omega
    have e2 : at' (x :: p) (i + 1) = at' p i := rfl
    rw [e1, e2]
    exact ih
theorem row_new (p : List Pt) (cs : Array Value) (h : (cellsOf p).toArray = cs) (w : World) (t : TypeId) : Row (w.alloc (.cells cs t)) w.heap.size 0 p := by
  refine ⟨by simp, fun i hi => ?_⟩
  obtain ⟨a, b⟩ := cellsOf_at p i hi
  subst h
  have key : ∀ (j : Nat) (v : Value), (cellsOf p)[j]? = some v → (w.alloc (.cells (cellsOf p).toArray t)).cell? ⟨w.heap.size, 0 + j, none⟩ = some v := by
    intro j v hj
    simp [go_sem, hj]
  exact ⟨key _ _ a, by have := key _ _ b; rwa [← Nat.add_assoc] at this⟩
end Hl
end Go.Proofs.Ytpiajdahmcelnaa
namespace Go.Proofs.Ytpiajdahmcelnaa
open Go.RowKit
namespace Hl
def o4 : List Pt := [(0, 0), (4, 0), (5, 1), (1, 1)]
instance (a b : Pt) : Decidable (ls a b) := by unfold ls; infer_instance
theorem vl_of {p : List Pt} (h : Pg p) (hl : p.length ≤ 64) (hp : Plcs p) : Vl p := ⟨⟨h.1, hl⟩, hp, h.2.1, h.2.2⟩
theorem plcs_of {p : List Pt} (h : ∀ x, x ∈ p → Plc x) : Plcs p := fun _ hi => h _ (at_mem hi)
theorem IsMin.one {p : List Pt} {u v m m' : Int} (h : IsMin p u v m) (k : IsMin p u v m') : m = m' := by
  obtain ⟨⟨x, hx, e⟩, h2⟩ := h
  obtain ⟨⟨y, hy, e'⟩, k2⟩ := k
  have := h2 y hy
  have := k2 x hx
  omega
end Hl
end Go.Proofs.Ytpiajdahmcelnaa
namespace Go.Proofs.Ytpiajdahmcelnaa
open Go.RowKit
namespace Hl
theorem Sl.row {w : World} {v : Value} {p : List Pt} (h : Sl w v p) (hn : p ≠ []) : ∃ b o c, v = .slice (some ⟨b, o, none⟩) p.length c ∧ Row w b o p := by
  rcases h with ⟨h, _⟩ | h
  · exact absurd h hn
  · exact h
end Hl
end Go.Proofs.Ytpiajdahmcelnaa
namespace Go.Proofs.Ytpiajdahmcelnaa
open Go.RowKit
namespace Hl
theorem info_pt : (Try.prog.info? 30).map (fun i => (i.zero, i.size, i.bytes)) = some (some (.agg #[.int .i64 0, .int .i64 0]), 2, 16) := by kernel_rfl
/-- v is a slice of the call's own (in blocks from B on) that reads as p. -/
def Own (B : Nat) (w : World) (v : Value) (p : List Pt) : Prop := w.ownsRow B 30 2 v p.length (cellsOf p)
theorem cellsOf_len (p : List Pt) : (cellsOf p).length = p.length * 2 := by
  induction p with
  | nil => rfl
  | cons x p ih =>
    have e : cellsOf (x :: p) = [.int .i64 x.1, .int .i64 x.2] ++ cellsOf p := rfl
    rw [e, List.length_append, ih]
    simp
    omega
theorem cellsOf_append (p q : List Pt) : cellsOf (p ++ q) = cellsOf p ++ cellsOf q := by
  unfold cellsOf
  rw [List.flatMap_append]
theorem Own.nil (B : Nat) (w : World) : Own B w (.slice none 0 0) [] := World.ownsRow_nil w B _ 2
theorem Own.alloc {B : Nat} {w : World} {v : Value} {p : List Pt} (h : Own B w v p) (o : Obj) : Own B (w.alloc o) v p := World.ownsRow.alloc h o
theorem Own.drew {B : Nat} {w : World} {v : Value} {p : List Pt} (h : Own B w v p) : Own B w.drew v p := h
theorem Own.grew {B : Nat} {W w : World} {v : Value} {p : List Pt} (h : Own B W v p) (g : Grew W w) : Own B w v p :=
  World.ownsRow.kept h (row := none) ⟨g.os, g.tape, g.output, g.size, fun k hk _ => g.block k hk⟩ (by cases hv : v.ownBlock <;> simp)
theorem Own.sl {B : Nat} {w : World} {v : Value} {p : List Pt} (h : Own B w v p) : Sl w v p := by
  by_cases h0 : p = []
  · subst h0
    rcases h.2 with ⟨rfl, _⟩ | ⟨g, cap, cur, rfl, _⟩
    · exact Or.inl ⟨rfl, none, 0, rfl⟩
    · exact Or.inl ⟨rfl, _, _, rfl⟩
  · have hc := fun g => World.ownsRow.cells (g := g) h
    rcases h.2 with ⟨_, h1⟩ | ⟨g, cap, cur, rfl, _, hg, _⟩
    · exact absurd (List.length_eq_zero_iff.1 h1) h0
    · refine Or.inr ⟨g, 0, cap, rfl, (Array.getElem?_eq_some_iff.1 hg).1, fun i hi => ?_⟩
      obtain ⟨a, b⟩ := cellsOf_at p i hi
      have ad : ∀ k, (⟨g, 0, none⟩ : Addr).add k = ⟨g, 0 + k, none⟩ := fun k => by
        unfold Addr.add
        split
        · rename_i e; subst e; rfl
        · rfl
      have k1 := hc g rfl _ _ a
      have k2 := hc g rfl _ _ b
      rw [ad] at k1 k2
      exact ⟨k1, k2⟩
/-! ### Steps of a region -/
theorem row_cells {w : World} {b o : Nat} {p : List Pt} (h : Row w b o p) : ∀ j u, (cellsOf p)[j]? = some u → w.cell? ((⟨b, o, none⟩ : Addr).add j) = some u := by
  intro j u hj
  have ad : ∀ k, (⟨b, o, none⟩ : Addr).add k = ⟨b, o + k, none⟩ := fun k => by
    unfold Addr.add
    split
    · rename_i e; subst e; rfl
    · rfl
  have hlt : j < p.length * 2 := by
    have h1 := (List.getElem?_eq_some_iff.1 hj).1
    rwa [cellsOf_len] at h1
  obtain ⟨a1, a2⟩ := cellsOf_at p (j / 2) (by omega)
  obtain ⟨c1, c2⟩ := h.2 (j / 2) (by omega)
  rw [ad]
  by_cases e : j % 2 = 0
  · have ej : j = j / 2 * 2 := by omega
    rw [ej] at hj ⊢
    rw [a1] at hj
    rw [c1]; exact hj
  · have ej : j = j / 2 * 2 + 1 := by omega
    have e1 : o + j = o + j / 2 * 2 + 1 := by omega
    rw [e1, c2]
    rw [ej, a2] at hj
    exact hj
theorem cells_one (p : List Pt) : ∀ u, u ∈ cellsOf p → u.oneCell' = true := by
  intro u hu
  unfold cellsOf at hu
  rw [List.mem_flatMap] at hu
  obtain ⟨x, _, hx⟩ := hu
  rcases List.mem_cons.1 hx with rfl | hx
  · rfl
  · rcases List.mem_cons.1 hx with rfl | hx
    · rfl
    · cases hx
end Hl
end Go.Proofs.Ytpiajdahmcelnaa
namespace Go.Proofs.Ytpiajdahmcelnaa
open Go.RowKit
namespace Hl
theorem Own.less {B B' : Nat} {w : World} {v : Value} {p : List Pt} (h : Own B w v p) (hb : B' ≤ B) : Own B' w v p := by
  obtain ⟨hl, h | ⟨g, cap, cur, e, h1, h2⟩⟩ := h
  · exact ⟨hl, Or.inl h⟩
  · exact ⟨hl, Or.inr ⟨g, cap, cur, e, Nat.le_trans hb h1, h2⟩⟩
/-- A slice of the call's own. -/
structure SlN (w w' : World) (v : Value) (p : List Pt) : Prop where
  own : Own w.heap.size w' v p
theorem SlN.sl {w w' : World} {v : Value} {p : List Pt} (h : SlN w w' v p) : Sl w' v p := h.own.sl
theorem SlN.new {w w' : World} {v : Value} {p : List Pt} (h : SlN w w' v p) : ∀ k, v.ownBlock = some k → w.heap.size ≤ k := fun k e => (World.ownsRow.lt h.own k e).1
theorem SlN.grown {w w1 w2 : World} {v : Value} {p : List Pt} (h : SlN w w1 v p) (g : Grew w1 w2) : SlN w w2 v p := ⟨h.own.grew g⟩
def HullNew (l : List Pt) (w : World) (e : Ending) (w' : World) : Prop := ∃ q, IsHull l q ∧ ((q.length ≤ 64 ∧ ∃ v, e = .returned (.tuple #[v, .int .i64 0]) ∧ SlN w w' v q ∧ Grew w w') ∨ (64 < q.length ∧ Empty 2 w e w'))
def EightNew (p : List Pt) (w : World) (e : Ending) (w' : World) : Prop := ∃ q v, IsOct p q ∧ e = .returned (.tuple #[v, .int .i64 0]) ∧ SlN w w' v q ∧ Grew w w'
theorem HullNew.says {l : List Pt} {w : World} {e : Ending} {w' : World} (h : HullNew l w e w') : HullSays l w e w' := by
  obtain ⟨q, hq, ⟨h1, v, he, hs, g⟩ | h⟩ := h
  · exact ⟨q, hq, Or.inl ⟨h1, v, he, hs.sl, g⟩⟩
  · exact ⟨q, hq, Or.inr h⟩
theorem EightNew.says {p : List Pt} {w : World} {e : Ending} {w' : World} (h : EightNew p w e w') : EightSays p w e w' := by
  obtain ⟨q, v, hq, he, hs, g⟩ := h
  exact ⟨q, v, hq, he, hs.sl, g⟩
end Hl
end Go.Proofs.Ytpiajdahmcelnaa
