/-
  Boxes of rows: a row in a block of its own; what a region keeps of two of them.
-/
import Derived.Test.YthdoobgellaheaaTbHead
namespace Go.Proofs.Ythdoobgellaheaa
open Go.RowKit Wd
namespace Tb
/-- A row in a block of its own. -/
def Bx (W : World) (B : Nat) (r : Rw) : Prop := W.heap[B]? = some (.cells #[.int .i64 r.lo, .int .i64 r.hi, .int .i64 r.age, .int .i64 r.since, .int .i64 r.part, .int .i64 r.turn] 32 (0, 0))
theorem Bx.lt {W : World} {B : Nat} {r : Rw} (h : Bx W B r) : B < W.heap.size := (Array.getElem?_eq_some_iff.1 h).1
theorem Bx.grew {W W' : World} {B : Nat} {r : Rw} (h : Bx W B r) (g : Grew W W') : Bx W' B r := (g.block B h.lt).trans h
theorem Bx.drew {W : World} {B : Nat} {r : Rw} (h : Bx W B r) : Bx W.drew B r := h
theorem Bx.new (W : World) (r : Rw) : Bx (W.alloc (.cells #[.int .i64 r.lo, .int .i64 r.hi, .int .i64 r.age, .int .i64 r.since, .int .i64 r.part, .int .i64 r.turn] 32)) W.heap.size r := heap_alloc_new W _
theorem Bx.cells {W : World} {B : Nat} {r : Rw} (h : Bx W B r) : W.cell? ⟨B, 0, none⟩ = some (.int .i64 r.lo) ∧ W.cell? ⟨B, 1, none⟩ = some (.int .i64 r.hi) ∧ W.cell? ⟨B, 2, none⟩ = some (.int .i64 r.age) ∧ W.cell? ⟨B, 3, none⟩ = some (.int .i64 r.since) ∧ W.cell? ⟨B, 4, none⟩ = some (.int .i64 r.part) ∧ W.cell? ⟨B, 5, none⟩ = some (.int .i64 r.turn) := by simp [World.cell?, show W.heap[B]? = _ from h]
theorem Bx.frozen {W : World} {B : Nat} {r : Rw} (h : Bx W B r) : W.frozen? ⟨B, 0, none⟩ = false ∧ W.frozen? ⟨B, 1, none⟩ = false := by simp [World.frozen?, show W.heap[B]? = _ from h]
theorem Bx.other {W : World} {B B' o : Nat} {r : Rw} (h : Bx W B r) (hne : B ≠ B') (u : Value) : Bx (W.setCell ⟨B', o, none⟩ u) B r := (Below.heap_setCell _ _ _ B hne).trans h
theorem Bx.set {W : World} {B o : Nat} {cs : Array Value} {t : TypeId} (v : Value) (h : W.heap[B]? = some (.cells cs t (0, 0))) : (W.setCell ⟨B, o, none⟩ v).heap[B]? = some (.cells (cs.setIfInBounds o v) t (0, 0)) := by
  obtain ⟨hlt, hk⟩ := Array.getElem?_eq_some_iff.1 h
  show (W.heap.modify B _)[B]? = _
  rw [Array.getElem?_eq_getElem (by rw [Array.size_modify]; exact hlt), Array.getElem_modify_self, hk]
  rfl
theorem Bx.hi {W : World} {B : Nat} {r : Rw} (h : Bx W B r) (c : Int) : Bx (W.setCell ⟨B, 1, none⟩ (.int .i64 c)) B (lower r c) := Bx.set (o := 1) _ h
theorem Bx.lo {W : World} {B : Nat} {r : Rw} (h : Bx W B r) (c : Int) : Bx (W.setCell ⟨B, 0, none⟩ (.int .i64 (c + 1))) B (upper r c) := Bx.set (o := 0) _ h
/-- What a region keeps of two boxes. -/
theorem keep_two {V X W : World} {B1 B2 : Nat} {x y : Rw} (h : ((X.cell? ⟨B1, 0, none⟩ = some (.int .i64 x.lo) ∧ X.cell? ⟨B1, 1, none⟩ = some (.int .i64 x.hi) ∧ X.cell? ⟨B1, 2, none⟩ = some (.int .i64 x.age) ∧ X.cell? ⟨B1, 3, none⟩ = some (.int .i64 x.since) ∧ X.cell? ⟨B1, 4, none⟩ = some (.int .i64 x.part) ∧ X.cell? ⟨B1, 5, none⟩ = some (.int .i64 x.turn)) ∧ (X.cell? ⟨B2, 0, none⟩ = some (.int .i64 y.lo) ∧ X.cell? ⟨B2, 1, none⟩ = some (.int .i64 y.hi) ∧ X.cell? ⟨B2, 2, none⟩ = some (.int .i64 y.age) ∧ X.cell? ⟨B2, 3, none⟩ = some (.int .i64 y.since) ∧ X.cell? ⟨B2, 4, none⟩ = some (.int .i64 y.part) ∧ X.cell? ⟨B2, 5, none⟩ = some (.int .i64 y.turn))) ∧ Grew V X) (g : Grew X W) : ((W.cell? ⟨B1, 0, none⟩ = some (.int .i64 x.lo) ∧ W.cell? ⟨B1, 1, none⟩ = some (.int .i64 x.hi) ∧ W.cell? ⟨B1, 2, none⟩ = some (.int .i64 x.age) ∧ W.cell? ⟨B1, 3, none⟩ = some (.int .i64 x.since) ∧ W.cell? ⟨B1, 4, none⟩ = some (.int .i64 x.part) ∧ W.cell? ⟨B1, 5, none⟩ = some (.int .i64 x.turn)) ∧ (W.cell? ⟨B2, 0, none⟩ = some (.int .i64 y.lo) ∧ W.cell? ⟨B2, 1, none⟩ = some (.int .i64 y.hi) ∧ W.cell? ⟨B2, 2, none⟩ = some (.int .i64 y.age) ∧ W.cell? ⟨B2, 3, none⟩ = some (.int .i64 y.since) ∧ W.cell? ⟨B2, 4, none⟩ = some (.int .i64 y.part) ∧ W.cell? ⟨B2, 5, none⟩ = some (.int .i64 y.turn))) ∧ Grew V W := by
  obtain ⟨⟨⟨a0, a1, a2, a3, a4, a5⟩, ⟨b0, b1, b2, b3, b4, b5⟩⟩, hg⟩ := h
  have l1 := World.block_lt_of_cell? X _ a0
  have l2 := World.block_lt_of_cell? X _ b0
  exact ⟨⟨⟨(g.cell l1).trans a0, (g.cell l1).trans a1, (g.cell l1).trans a2, (g.cell l1).trans a3, (g.cell l1).trans a4, (g.cell l1).trans a5⟩,
    ⟨(g.cell l2).trans b0, (g.cell l2).trans b1, (g.cell l2).trans b2, (g.cell l2).trans b3, (g.cell l2).trans b4, (g.cell l2).trans b5⟩⟩, hg.trans g⟩
theorem keep_drew {V X : World} {B1 B2 : Nat} {x y : Rw} (h : ((X.cell? ⟨B1, 0, none⟩ = some (.int .i64 x.lo) ∧ X.cell? ⟨B1, 1, none⟩ = some (.int .i64 x.hi) ∧ X.cell? ⟨B1, 2, none⟩ = some (.int .i64 x.age) ∧ X.cell? ⟨B1, 3, none⟩ = some (.int .i64 x.since) ∧ X.cell? ⟨B1, 4, none⟩ = some (.int .i64 x.part) ∧ X.cell? ⟨B1, 5, none⟩ = some (.int .i64 x.turn)) ∧ (X.cell? ⟨B2, 0, none⟩ = some (.int .i64 y.lo) ∧ X.cell? ⟨B2, 1, none⟩ = some (.int .i64 y.hi) ∧ X.cell? ⟨B2, 2, none⟩ = some (.int .i64 y.age) ∧ X.cell? ⟨B2, 3, none⟩ = some (.int .i64 y.since) ∧ X.cell? ⟨B2, 4, none⟩ = some (.int .i64 y.part) ∧ X.cell? ⟨B2, 5, none⟩ = some (.int .i64 y.turn))) ∧ Grew V X) : ((X.drew.cell? ⟨B1, 0, none⟩ = some (.int .i64 x.lo) ∧ X.drew.cell? ⟨B1, 1, none⟩ = some (.int .i64 x.hi) ∧ X.drew.cell? ⟨B1, 2, none⟩ = some (.int .i64 x.age) ∧ X.drew.cell? ⟨B1, 3, none⟩ = some (.int .i64 x.since) ∧ X.drew.cell? ⟨B1, 4, none⟩ = some (.int .i64 x.part) ∧ X.drew.cell? ⟨B1, 5, none⟩ = some (.int .i64 x.turn)) ∧ (X.drew.cell? ⟨B2, 0, none⟩ = some (.int .i64 y.lo) ∧ X.drew.cell? ⟨B2, 1, none⟩ = some (.int .i64 y.hi) ∧ X.drew.cell? ⟨B2, 2, none⟩ = some (.int .i64 y.age) ∧ X.drew.cell? ⟨B2, 3, none⟩ = some (.int .i64 y.since) ∧ X.drew.cell? ⟨B2, 4, none⟩ = some (.int .i64 y.part) ∧ X.drew.cell? ⟨B2, 5, none⟩ = some (.int .i64 y.turn))) ∧ Grew V X.drew := keep_two h (Grew.refl X).drew
theorem keep_alloc {V X : World} {B1 B2 : Nat} {x y : Rw} (h : ((X.cell? ⟨B1, 0, none⟩ = some (.int .i64 x.lo) ∧ X.cell? ⟨B1, 1, none⟩ = some (.int .i64 x.hi) ∧ X.cell? ⟨B1, 2, none⟩ = some (.int .i64 x.age) ∧ X.cell? ⟨B1, 3, none⟩ = some (.int .i64 x.since) ∧ X.cell? ⟨B1, 4, none⟩ = some (.int .i64 x.part) ∧ X.cell? ⟨B1, 5, none⟩ = some (.int .i64 x.turn)) ∧ (X.cell? ⟨B2, 0, none⟩ = some (.int .i64 y.lo) ∧ X.cell? ⟨B2, 1, none⟩ = some (.int .i64 y.hi) ∧ X.cell? ⟨B2, 2, none⟩ = some (.int .i64 y.age) ∧ X.cell? ⟨B2, 3, none⟩ = some (.int .i64 y.since) ∧ X.cell? ⟨B2, 4, none⟩ = some (.int .i64 y.part) ∧ X.cell? ⟨B2, 5, none⟩ = some (.int .i64 y.turn))) ∧ Grew V X) (c : Array Value) (t : TypeId) : (((X.alloc (.cells c t)).cell? ⟨B1, 0, none⟩ = some (.int .i64 x.lo) ∧ (X.alloc (.cells c t)).cell? ⟨B1, 1, none⟩ = some (.int .i64 x.hi) ∧ (X.alloc (.cells c t)).cell? ⟨B1, 2, none⟩ = some (.int .i64 x.age) ∧ (X.alloc (.cells c t)).cell? ⟨B1, 3, none⟩ = some (.int .i64 x.since) ∧ (X.alloc (.cells c t)).cell? ⟨B1, 4, none⟩ = some (.int .i64 x.part) ∧ (X.alloc (.cells c t)).cell? ⟨B1, 5, none⟩ = some (.int .i64 x.turn)) ∧ ((X.alloc (.cells c t)).cell? ⟨B2, 0, none⟩ = some (.int .i64 y.lo) ∧ (X.alloc (.cells c t)).cell? ⟨B2, 1, none⟩ = some (.int .i64 y.hi) ∧ (X.alloc (.cells c t)).cell? ⟨B2, 2, none⟩ = some (.int .i64 y.age) ∧ (X.alloc (.cells c t)).cell? ⟨B2, 3, none⟩ = some (.int .i64 y.since) ∧ (X.alloc (.cells c t)).cell? ⟨B2, 4, none⟩ = some (.int .i64 y.part) ∧ (X.alloc (.cells c t)).cell? ⟨B2, 5, none⟩ = some (.int .i64 y.turn))) ∧ Grew V (X.alloc (.cells c t)) := keep_two h ((Grew.refl X).alloc c t)
theorem keep_own {V W : World} {B1 B2 : Nat} {x y : Rw} (h1 : Bx V B1 x) (h2 : Bx V B2 y) (g : Grew V W) : ((W.cell? ⟨B1, 0, none⟩ = some (.int .i64 x.lo) ∧ W.cell? ⟨B1, 1, none⟩ = some (.int .i64 x.hi) ∧ W.cell? ⟨B1, 2, none⟩ = some (.int .i64 x.age) ∧ W.cell? ⟨B1, 3, none⟩ = some (.int .i64 x.since) ∧ W.cell? ⟨B1, 4, none⟩ = some (.int .i64 x.part) ∧ W.cell? ⟨B1, 5, none⟩ = some (.int .i64 x.turn)) ∧ (W.cell? ⟨B2, 0, none⟩ = some (.int .i64 y.lo) ∧ W.cell? ⟨B2, 1, none⟩ = some (.int .i64 y.hi) ∧ W.cell? ⟨B2, 2, none⟩ = some (.int .i64 y.age) ∧ W.cell? ⟨B2, 3, none⟩ = some (.int .i64 y.since) ∧ W.cell? ⟨B2, 4, none⟩ = some (.int .i64 y.part) ∧ W.cell? ⟨B2, 5, none⟩ = some (.int .i64 y.turn))) ∧ Grew V W := ⟨⟨(h1.grew g).cells, (h2.grew g).cells⟩, g⟩
/-- Two rows as cells that are new. -/
theorem rs_two (w : World) (x y : Rw) : Rs (w.alloc (.cells #[.int .i64 x.lo, .int .i64 x.hi, .int .i64 x.age, .int .i64 x.since, .int .i64 x.part, .int .i64 x.turn, .int .i64 y.lo, .int .i64 y.hi, .int .i64 y.age, .int .i64 y.since, .int .i64 y.part, .int .i64 y.turn] 32)) (.slice (some ⟨w.heap.size, 0, none⟩) 2 2) [x, y] := rs_new w [x, y] (by simp)
/-- What an append of one's own leaves of another row. -/
theorem Rs.apart {W W' : World} {u v : Value} {m : List Rw} {b n c : Nat} (h : Rs W u m) (hu : u = .slice (some ⟨b, 0, none⟩) n c) (g : W.grownBy W' v.ownBlock) (hv : v.ownBlock ≠ some b) : Rs W' u m := by
  refine h.kept g fun _ b' o' n' c' e => ?_
  rw [hu] at e
  injection e with e1 e2 e3
  injection e1 with e1
  injection e1 with e1 e4 e5
  subst e1
  exact fun k => hv k.symm
theorem made_next (w : World) (c : Array Value) : Ow w.heap.size ((w.alloc (.cells c 32)).alloc (.cells #[] 32)) (.slice (some ⟨w.heap.size + 1, 0, none⟩) 0 0) [] := by
  have h := World.ownsRow_made (w.alloc (.cells c 32)) (base := w.heap.size) (e := 32) (size := 6) #[] 0 (by rw [World.size_alloc]; omega) (Nat.zero_le _) rfl
  rw [World.size_alloc] at h
  exact h
theorem rx_b (V : World) (x y : Rw) {w' : World} (gr : ((V.drew.alloc (.cells #[] 32)).alloc (.cells #[.int .i64 x.lo, .int .i64 x.hi, .int .i64 x.age, .int .i64 x.since, .int .i64 x.part, .int .i64 x.turn, .int .i64 y.lo, .int .i64 y.hi, .int .i64 y.age, .int .i64 y.since, .int .i64 y.part, .int .i64 y.turn] 32)).grownBy w' (Value.slice (some ⟨V.heap.size, 0, none⟩) 0 0).ownBlock) : Rs w' (.slice (some ⟨V.heap.size + 1, 0, none⟩) 2 2) [x, y] := by
  have h := rs_two (V.drew.alloc (.cells #[] 32)) x y
  rw [World.size_alloc] at h
  exact h.apart rfl gr (by simp [Value.ownBlock])
theorem rx_c (V : World) (x y : Rw) {w' : World} (gr : ((V.drew.alloc (.cells #[.int .i64 x.lo, .int .i64 x.hi, .int .i64 x.age, .int .i64 x.since, .int .i64 x.part, .int .i64 x.turn, .int .i64 y.lo, .int .i64 y.hi, .int .i64 y.age, .int .i64 y.since, .int .i64 y.part, .int .i64 y.turn] 32)).alloc (.cells #[] 32)).grownBy w' (Value.slice (some ⟨V.heap.size + 1, 0, none⟩) 0 0).ownBlock) : Rs w' (.slice (some ⟨V.heap.size, 0, none⟩) 2 2) [x, y] :=
  ((rs_two V.drew x y).grew (Grew.alloc (Grew.refl _) _ _)).apart rfl gr (by simp [Value.ownBlock])
/-- The rows that lie new beside an own slice. -/
theorem first_grew {V W w' : World} {v : Value} {m : List Rw} (h : Ow V.heap.size W v m) {c : Array Value} {X : World} (hg : X.grownBy w' v.ownBlock) (g : Grew V W) (hX : X = W ∨ X = W.alloc (.cells c 32)) : Grew V w' := by
  rcases hX with rfl | rfl
  · exact h.app_grew hg (Nat.le_refl _) g
  · exact (h.grew (Grew.alloc (Grew.refl _) _ _)).app_grew hg (Nat.le_refl _) (g.alloc _ _)
end Tb
end Go.Proofs.Ythdoobgellaheaa
