/-
  A slice of points of the call's own, to which points are appended.
  What package hull owes besides: the slices that it hands back are new.
  The landed package tide: Bound and At, whatever the input; Drift.
-/
import Derived.Laws.AppendOwn
import Derived.Test.YtpiajdahmcelnaaGreatMHullCon
import Derived.Test.YtpiajdahmcelnaaGreatMTdJ
namespace Go.Proofs.YtpiajdahmcelnaaGreat
open Go.RowKit
namespace Hl
theorem info_pt : (Tryz.prog.info? 30).map (fun i => (i.zero, i.size, i.bytes)) = some (some (.agg #[.int .i64 0, .int .i64 0]), 2, 16) := by kernel_rfl
/-- v is a slice of the call's own (in blocks from B on) that reads as p. -/
def Own (B : Nat) (w : World) (v : Value) (p : List Pt) : Prop := w.ownsRow B 30 2 v p.length (cellsOf p)
theorem cellsOf_len (p : List Pt) : (cellsOf p).length = p.length * 2 := by
  induction p with
  | nil => rfl
  | cons x p ih =>
    have e : cellsOf (x :: p) = [.int .i64 x.1, .int .i64 x.2] ++ cellsOf p := rfl
    rw [e, List.length_append, ih]
    simp
    omega
theorem cellsOf_append (p q : List Pt) : cellsOf (p ++ q) = cellsOf p ++ cellsOf q := by
  unfold cellsOf
  rw [List.flatMap_append]
theorem Own.nil (B : Nat) (w : World) : Own B w (.slice none 0 0) [] := World.ownsRow_nil w B _ 2
theorem Own.alloc {B : Nat} {w : World} {v : Value} {p : List Pt} (h : Own B w v p) (o : Obj) : Own B (w.alloc o) v p := World.ownsRow.alloc h o
theorem Own.drew {B : Nat} {w : World} {v : Value} {p : List Pt} (h : Own B w v p) : Own B w.drew v p := h
theorem Own.grew {B : Nat} {W w : World} {v : Value} {p : List Pt} (h : Own B W v p) (g : Grew W w) : Own B w v p :=
  World.ownsRow.kept h (row := none) ⟨g.os, g.tape, g.output, g.size, fun k hk _ => g.block k hk⟩ (by cases hv : v.ownBlock <;> simp)
theorem Own.sl {B : Nat} {w : World} {v : Value} {p : List Pt} (h : Own B w v p) : Sl w v p := by
  by_cases h0 : p = []
  · subst h0
    rcases h.2 with ⟨rfl, _⟩ | ⟨g, cap, cur, rfl, _⟩
    · exact Or.inl ⟨rfl, none, 0, rfl⟩
    · exact Or.inl ⟨rfl, _, _, rfl⟩
  · have hc := fun g => World.ownsRow.cells (g := g) h
    rcases h.2 with ⟨_, h1⟩ | ⟨g, cap, cur, rfl, _, hg, _⟩
    · exact absurd (List.length_eq_zero_iff.1 h1) h0
    · refine Or.inr ⟨g, 0, cap, rfl, (Array.getElem?_eq_some_iff.1 hg).1, fun i hi => ?_⟩
      obtain ⟨a, b⟩ := cellsOf_at p i hi
      have ad : ∀ k, (⟨g, 0, none⟩ : Addr).add k = ⟨g, 0 + k, none⟩ := fun k => by
        unfold Addr.add
        split
        · rename_i e; subst e; rfl
        · rfl
      have k1 := hc g rfl _ _ a
      have k2 := hc g rfl _ _ b
      rw [ad] at k1 k2
      exact ⟨k1, k2⟩
/-! ### Steps of a region -/
theorem row_cells {w : World} {b o : Nat} {p : List Pt} (h : Row w b o p) : ∀ j u, (cellsOf p)[j]? = some u → w.cell? ((⟨b, o, none⟩ : Addr).add j) = some u := by
  intro j u hj
  have ad : ∀ k, (⟨b, o, none⟩ : Addr).add k = ⟨b, o + k, none⟩ := fun k => by
    unfold Addr.add
    split
    · rename_i e; subst e; rfl
    · rfl
  have hlt : j < p.length * 2 := by
    have h1 := (List.getElem?_eq_some_iff.1 hj).1
    rwa [cellsOf_len] at h1
  obtain ⟨a1, a2⟩ := cellsOf_at p (j / 2) (by omega)
  obtain ⟨c1, c2⟩ := h.2 (j / 2) (by omega)
  rw [ad]
  by_cases e : j % 2 = 0
  · have ej : j = j / 2 * 2 := by omega
    rw [ej] at hj ⊢
    rw [a1] at hj
    rw [c1]; exact hj
  · have ej : j = j / 2 * 2 + 1 := by omega
    have e1 : o + j = o + j / 2 * 2 + 1 := by omega
    rw [e1, c2]
    rw [ej, a2] at hj
    exact hj
theorem cells_one (p : List Pt) : ∀ u, u ∈ cellsOf p → u.oneCell' = true := by
  intro u hu
  unfold cellsOf at hu
  rw [List.mem_flatMap] at hu
  obtain ⟨x, _, hx⟩ := hu
  rcases List.mem_cons.1 hx with rfl | hx
  · rfl
  · rcases List.mem_cons.1 hx with rfl | hx
    · rfl
    · cases hx
end Hl
end Go.Proofs.YtpiajdahmcelnaaGreat
namespace Go.Proofs.YtpiajdahmcelnaaGreat
open Go.RowKit
namespace Hl
theorem Own.less {B B' : Nat} {w : World} {v : Value} {p : List Pt} (h : Own B w v p) (hb : B' ≤ B) : Own B' w v p := by
  obtain ⟨hl, h | ⟨g, cap, cur, e, h1, h2⟩⟩ := h
  · exact ⟨hl, Or.inl h⟩
  · exact ⟨hl, Or.inr ⟨g, cap, cur, e, Nat.le_trans hb h1, h2⟩⟩
/-- A slice of the call's own. -/
structure SlN (w w' : World) (v : Value) (p : List Pt) : Prop where
  own : Own w.heap.size w' v p
theorem SlN.sl {w w' : World} {v : Value} {p : List Pt} (h : SlN w w' v p) : Sl w' v p := h.own.sl
theorem SlN.new {w w' : World} {v : Value} {p : List Pt} (h : SlN w w' v p) : ∀ k, v.ownBlock = some k → w.heap.size ≤ k := fun k e => (World.ownsRow.lt h.own k e).1
theorem SlN.grown {w w1 w2 : World} {v : Value} {p : List Pt} (h : SlN w w1 v p) (g : Grew w1 w2) : SlN w w2 v p := ⟨h.own.grew g⟩
def HullNew (l : List Pt) (w : World) (e : Ending) (w' : World) : Prop := ∃ q, IsHull l q ∧ ((q.length ≤ 64 ∧ ∃ v, e = .returned (.tuple #[v, .int .i64 0]) ∧ SlN w w' v q ∧ Grew w w') ∨ (64 < q.length ∧ Empty 2 w e w'))
def EightNew (p : List Pt) (w : World) (e : Ending) (w' : World) : Prop := ∃ q v, IsOct p q ∧ e = .returned (.tuple #[v, .int .i64 0]) ∧ SlN w w' v q ∧ Grew w w'
theorem HullNew.says {l : List Pt} {w : World} {e : Ending} {w' : World} (h : HullNew l w e w') : HullSays l w e w' := by
  obtain ⟨q, hq, ⟨h1, v, he, hs, g⟩ | h⟩ := h
  · exact ⟨q, hq, Or.inl ⟨h1, v, he, hs.sl, g⟩⟩
  · exact ⟨q, hq, Or.inr h⟩
theorem EightNew.says {p : List Pt} {w : World} {e : Ending} {w' : World} (h : EightNew p w e w') : EightSays p w e w' := by
  obtain ⟨q, v, hq, he, hs, g⟩ := h
  exact ⟨q, v, hq, he, hs.sl, g⟩
end Hl
end Go.Proofs.YtpiajdahmcelnaaGreat
namespace Go.Proofs.YtpiajdahmcelnaaGreat
open Go.RowKit Hl
namespace Td
set_option maxRecDepth 100000
open Classical in
/-- What Bound answers: the bounds, and the error. -/
noncomputable def bA (t : Ed) (lo hi : Pt) (c d : Int) : Bd × Int := if BOk t lo hi c d then (OvB t lo hi c d, 0) else (f0.k, 1)
theorem bA_yes {t : Ed} {lo hi : Pt} {c d : Int} (h : BOk t lo hi c d) : bA t lo hi c d = (OvB t lo hi c d, 0) := by unfold bA; rw [if_pos h]
theorem bA_no {t : Ed} {lo hi : Pt} {c d : Int} (h : ¬ BOk t lo hi c d) : bA t lo hi c d = (f0.k, 1) := by unfold bA; rw [if_neg h]
theorem bound_c (K : Hl.Code) (t : Ed) (u : Value) (lo hi : Pt) (c d : Int) (w : World) (hs : Rs w u t.l) (hl : t.l.length ≤ 9223372036854775807) :
    Calls Tryz.prog 10 #[tv t u, .agg #[.int .i64 lo.1, .int .i64 lo.2], .agg #[.int .i64 hi.1, .int .i64 hi.2], .int .i64 c, .int .i64 d] w fun e w' => e = .returned (.tuple #[.agg #[.int .i64 0, .int .i64 0, .int .i64 0, .int .i64 (bA t lo hi c d).1.a, .int .i64 (bA t lo hi c d).1.b, .int .i64 (bA t lo hi c d).1.c, .int .i64 (bA t lo hi c d).1.d, .int .i64 (bA t lo hi c d).1.e, .int .i64 (bA t lo hi c d).1.f], .int .i64 (bA t lo hi c d).2]) ∧ Grew w w' := by
  by_cases h : BOk t lo hi c d
  · rw [bA_yes h]
    obtain ⟨k, rfl, hk⟩ := bound_ok K t u lo hi c d w hs h.1 h.2.1 h.2.2
    exact hk
  · rw [bA_no h]
    exact bound_bad K t u lo hi c d w hs hl h
set_option maxHeartbeats 4000000 in
theorem at_c (K : Hl.Code) (t : Ed) (u : Value) (x : Pt) (c : Int) (w : World) (hs : Rs w u t.l) (hl : t.l.length ≤ 9223372036854775807) :
    Calls Tryz.prog 6 #[tv t u, .agg #[.int .i64 x.1, .int .i64 x.2], .int .i64 c] w fun e w' => e = .returned (.tuple #[.agg #[.int .i64 0, .int .i64 0, .int .i64 0, .int .i64 (bA t x x c c).1.a, .int .i64 (bA t x x c c).1.b, .int .i64 (bA t x x c c).1.c, .int .i64 (bA t x x c c).1.d, .int .i64 (bA t x x c c).1.e, .int .i64 (bA t x x c c).1.f], .int .i64 (bA t x x c c).2]) ∧ Grew w w' := by
  have BC : Hid (∀ W, Grew w W → Calls Tryz.prog 10 #[tv t u, .agg #[.int .i64 x.1, .int .i64 x.2], .agg #[.int .i64 x.1, .int .i64 x.2], .int .i64 c, .int .i64 c] W fun e w' => e = .returned (.tuple #[.agg #[.int .i64 0, .int .i64 0, .int .i64 0, .int .i64 (bA t x x c c).1.a, .int .i64 (bA t x x c c).1.b, .int .i64 (bA t x x c c).1.c, .int .i64 (bA t x x c c).1.d, .int .i64 (bA t x x c c).1.e, .int .i64 (bA t x x c c).1.f], .int .i64 (bA t x x c c).2]) ∧ Grew W w') := Lib.hid (fun W g => bound_c K t u x x c c W (hs.grew g) hl)
  generalize bA t x x c c = A at *
  obtain ⟨⟨ka, kb, kc, kd, ke, kf⟩, e0⟩ := A
  simp only at BC ⊢
  unfold tv at BC ⊢
  clear K hs
  have RB : Hid (∀ W, Grew (((w.alloc (.cells #[.int .i64 t.v, .int .i64 t.z, .int .i64 t.n, .int .i64 t.r.x, .int .i64 t.r.y, .int .i64 t.r.s, .int .i64 t.r.k.a, .int .i64 t.r.k.b, .int .i64 t.r.k.c, .int .i64 t.r.k.d, .int .i64 t.r.k.e, .int .i64 t.r.k.f, u] 28)).alloc (.cells #[.int .i64 x.1, .int .i64 x.2] 30)).alloc (.cells #[.int .i64 0, .int .i64 0, .int .i64 0, .int .i64 0, .int .i64 0, .int .i64 0, .int .i64 0, .int .i64 0, .int .i64 0] 25)) W → Blk W (w.heap.size + 1 + 1) #[.int .i64 0, .int .i64 0, .int .i64 0, .int .i64 0, .int .i64 0, .int .i64 0, .int .i64 0, .int .i64 0, .int .i64 0] 25) := Lib.hid (fun W g => (blkN (by simp)).grown g)
  go_enter Tryz.func6, Tryz.ntmps6
  go_wp2_with fail
  refine (BC.out _ (by (repeat' (first | (with_reducible exact Grew.refl _) | (with_reducible assumption) | (with_reducible refine Grew.alloc ?_ _ _) | (with_reducible refine Grew.drew ?_) | (with_reducible refine Grew.drewN ?_ _) | (with_reducible refine Grew.setCell ?_ ?_ _) | go_size)))).mono ?_
  rintro e w1 ⟨rfl, g1⟩
  have RK1 := RB.out w1 g1
  have G1 : Grew w w1 := Grew.trans (by (repeat' (first | (with_reducible exact Grew.refl _) | (with_reducible assumption) | (with_reducible refine Grew.alloc ?_ _ _) | (with_reducible refine Grew.drew ?_) | (with_reducible refine Grew.drewN ?_ _) | (with_reducible refine Grew.setCell ?_ ?_ _) | go_size))) g1
  have gs1 := G1.size
  have lk := RK1.lt
  clear g1
  have rz0 := blkFz RK1 (i := 0) (by simp)
  have ry0 := blkAt RK1 (i := 0) (v := .int .i64 0) rfl
  have rz1 := blkFz RK1 (i := 1) (by simp)
  have ry1 := blkAt RK1 (i := 1) (v := .int .i64 0) rfl
  have rz2 := blkFz RK1 (i := 2) (by simp)
  have ry2 := blkAt RK1 (i := 2) (v := .int .i64 0) rfl
  have rz3 := blkFz RK1 (i := 3) (by simp)
  have ry3 := blkAt RK1 (i := 3) (v := .int .i64 0) rfl
  have rz4 := blkFz RK1 (i := 4) (by simp)
  have ry4 := blkAt RK1 (i := 4) (v := .int .i64 0) rfl
  have rz5 := blkFz RK1 (i := 5) (by simp)
  have ry5 := blkAt RK1 (i := 5) (v := .int .i64 0) rfl
  have rz6 := blkFz RK1 (i := 6) (by simp)
  have ry6 := blkAt RK1 (i := 6) (v := .int .i64 0) rfl
  have rz7 := blkFz RK1 (i := 7) (by simp)
  have ry7 := blkAt RK1 (i := 7) (v := .int .i64 0) rfl
  have rz8 := blkFz RK1 (i := 8) (by simp)
  have ry8 := blkAt RK1 (i := 8) (v := .int .i64 0) rfl
  go_wp2_with fail
  refine bodyPost_ret (v := .tuple #[.agg #[.int .i64 0, .int .i64 0, .int .i64 0, .int .i64 ka, .int .i64 kb, .int .i64 kc, .int .i64 kd, .int .i64 ke, .int .i64 kf], .int .i64 e0]) (by simp [results, Tryz.results6, go_sem, *]) rfl ⟨rfl, (by (repeat' (first | (with_reducible exact Grew.refl _) | (with_reducible assumption) | (with_reducible refine Grew.alloc ?_ _ _) | (with_reducible refine Grew.drew ?_) | (with_reducible refine Grew.drewN ?_ _) | (with_reducible refine Grew.setCell ?_ ?_ _) | go_size)))⟩
end Td
end Go.Proofs.YtpiajdahmcelnaaGreat
