/-
  The library's generic functions at points, laid.
  A slice of points of the call's own, by its block: stores, cuts, and what the library lays.
-/
import Derived.Shelf.SlSortCmp.WholeK
import Derived.Shelf.SlicesQ.Reverse
import Derived.Shelf.SlicesE.Clone
import Derived.Shelf.Spec.SlicesGrow
import Derived.Test.YtpiajdahmcelnaaGreatRows
import Derived.Laws.OwnMore
import Derived.Test.YtpiajdahmcelnaaGreatMHullOwn
namespace Go.Proofs.YtpiajdahmcelnaaGreat
open Go.Shelf
namespace Hl
def cloneP_ren : Go.Shelf.Ren := ⟨fun | 41 => 88 | n => n, fun | 22 => 38 | 23 => 30 | 4 => 4 | n => n, fun | n => n⟩
theorem cloneP : Go.Proofs.SlLaysE0.n41 Tryz.prog cloneP_ren := {
  mixed := by kernel_rfl
  f41 := ⟨Tryz.f88.name, by decide, Tryz.func88.trans (congrArg some (by kernel_rfl))⟩
  t4 := Tryz.underlying4
  a4 := Tryz.isAgg4
  z4 := Tryz.sizeOf4
  v4 := Tryz.zeroValue4
  t22 := Tryz.underlying38
  a22 := Tryz.isAgg38
  z22 := Tryz.sizeOf38
  v22 := Tryz.zeroValue38 }
def reverseP_ren : Go.Shelf.Ren := ⟨fun | 35 => 76 | n => n, fun | 22 => 38 | 23 => 30 | 3 => 3 | 4 => 4 | 0 => 0 | n => n, fun | n => n⟩
theorem reverseP : Go.Proofs.SlLaysE0.n35 Tryz.prog reverseP_ren := {
  mixed := by kernel_rfl
  f35 := ⟨Tryz.f76.name, by decide, Tryz.func76.trans (congrArg some (by kernel_rfl))⟩
  t0 := Tryz.underlying0
  a0 := Tryz.isAgg0
  z0 := Tryz.sizeOf0
  v0 := Tryz.zeroValue0
  t3 := Tryz.underlying3
  a3 := Tryz.isAgg3
  z3 := Tryz.sizeOf3
  v3 := Tryz.zeroValue3
  t4 := Tryz.underlying4
  a4 := Tryz.isAgg4
  z4 := Tryz.sizeOf4
  v4 := Tryz.zeroValue4
  t22 := Tryz.underlying38
  a22 := Tryz.isAgg38
  z22 := Tryz.sizeOf38
  v22 := Tryz.zeroValue38 }
def sortP_ren : Go.Shelf.Ren := ⟨fun | 6 => 89 | 15 => 98 | 14 => 97 | 28 => 108 | 29 => 109 | 20 => 100 | 21 => 101 | 22 => 102 | 23 => 103 | 24 => 104 | 25 => 105 | 26 => 106 | 27 => 107 | 46 => 110 | 47 => 111 | 48 => 112 | 49 => 113 | 50 => 114 | 57 => 115 | n => n, fun | 22 => 38 | 24 => 30 | 25 => 108 | 3 => 3 | 39 => 102 | 0 => 0 | 53 => 127 | 55 => 129 | 4 => 4 | 46 => 120 | 45 => 119 | 50 => 124 | 5 => 5 | 9 => 9 | 66 => 130 | 70 => 134 | 76 => 136 | 77 => 78 | n => n, fun | n => n⟩
theorem sortP : Go.Proofs.SlLaysF0.n6 Tryz.prog sortP_ren := {
  mixed := by kernel_rfl
  f6 := ⟨Tryz.f89.name, by decide, Tryz.func89.trans (congrArg some (by kernel_rfl))⟩
  f14 := ⟨Tryz.f97.name, by decide, Tryz.func97.trans (congrArg some (by kernel_rfl))⟩
  f15 := Tryz.func98.trans (congrArg some (by kernel_rfl))
  f20 := ⟨Tryz.f100.name, by decide, Tryz.func100.trans (congrArg some (by kernel_rfl))⟩
  f21 := ⟨Tryz.f101.name, by decide, Tryz.func101.trans (congrArg some (by kernel_rfl))⟩
  f22 := ⟨Tryz.f102.name, by decide, Tryz.func102.trans (congrArg some (by kernel_rfl))⟩
  f23 := ⟨Tryz.f103.name, by decide, Tryz.func103.trans (congrArg some (by kernel_rfl))⟩
  f24 := ⟨Tryz.f104.name, by decide, Tryz.func104.trans (congrArg some (by kernel_rfl))⟩
  f25 := ⟨Tryz.f105.name, by decide, Tryz.func105.trans (congrArg some (by kernel_rfl))⟩
  f26 := ⟨Tryz.f106.name, by decide, Tryz.func106.trans (congrArg some (by kernel_rfl))⟩
  f27 := ⟨Tryz.f107.name, by decide, Tryz.func107.trans (congrArg some (by kernel_rfl))⟩
  f28 := Tryz.func108.trans (congrArg some (by kernel_rfl))
  f29 := Tryz.func109.trans (congrArg some (by kernel_rfl))
  f46 := ⟨Tryz.f110.name, by decide, Tryz.func110.trans (congrArg some (by kernel_rfl))⟩
  f47 := Tryz.func111.trans (congrArg some (by kernel_rfl))
  f48 := Tryz.func112.trans (congrArg some (by kernel_rfl))
  f49 := ⟨Tryz.f113.name, by decide, Tryz.func113.trans (congrArg some (by kernel_rfl))⟩
  f50 := ⟨Tryz.f114.name, by decide, Tryz.func114.trans (congrArg some (by kernel_rfl))⟩
  f57 := ⟨Tryz.f115.name, by decide, Tryz.func115.trans (congrArg some (by kernel_rfl))⟩
  t0 := Tryz.underlying0
  a0 := Tryz.isAgg0
  z0 := Tryz.sizeOf0
  v0 := Tryz.zeroValue0
  t3 := Tryz.underlying3
  a3 := Tryz.isAgg3
  z3 := Tryz.sizeOf3
  v3 := Tryz.zeroValue3
  t4 := Tryz.underlying4
  a4 := Tryz.isAgg4
  z4 := Tryz.sizeOf4
  v4 := Tryz.zeroValue4
  t5 := Tryz.underlying5
  a5 := Tryz.isAgg5
  z5 := Tryz.sizeOf5
  v5 := Tryz.zeroValue5
  t9 := Tryz.underlying9
  a9 := Tryz.isAgg9
  z9 := Tryz.sizeOf9
  v9 := Tryz.zeroValue9
  t22 := Tryz.underlying38
  a22 := Tryz.isAgg38
  z22 := Tryz.sizeOf38
  v22 := Tryz.zeroValue38
  t25 := Tryz.underlying108
  a25 := Tryz.isAgg108
  z25 := Tryz.sizeOf108
  v25 := Tryz.zeroValue108
  t39 := Tryz.underlying102
  a39 := Tryz.isAgg102
  z39 := Tryz.sizeOf102
  v39 := Tryz.zeroValue102
  t45 := Tryz.underlying119
  a45 := Tryz.isAgg119
  z45 := Tryz.sizeOf119
  v45 := Tryz.zeroValue119
  t46 := Tryz.underlying120
  a46 := Tryz.isAgg120
  z46 := Tryz.sizeOf120
  v46 := Tryz.zeroValue120
  t50 := Tryz.underlying124
  a50 := Tryz.isAgg124
  z50 := Tryz.sizeOf124
  v50 := Tryz.zeroValue124
  t53 := Tryz.underlying127
  a53 := Tryz.isAgg127
  z53 := Tryz.sizeOf127
  v53 := Tryz.zeroValue127
  t55 := Tryz.underlying129
  a55 := Tryz.isAgg129
  z55 := Tryz.sizeOf129
  v55 := Tryz.zeroValue129
  t66 := Tryz.underlying130
  a66 := Tryz.isAgg130
  z66 := Tryz.sizeOf130
  v66 := Tryz.zeroValue130
  t70 := Tryz.underlying134
  a70 := Tryz.isAgg134
  z70 := Tryz.sizeOf134
  v70 := Tryz.zeroValue134
  t76 := Tryz.underlying136
  a76 := Tryz.isAgg136
  z76 := Tryz.sizeOf136
  v76 := Tryz.zeroValue136
  t77 := Tryz.underlying78
  a77 := Tryz.isAgg78
  z77 := Tryz.sizeOf78
  v77 := Tryz.zeroValue78 }
def growP_ren : Go.Shelf.Ren := ⟨fun | 4 => 93 | n => n, fun | 22 => 95 | 25 => 30 | 3 => 3 | 4 => 4 | 9 => 9 | 20 => 20 | 0 => 0 | 2 => 3 | n => n, fun | n => n⟩
theorem growP : Go.Proofs.Lays8.n4 Tryz.prog growP_ren := {
  mixed := by kernel_rfl
  f4 := ⟨Tryz.f93.name, by decide, Tryz.func93.trans (congrArg some (by kernel_rfl))⟩
  t0 := Tryz.underlying0
  a0 := Tryz.isAgg0
  z0 := Tryz.sizeOf0
  v0 := Tryz.zeroValue0
  t3 := Tryz.underlying3
  a3 := Tryz.isAgg3
  z3 := Tryz.sizeOf3
  v3 := Tryz.zeroValue3
  t4 := Tryz.underlying4
  a4 := Tryz.isAgg4
  z4 := Tryz.sizeOf4
  v4 := Tryz.zeroValue4
  t9 := Tryz.underlying9
  a9 := Tryz.isAgg9
  z9 := Tryz.sizeOf9
  v9 := Tryz.zeroValue9
  t20 := Tryz.underlying20
  a20 := Tryz.isAgg20
  z20 := Tryz.sizeOf20
  v20 := Tryz.zeroValue20
  t22 := Tryz.underlying95
  a22 := Tryz.isAgg95
  z22 := Tryz.sizeOf95
  v22 := Tryz.zeroValue95 }
end Hl
end Go.Proofs.YtpiajdahmcelnaaGreat
namespace Go.Proofs.YtpiajdahmcelnaaGreat
open Go.RowKit Go.Shelf Go.Sort
namespace Hl
/-- Block g is of the call's own, and begins with the points p. -/
def OwnAt (B : Nat) (w : World) (g cap : Nat) (p : List Pt) : Prop := B ≤ g ∧ p.length ≤ cap ∧ cap ≤ maxLen ∧ ∃ cur, w.heap[g]? = some (.cells cur 30 (0, 0)) ∧ cur.size = cap * 2 ∧
  ∀ i, i < p.length → cur[i * 2]? = some (.int .i64 (at' p i).1) ∧ cur[i * 2 + 1]? = some (.int .i64 (at' p i).2)
theorem take_cells {cur : Array Value} {p : List Pt} (hs : p.length * 2 ≤ cur.size) : cur.toList.take (p.length * 2) = cellsOf p ↔ ∀ i, i < p.length → cur[i * 2]? = some (.int .i64 (at' p i).1) ∧ cur[i * 2 + 1]? = some (.int .i64 (at' p i).2) := by
  constructor
  · intro h i hi
    obtain ⟨a, b⟩ := cellsOf_at p i hi
    rw [← h] at a b
    rw [List.getElem?_take_of_lt (by omega), Array.getElem?_toList] at a b
    exact ⟨a, b⟩
  · intro h
    apply List.ext_getElem?
    intro j
    by_cases hj : j < p.length * 2
    · rw [List.getElem?_take_of_lt hj, Array.getElem?_toList]
      obtain ⟨a, b⟩ := cellsOf_at p (j / 2) (by omega)
      obtain ⟨c, d⟩ := h (j / 2) (by omega)
      by_cases e : j % 2 = 0
      · have ej : j = j / 2 * 2 := by omega
        rw [ej, a, c]
      · have ej : j = j / 2 * 2 + 1 := by omega
        rw [ej, b, d]
    · rw [List.getElem?_eq_none (by simp; omega), List.getElem?_eq_none (by rw [cellsOf_len]; omega)]
theorem own_at {B : Nat} {w : World} {g cap : Nat} {p : List Pt} : OwnAt B w g cap p ↔ Own B w (.slice (some ⟨g, 0, none⟩) p.length cap) p := by
  constructor
  · rintro ⟨h1, h2, h3, cur, h4, h5, h6⟩
    exact ⟨cellsOf_len p, Or.inr ⟨g, cap, cur, rfl, h1, h4, h2, h3, h5, (take_cells (by omega)).2 h6⟩⟩
  · rintro ⟨_, h⟩
    rcases h with ⟨h, _⟩ | ⟨g', cap', cur, e, h1, h4, h2, h3, h5, h6⟩
    · cases h
    · cases e
      exact ⟨h1, h2, h3, cur, h4, h5, (take_cells (by omega)).1 h6⟩
theorem Own.at {B : Nat} {w : World} {v : Value} {p : List Pt} (h : Own B w v p) (h0 : p ≠ []) : ∃ g cap, v = .slice (some ⟨g, 0, none⟩) p.length cap ∧ OwnAt B w g cap p := by
  rcases h.2 with ⟨_, hl⟩ | ⟨g, cap, cur, rfl, _⟩
  · exact absurd (List.length_eq_zero_iff.1 hl) h0
  · exact ⟨g, cap, rfl, own_at.2 h⟩
theorem OwnAt.lt {B : Nat} {w : World} {g cap : Nat} {p : List Pt} (h : OwnAt B w g cap p) : g < w.heap.size := by
  obtain ⟨_, _, _, cur, h4, _⟩ := h
  exact (Array.getElem?_eq_some_iff.1 h4).1
theorem OwnAt.frozen {B : Nat} {w : World} {g cap : Nat} {p : List Pt} (h : OwnAt B w g cap p) (o : Nat) : w.frozen? ⟨g, o, none⟩ = false := by
  obtain ⟨_, _, _, cur, h4, _⟩ := h
  simp [World.frozen?, h4]
theorem OwnAt.cells {B : Nat} {w : World} {g cap : Nat} {p : List Pt} (h : OwnAt B w g cap p) {i : Nat} (hi : i < p.length) : w.cell? ⟨g, i * 2, none⟩ = some (.int .i64 (at' p i).1) ∧ w.cell? ⟨g, i * 2 + 1, none⟩ = some (.int .i64 (at' p i).2) := by
  obtain ⟨_, _, _, cur, h4, _, h6⟩ := h
  obtain ⟨a, b⟩ := h6 i hi
  simp [World.cell?, h4, a, b]
theorem OwnAt.there {B : Nat} {w : World} {g cap : Nat} {p : List Pt} (h : OwnAt B w g cap p) {j : Nat} (hj : j < cap * 2) : (w.cell? ⟨g, j, none⟩).isSome = true := by
  obtain ⟨_, _, _, cur, h4, h5, _⟩ := h
  simp [World.cell?, h4]
  omega
theorem OwnAt.row {B : Nat} {w : World} {g cap : Nat} {p : List Pt} (h : OwnAt B w g cap p) : Row w g 0 p := ⟨h.lt, fun i hi => by rw [Nat.zero_add]; exact h.cells hi⟩
theorem OwnAt.kept {B : Nat} {w w' : World} {g cap : Nat} {p : List Pt} {row : Option Nat} (h : OwnAt B w g cap p) (hg : w.grownBy w' row) (hne : some g ≠ row) : OwnAt B w' g cap p := by
  have hl := h.lt
  obtain ⟨h1, h2, h3, cur, h4, h5, h6⟩ := h
  exact ⟨h1, h2, h3, cur, (hg.block g hl hne).trans h4, h5, h6⟩
theorem OwnAt.grew {B : Nat} {w w' : World} {g cap : Nat} {p : List Pt} (h : OwnAt B w g cap p) (k : Grew w w') : OwnAt B w' g cap p := by
  have hl := h.lt
  obtain ⟨h1, h2, h3, cur, h4, h5, h6⟩ := h
  exact ⟨h1, h2, h3, cur, (k.block g hl).trans h4, h5, h6⟩
theorem OwnAt.mono {B B' : Nat} {w : World} {g cap : Nat} {p : List Pt} (h : OwnAt B w g cap p) (hb : B' ≤ B) : OwnAt B' w g cap p := ⟨Nat.le_trans hb h.1, h.2⟩
theorem OwnAt.take {B : Nat} {w : World} {g cap : Nat} {p : List Pt} (h : OwnAt B w g cap p) (k : Nat) : OwnAt B w g cap (p.take k) := by
  obtain ⟨h1, h2, h3, cur, h4, h5, h6⟩ := h
  refine ⟨h1, by simp; omega, h3, cur, h4, h5, fun i hi => ?_⟩
  rw [List.length_take] at hi
  have e : at' (p.take k) i = at' p i := by
    unfold at'
    simp [List.getD, show i < k by omega]
  rw [e]
  exact h6 i (by omega)
theorem heap_set {w : World} {g o : Nat} {cur : Array Value} {t : TypeId} {fr : Nat × Nat} (v : Value) (h : w.heap[g]? = some (.cells cur t fr)) : (w.setCell ⟨g, o, none⟩ v).heap[g]? = some (.cells (cur.setIfInBounds o v) t fr) := by
  obtain ⟨hlt, hk⟩ := Array.getElem?_eq_some_iff.1 h
  show (w.heap.modify g _)[g]? = _
  rw [Array.getElem?_eq_getElem (by rw [Array.size_modify]; exact hlt), Array.getElem_modify_self, hk]
  rfl
theorem OwnAt.beyond {B : Nat} {w : World} {g cap : Nat} {p : List Pt} (h : OwnAt B w g cap p) {o : Nat} (ho : p.length * 2 ≤ o) (v : Value) : OwnAt B (w.setCell ⟨g, o, none⟩ v) g cap p := by
  obtain ⟨h1, h2, h3, cur, h4, h5, h6⟩ := h
  refine ⟨h1, h2, h3, _, heap_set v h4, by simp [h5], fun i hi => ?_⟩
  rw [Array.getElem?_setIfInBounds, Array.getElem?_setIfInBounds, if_neg (by omega), if_neg (by omega)]
  exact h6 i hi
theorem OwnAt.set {B : Nat} {w : World} {g cap : Nat} {p : List Pt} (h : OwnAt B w g cap p) {i : Nat} (hi : i < p.length) (x : Pt) : OwnAt B ((w.setCell ⟨g, i * 2, none⟩ (.int .i64 x.1)).setCell ⟨g, i * 2 + 1, none⟩ (.int .i64 x.2)) g cap (p.set i x) := by
  obtain ⟨h1, h2, h3, cur, h4, h5, h6⟩ := h
  refine ⟨h1, by simpa using h2, h3, _, heap_set _ (heap_set _ h4), by simp [h5], fun j hj => ?_⟩
  rw [List.length_set] at hj
  obtain ⟨a, b⟩ := h6 j hj
  by_cases e : i = j
  · subst e
    have ea : at' (p.set i x) i = x := by
      unfold at'
      simp [List.getD, hi]
    rw [ea]
    simp [Array.getElem?_setIfInBounds, h5]
    omega
  · have ea : at' (p.set i x) j = at' p j := by
      unfold at'
      simp [List.getD, e]
    rw [ea, Array.getElem?_setIfInBounds, Array.getElem?_setIfInBounds, Array.getElem?_setIfInBounds, Array.getElem?_setIfInBounds, if_neg (by omega), if_neg (by omega), if_neg (by omega), if_neg (by omega)]
    exact ⟨a, b⟩
theorem OwnAt.other {B : Nat} {w : World} {g cap : Nat} {p : List Pt} (h : OwnAt B w g cap p) {k o : Nat} (hne : g ≠ k) (v : Value) : OwnAt B (w.setCell ⟨k, o, none⟩ v) g cap p := by
  obtain ⟨h1, h2, h3, cur, h4, h5, h6⟩ := h
  exact ⟨h1, h2, h3, cur, (Below.heap_setCell _ _ _ g hne).trans h4, h5, h6⟩
theorem OwnAt.beyonds {B g cap : Nat} {p : List Pt} : ∀ (vs : List Value) (w : World) (o : Nat), OwnAt B w g cap p → p.length * 2 ≤ o → OwnAt B (w.setCells g o vs) g cap p
  | [], _, _, h, _ => h
  | v :: vs, w, o, h, ho => OwnAt.beyonds vs _ (o + 1) (h.beyond ho v) (by omega)
theorem grownBy_setCell (w : World) (g o : Nat) (v : Value) : w.grownBy (w.setCell ⟨g, o, none⟩ v) (some g) := ⟨rfl, rfl, rfl, by simp [World.setCell], fun k _ hk => Below.heap_setCell _ _ _ k (fun e => hk (by rw [e]))⟩
theorem grownBy_trans {a b c : World} {row : Option Nat} (h : a.grownBy b row) (k : b.grownBy c row) : a.grownBy c row := ⟨k.os.trans h.os, k.tape.trans h.tape, k.output.trans h.output, Nat.le_trans h.size k.size, fun i hi hne => (k.block i (Nat.lt_of_lt_of_le hi h.size) hne).trans (h.block i hi hne)⟩
theorem grownBy_setCells (g : Nat) : ∀ (vs : List Value) (w : World) (o : Nat), w.grownBy (w.setCells g o vs) (some g)
  | [], _w, _ => ⟨rfl, rfl, rfl, Nat.le_refl _, fun _ _ _ => rfl⟩
  | v :: vs, w, o => grownBy_trans (grownBy_setCell w g o v) (grownBy_setCells g vs _ (o + 1))
theorem grownBy_refl (w : World) (row : Option Nat) : w.grownBy w row := ⟨rfl, rfl, rfl, Nat.le_refl _, fun _ _ _ => rfl⟩
theorem grownBy_drawN (w : World) (n : Nat) (row : Option Nat) : w.grownBy (w.drewN n) row := ⟨rfl, rfl, rfl, Nat.le_refl _, fun _ _ _ => rfl⟩
/-! ### What the library lays -/
def encP (x : Pt) : List Value := [.int .i64 x.1, .int .i64 x.2]
theorem flat_cells (d : Array Pt) : flatK encP 2 d = (cellsOf d.toList).toArray := by
  apply Array.ext_getElem?
  intro j
  by_cases hj : j < d.size * 2
  · have e1 := get_flatK encP 2 d j hj
    rw [getElem!_pos _ j (by simpa using hj)] at e1
    rw [Array.getElem?_eq_getElem (by simpa using hj), e1]
    obtain ⟨a, b⟩ := cellsOf_at d.toList (j / 2) (by simp; omega)
    have ed : d[j / 2]! = at' d.toList (j / 2) := by
      have hl : j / 2 < d.size := by omega
      unfold at'
      simp [List.getD, hl, getElem!_pos]
    rw [ed]
    rw [List.getElem?_toArray]
    by_cases e : j % 2 = 0
    · have ej : (cellsOf d.toList)[j]? = (cellsOf d.toList)[j / 2 * 2]? := by congr 1; omega
      rw [ej, a, e]
      rfl
    · have ej : (cellsOf d.toList)[j]? = (cellsOf d.toList)[j / 2 * 2 + 1]? := by congr 1; omega
      rw [ej, b, show j % 2 = 1 by omega]
      rfl
  · rw [Array.getElem?_eq_none (by simp; omega), Array.getElem?_eq_none (by simp [cellsOf_len]; omega)]
theorem OwnAt.holds {B : Nat} {w : World} {g cap : Nat} {p : List Pt} (h : OwnAt B w g cap p) : Holds id w g 0 (cellsOf p).toArray := by
  intro j hj
  rw [List.size_toArray, cellsOf_len] at hj
  refine ⟨?_, h.frozen _⟩
  rw [Nat.zero_add]
  obtain ⟨a, b⟩ := cellsOf_at p (j / 2) (by omega)
  obtain ⟨c, d⟩ := h.cells (i := j / 2) (by omega)
  have e0 : (cellsOf p).toArray[j]! = ((cellsOf p)[j]?).getD default := by
    rw [getElem!_pos _ j (by rw [List.size_toArray, cellsOf_len]; exact hj)]
    simp [List.getElem?_eq_getElem (show j < (cellsOf p).length by rw [cellsOf_len]; exact hj)]
  rw [e0]
  by_cases e : j % 2 = 0
  · have ej : j = j / 2 * 2 := by omega
    rw [ej, a, c]
    rfl
  · have ej : j = j / 2 * 2 + 1 := by omega
    rw [ej, b, d]
    rfl
theorem OwnAt.put {B : Nat} {w : World} {g cap n : Nat} {os : Array Obj} {p q : List Pt} (h : OwnAt B w g cap p) (hl : q.length = p.length) : OwnAt B (grow (putRow id (Sort.ahead w n) g 0 (cellsOf q).toArray) os) g cap q := by
  have hg := h.lt
  obtain ⟨h1, h2, h3, cur, h4, h5, h6⟩ := h
  have hh : (grow (putRow id (Sort.ahead w n) g 0 (cellsOf q).toArray) os).heap[g]? = some (.cells (putCells id 0 (cellsOf q).toArray cur) 30 (0, 0)) := by
    rw [heap_grow_old _ _ (by simpa using hg)]
    simp [putRow, mapBlock, Sort.ahead, Array.getElem?_modify, h4, onCells]
  refine ⟨h1, by omega, h3, _, hh, by simp [putCells, h5], fun i hi => ?_⟩
  obtain ⟨a, b⟩ := cellsOf_at q i hi
  have key : ∀ (j : Nat) (v : Value), j < q.length * 2 → (cellsOf q)[j]? = some v → (putCells id 0 (cellsOf q).toArray cur)[j]? = some v := fun j v hj hv => by
    have hc : j < cur.size := by omega
    have hl2 : j < (cellsOf q).length := by rw [cellsOf_len]; exact hj
    rw [List.getElem?_eq_getElem hl2] at hv
    simp [putCells, hc, hl2]
    simpa using hv
  exact ⟨key _ _ (by omega) a, key _ _ (by omega) b⟩
theorem grownBy_put (w : World) (g n : Nat) (os : Array Obj) (d : Array Value) : w.grownBy (grow (putRow id (Sort.ahead w n) g 0 d) os) (some g) := by
  refine ⟨rfl, rfl, rfl, by simp, fun k hk hne => ?_⟩
  rw [heap_grow_old _ _ (by simpa using hk)]
  have : g ≠ k := fun e => hne (by rw [e])
  simp [putRow, mapBlock, Sort.ahead, Array.getElem?_modify, this]
end Hl
end Go.Proofs.YtpiajdahmcelnaaGreat
