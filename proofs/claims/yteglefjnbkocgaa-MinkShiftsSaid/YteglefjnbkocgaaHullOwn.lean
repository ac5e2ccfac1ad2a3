/-
  A slice of points of the call's own, to which points are appended.
-/
import Derived.Test.YteglefjnbkocgaaHullHead
import Derived.Laws.AppendOwn
namespace Go.Proofs.Yteglefjnbkocgaa
open Go.RowKit
namespace Hl
theorem info_pt : (Try.prog.info? 24).map (fun i => (i.zero, i.size, i.bytes)) = some (some (.agg #[.int .i64 0, .int .i64 0]), 2, 16) := by kernel_rfl
/-- v is a slice of the call's own (in blocks from B on) that reads as p. -/
def Own (B : Nat) (w : World) (v : Value) (p : List Pt) : Prop := w.ownsRow B 24 2 v p.length (cellsOf p)
theorem cellsOf_len (p : List Pt) : (cellsOf p).length = p.length * 2 := by
  induction p with
  | nil => rfl
  | cons x p ih =>
    have e : cellsOf (x :: p) = [.int .i64 x.1, .int .i64 x.2] ++ cellsOf p := rfl
    rw [e, List.length_append, ih]
    simp
    omega
theorem cellsOf_append (p q : List Pt) : cellsOf (p ++ q) = cellsOf p ++ cellsOf q := by
  unfold cellsOf
  rw [List.flatMap_append]
theorem Own.nil (B : Nat) (w : World) : Own B w (.slice none 0 0) [] := World.ownsRow_nil w B _ 2
theorem Own.alloc {B : Nat} {w : World} {v : Value} {p : List Pt} (h : Own B w v p) (o : Obj) : Own B (w.alloc o) v p := World.ownsRow.alloc h o
theorem Own.drew {B : Nat} {w : World} {v : Value} {p : List Pt} (h : Own B w v p) : Own B w.drew v p := h
theorem Own.grew {B : Nat} {W w : World} {v : Value} {p : List Pt} (h : Own B W v p) (g : Grew W w) : Own B w v p :=
  World.ownsRow.kept h (row := none) ⟨g.os, g.tape, g.output, g.size, fun k hk _ => g.block k hk⟩ (by cases hv : v.ownBlock <;> simp)
theorem Own.sl {B : Nat} {w : World} {v : Value} {p : List Pt} (h : Own B w v p) : Sl w v p := by
  by_cases h0 : p = []
  · subst h0
    rcases h.2 with ⟨rfl, _⟩ | ⟨g, cap, cur, rfl, _⟩
    · exact Or.inl ⟨rfl, none, 0, rfl⟩
    · exact Or.inl ⟨rfl, _, _, rfl⟩
  · have hc := fun g => World.ownsRow.cells (g := g) h
    rcases h.2 with ⟨_, h1⟩ | ⟨g, cap, cur, rfl, _, hg, _⟩
    · exact absurd (List.length_eq_zero_iff.1 h1) h0
    · refine Or.inr ⟨g, 0, cap, rfl, (Array.getElem?_eq_some_iff.1 hg).1, fun i hi => ?_⟩
      obtain ⟨a, b⟩ := cellsOf_at p i hi
      have ad : ∀ k, (⟨g, 0, none⟩ : Addr).add k = ⟨g, 0 + k, none⟩ := fun k => by
        unfold Addr.add
        split
        · rename_i e; subst e; rfl
        · rfl
      have k1 := hc g rfl _ _ a
      have k2 := hc g rfl _ _ b
      rw [ad] at k1 k2
      exact ⟨k1, k2⟩
theorem append_pt {ops : Array Oper} {rest : List Oper} {o : Oper} {a : Act} {Q : Exit → Act → World → Prop} (w : World) (hgd : o.guard = none) (s x : Operand)
    (ho : o.op = .call { callee := .builtin .append, args := #[s, x], argTypes := #[22, 22] }) (B : Nat) (v : Value) (p : List Pt) (y : Pt) (wb c : Nat)
    (hs : a.eval s = v) (hown : Own B w v p) (hx : a.eval x = .slice (some ⟨wb, 0, none⟩) 1 c) (c0 : w.cell? ⟨wb, 0, none⟩ = some (.int .i64 y.1)) (c1 : w.cell? ⟨wb, 1, none⟩ = some (.int .i64 y.2))
    (hl : p.length ≤ 4000000) (hB : B ≤ w.heap.size)
    (h : ∀ v' w', Own B w' v' (p ++ [y]) → (∀ W : World, W.heap.size ≤ B → Grew W w → Grew W w') → wpList Try.prog ops Q rest (a.put o.dst v') w') : wpList Try.prog ops Q (o :: rest) a w := by
  obtain ⟨i0, hi, hz0, hz1, hz2⟩ := info_parts info_pt
  refine wpList_append_own w hgd s x 22 ho B 24 i0 (.agg #[.int .i64 0, .int .i64 0]) 2 16 Try.underlying22 hi hz0 hz1 hz2 rfl (by decide) v p.length (cellsOf p) hs hown ⟨wb, 0, none⟩ 1 c [.int .i64 y.1, .int .i64 y.2] hx rfl ?_ ?_ (by unfold maxLen; omega) (by omega) hB ?_
  · intro j u hj
    match j, hj with
    | 0, hj =>
      have e : (.int .i64 y.1 : Value) = u := by simpa using hj
      rw [← e]; exact c0
    | 1, hj =>
      have e : (.int .i64 y.2 : Value) = u := by simpa using hj
      rw [← e]; exact c1
    | j + 2, hj => exact absurd hj (by simp)
  · intro u hu
    rcases List.mem_cons.1 hu with rfl | hu
    · rfl
    · rcases List.mem_cons.1 hu with rfl | hu
      · rfl
      · cases hu
  · intro v' w' h1 h2 _
    refine h v' w' ?_ (fun W hW g => Grew.grown g h2 (fun k hk => Nat.le_trans hW (World.ownsRow.lt hown k hk).1))
    unfold Own
    rw [cellsOf_append, List.length_append]
    exact h1

/-! ### Steps of a region -/
theorem row_cells {w : World} {b o : Nat} {p : List Pt} (h : Row w b o p) : ∀ j u, (cellsOf p)[j]? = some u → w.cell? ((⟨b, o, none⟩ : Addr).add j) = some u := by
  intro j u hj
  have ad : ∀ k, (⟨b, o, none⟩ : Addr).add k = ⟨b, o + k, none⟩ := fun k => by
    unfold Addr.add
    split
    · rename_i e; subst e; rfl
    · rfl
  have hlt : j < p.length * 2 := by
    have h1 := (List.getElem?_eq_some_iff.1 hj).1
    rwa [cellsOf_len] at h1
  obtain ⟨a1, a2⟩ := cellsOf_at p (j / 2) (by omega)
  obtain ⟨c1, c2⟩ := h.2 (j / 2) (by omega)
  rw [ad]
  by_cases e : j % 2 = 0
  · have ej : j = j / 2 * 2 := by omega
    rw [ej] at hj ⊢
    rw [a1] at hj
    rw [c1]; exact hj
  · have ej : j = j / 2 * 2 + 1 := by omega
    have e1 : o + j = o + j / 2 * 2 + 1 := by omega
    rw [e1, c2]
    rw [ej, a2] at hj
    exact hj
theorem cells_one (p : List Pt) : ∀ u, u ∈ cellsOf p → u.oneCell' = true := by
  intro u hu
  unfold cellsOf at hu
  rw [List.mem_flatMap] at hu
  obtain ⟨x, _, hx⟩ := hu
  rcases List.mem_cons.1 hx with rfl | hx
  · rfl
  · rcases List.mem_cons.1 hx with rfl | hx
    · rfl
    · cases hx
theorem wp_append_pts {o : Oper} {a : Act} {K : Act → World → Prop} {Q : Exit → Act → World → Prop} (w : World) (s x : Operand)
    (ho : o.op = .call { callee := .builtin .append, args := #[s, x], argTypes := #[22, 22] }) (B : Nat) (v : Value) (p ys : List Pt) (b off c : Nat)
    (hs : a.eval s = v) (hown : Own B w v p) (hx : a.eval x = .slice (some ⟨b, off, none⟩) ys.length c) (hr : Row w b off ys) (hl : p.length + ys.length ≤ 4000000) (hB : B ≤ w.heap.size)
    (h : ∀ v' w', Own B w' v' (p ++ ys) → (∀ W : World, W.heap.size ≤ B → Grew W w → Grew W w') → (∀ b' o' r, Row w b' o' r → some b' ≠ v.ownBlock → Row w' b' o' r) → K (a.put o.dst v') w') : o.wp Try.prog a w K Q := by
  obtain ⟨i0, hi, hz0, hz1, hz2⟩ := info_parts info_pt
  refine wp_append_own w s x 22 ho B 24 i0 (.agg #[.int .i64 0, .int .i64 0]) 2 16 Try.underlying22 hi hz0 hz1 hz2 rfl (by decide) v p.length (cellsOf p) hs hown ⟨b, off, none⟩ ys.length c (cellsOf ys) hx (cellsOf_len ys) (row_cells hr) (cells_one ys) (by unfold maxLen; omega) (by omega) hB ?_
  intro v' w' h1 h2 _
  refine h v' w' ?_ (fun W hW g => Grew.grown g h2 (fun k hk => Nat.le_trans hW (World.ownsRow.lt hown k hk).1)) (fun b' o' r hr' hne => ⟨Nat.lt_of_lt_of_le hr'.1 h2.size, fun i hi => ?_⟩)
  · unfold Own
    rw [cellsOf_append, List.length_append]
    exact h1
  · obtain ⟨k1, k2⟩ := hr'.2 i hi
    exact ⟨World.grownBy.cell h2 k1 hne, World.grownBy.cell h2 k2 hne⟩
set_option maxRecDepth 100000 in
theorem run_append_none (ty : TypeId) (a : Addr) (c : Nat) (w : World) : (Builtin.append_ #[22, 22] ty #[.slice (some a) 0 0, .slice none 0 c]).run Try.prog w = .ok (.slice (some a) 0 0) w := rfl
theorem wp_append_none {o : Oper} {a : Act} {K : Act → World → Prop} {Q : Exit → Act → World → Prop} (w : World) (s x : Operand)
    (ho : o.op = .call { callee := .builtin .append, args := #[s, x], argTypes := #[22, 22] }) (ad : Addr)
    (hs : a.eval s = .slice (some ad) 0 0) (c : Nat) (hx : a.eval x = .slice none 0 c) (h : K (a.put o.dst (.slice (some ad) 0 0)) w) : o.wp Try.prog a w K Q := by
  have hr := run_append_none o.type ad c w
  unfold Oper.wp execOp
  simp only [ho, resolve, invoke, builtin, Sem.run_bind, Sem.run_pure, Result.andThen_ok, List.map_toArray, List.map_cons, List.map_nil, hs, hx, hr]
  exact h
theorem wp_append_zero {o : Oper} {a : Act} {K : Act → World → Prop} {Q : Exit → Act → World → Prop} (w : World) (s x : Operand)
    (ho : o.op = .call { callee := .builtin .append, args := #[s, x], argTypes := #[22, 22] }) (B : Nat) (v : Value) (ad : Addr) (c : Nat)
    (hs : a.eval s = v) (hown : Own B w v []) (hx : a.eval x = .slice (some ad) 0 c) (hB : B ≤ w.heap.size)
    (h : ∀ v' w', Own B w' v' [] → (∀ W : World, W.heap.size ≤ B → Grew W w → Grew W w') → (∀ b' o' r, Row w b' o' r → some b' ≠ v.ownBlock → Row w' b' o' r) → K (a.put o.dst v') w') : o.wp Try.prog a w K Q := by
  obtain ⟨i0, hi, hz0, hz1, hz2⟩ := info_parts info_pt
  refine wp_append_own w s x 22 ho B 24 i0 (.agg #[.int .i64 0, .int .i64 0]) 2 16 Try.underlying22 hi hz0 hz1 hz2 rfl (by decide) v 0 [] hs hown ad 0 c [] hx rfl (fun j u hj => by simp at hj) (fun u hu => by cases hu) (by unfold maxLen; omega) (by omega) hB ?_
  intro v' w' h1 h2 _
  refine h v' w' h1 (fun W hW g => Grew.grown g h2 (fun k hk => Nat.le_trans hW (World.ownsRow.lt hown k hk).1)) (fun b' o' r hr' hne => ⟨Nat.lt_of_lt_of_le hr'.1 h2.size, fun i hi => ?_⟩)
  obtain ⟨k1, k2⟩ := hr'.2 i hi
  exact ⟨World.grownBy.cell h2 k1 hne, World.grownBy.cell h2 k2 hne⟩
theorem Own.made {B : Nat} (w : World) (hB : B ≤ w.heap.size) : Own B (w.alloc (.cells #[] 24)) (.slice (some ⟨w.heap.size, 0, none⟩) 0 0) [] := World.ownsRow_made w #[] 0 hB (Nat.zero_le _) rfl
theorem wp_build0 {o : Oper} {a : Act} {K : Act → World → Prop} {Q : Exit → Act → World → Prop} (w : World) (ho : o.op = .buildSlice 22 0 #[]) (B : Nat) (hB : B ≤ w.heap.size)
    (h : ∀ g w', w.heap.size ≤ g → Own B w' (.slice (some ⟨g, 0, none⟩) 0 0) [] → (∀ W : World, Grew W w → Grew W w') → K (a.put o.dst (.slice (some ⟨g, 0, none⟩) 0 0)) w') : o.wp Try.prog a w K Q := by
  obtain ⟨dst, op, type, pos, after, guard⟩ := o
  simp only at ho
  subst ho
  go_simp
  exact h _ _ (Nat.le_refl _) (Own.made w hB) (fun W g => Grew.alloc g _ _)
end Hl
end Go.Proofs.Yteglefjnbkocgaa
