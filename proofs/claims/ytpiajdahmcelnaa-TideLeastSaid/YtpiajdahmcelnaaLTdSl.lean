/-
  Slices of flows: what came in, and what the call itself gathers.
-/
import Derived.Laws.AppendOwn
import Derived.Test.YtpiajdahmcelnaaLHullRef
import Derived.Test.YtpiajdahmcelnaaLTdPlain
namespace Go.Proofs.Ytpiajdahmcelnaa
open Go.RowKit Hl
namespace Td

/-- The nine cells of a flow. -/
def rc (r : Fw) : List Value := [.int .i64 r.x, .int .i64 r.y, .int .i64 r.s, .int .i64 r.k.a, .int .i64 r.k.b, .int .i64 r.k.c, .int .i64 r.k.d, .int .i64 r.k.e, .int .i64 r.k.f]
def cl (l : List Fw) : List Value := l.flatMap rc
theorem cl_cons (r : Fw) (l : List Fw) : cl (r :: l) = rc r ++ cl l := rfl
theorem cl_app (k l : List Fw) : cl (k ++ l) = cl k ++ cl l := by unfold cl; rw [List.flatMap_append]
theorem cl_len (l : List Fw) : (cl l).length = l.length * 9 := by
  induction l with
  | nil => rfl
  | cons r l ih =>
    rw [cl_cons, List.length_append, ih, List.length_cons]
    simp only [rc, List.length_cons, List.length_nil]
    omega
theorem cl_at (l : List Fw) {i : Nat} (hi : i < l.length) {j : Nat} (hj : j < 9) : (cl l)[i * 9 + j]? = (rc (ith l i))[j]? := by
  induction l generalizing i with
  | nil => exact absurd hi (Nat.not_lt_zero _)
  | cons r l ih =>
    rw [cl_cons]
    have hr : (rc r).length = 9 := rfl
    cases i with
    | zero =>
      rw [Nat.zero_mul, Nat.zero_add, List.getElem?_append_left (by omega)]
      rfl
    | succ i =>
      rw [List.getElem?_append_right (by omega), hr, show (i + 1) * 9 + j - 9 = i * 9 + j by omega, ih (by simpa using hi)]
      rfl
theorem cl_one (l : List Fw) : ∀ u, u ∈ cl l → u.oneCell' = true := by
  intro u hu
  unfold cl at hu
  rw [List.mem_flatMap] at hu
  obtain ⟨r, _, hu⟩ := hu
  unfold rc at hu
  simp only [List.mem_cons, List.not_mem_nil, or_false] at hu
  rcases hu with rfl | rfl | rfl | rfl | rfl | rfl | rfl | rfl | rfl <;> rfl
/-- These rows lie here. -/
def Row (w : World) (b o : Nat) (l : List Fw) : Prop := b < w.heap.size ∧ ∀ j u, (cl l)[j]? = some u → w.cell? ⟨b, o + j, none⟩ = some u
theorem Row.grew {W w : World} {b o : Nat} {l : List Fw} (h : Row W b o l) (g : Grew W w) : Row w b o l := ⟨Nat.lt_of_lt_of_le h.1 g.size, fun j u hu => by rw [g.cell h.1]; exact h.2 j u hu⟩
theorem Row.at {w : World} {b o : Nat} {l : List Fw} (h : Row w b o l) {i : Nat} (hi : i < l.length) :
    w.cell? ⟨b, o + i * 9, none⟩ = some (.int .i64 (ith l i).x) ∧ w.cell? ⟨b, o + i * 9 + 1, none⟩ = some (.int .i64 (ith l i).y) ∧ w.cell? ⟨b, o + i * 9 + 2, none⟩ = some (.int .i64 (ith l i).s) ∧ w.cell? ⟨b, o + i * 9 + 3, none⟩ = some (.int .i64 (ith l i).k.a) ∧ w.cell? ⟨b, o + i * 9 + 4, none⟩ = some (.int .i64 (ith l i).k.b) ∧ w.cell? ⟨b, o + i * 9 + 5, none⟩ = some (.int .i64 (ith l i).k.c) ∧ w.cell? ⟨b, o + i * 9 + 6, none⟩ = some (.int .i64 (ith l i).k.d) ∧ w.cell? ⟨b, o + i * 9 + 7, none⟩ = some (.int .i64 (ith l i).k.e) ∧ w.cell? ⟨b, o + i * 9 + 8, none⟩ = some (.int .i64 (ith l i).k.f) :=
  ⟨h.2 (i * 9) _ (cl_at l hi (j := 0) (by omega)), h.2 (i * 9 + 1) _ (cl_at l hi (by omega)), h.2 (i * 9 + 2) _ (cl_at l hi (by omega)), h.2 (i * 9 + 3) _ (cl_at l hi (by omega)), h.2 (i * 9 + 4) _ (cl_at l hi (by omega)), h.2 (i * 9 + 5) _ (cl_at l hi (by omega)), h.2 (i * 9 + 6) _ (cl_at l hi (by omega)), h.2 (i * 9 + 7) _ (cl_at l hi (by omega)), h.2 (i * 9 + 8) _ (cl_at l hi (by omega))⟩
/-- A slice of these rows. -/
def Rs (w : World) (v : Value) (l : List Fw) : Prop := ∃ a c, v = .slice a l.length c ∧ l.length ≤ c ∧ (l.length = 0 ∨ ∃ b o, a = some ⟨b, o, none⟩ ∧ Row w b o l)
theorem Rs.grew {W w : World} {v : Value} {l : List Fw} (h : Rs W v l) (g : Grew W w) : Rs w v l := by
  obtain ⟨a, c, rfl, h1, h2⟩ := h
  refine ⟨a, c, rfl, h1, ?_⟩
  rcases h2 with h2 | ⟨b, o, rfl, hr⟩
  · exact Or.inl h2
  · exact Or.inr ⟨b, o, rfl, hr.grew g⟩
theorem Rs.shape {w : World} {v : Value} {l : List Fw} (h : Rs w v l) : ∃ a c, v = .slice a l.length c ∧ l.length ≤ c := by
  obtain ⟨a, c, e, h1, _⟩ := h
  exact ⟨a, c, e, h1⟩
theorem Rs.row {w : World} {a : Option Addr} {n c : Nat} {l : List Fw} (h : Rs w (.slice a n c) l) (h0 : 0 < l.length) : ∃ b o, a = some ⟨b, o, none⟩ ∧ Row w b o l := by
  obtain ⟨a', c', e, _, h2⟩ := h
  injection e with e1 e2 e3
  subst e1
  rcases h2 with h2 | h2
  · omega
  · exact h2
theorem Rs.nil (w : World) (a : Option Addr) (c : Nat) : Rs w (.slice a 0 c) [] := ⟨a, c, rfl, Nat.zero_le _, Or.inl rfl⟩
theorem Rs.kept {w w' : World} {v : Value} {l : List Fw} {row : Option Nat} (h : Rs w v l) (g : w.grownBy w' row) (hne : 0 < l.length → ∀ b o n c, v = .slice (some ⟨b, o, none⟩) n c → some b ≠ row) : Rs w' v l := by
  obtain ⟨a, c, rfl, h1, h2⟩ := h
  refine ⟨a, c, rfl, h1, ?_⟩
  by_cases h0 : l.length = 0
  · exact Or.inl h0
  · rcases h2 with h2 | ⟨b, o, rfl, hr⟩
    · exact Or.inl h2
    · exact Or.inr ⟨b, o, rfl, Nat.lt_of_lt_of_le hr.1 g.size, fun j u hu => World.grownBy.cell g (hr.2 j u hu) (hne (by omega) _ _ _ _ rfl)⟩
theorem add_off (b o k : Nat) : (⟨b, o, none⟩ : Addr).add k = ⟨b, o + k, none⟩ := by
  unfold Addr.add
  split
  · rename_i e; subst e; rfl
  · rfl
theorem cl_take (l : List Fw) (k : Nat) {j : Nat} {u : Value} (h : (cl (l.take k))[j]? = some u) : (cl l)[j]? = some u := by
  have e : cl l = cl (l.take k) ++ cl (l.drop k) := by rw [← cl_app, List.take_append_drop]
  have hj := (List.getElem?_eq_some_iff.1 h).1
  rw [e, List.getElem?_append_left hj]
  exact h
theorem cl_drop (l : List Fw) {k : Nat} (hk : k ≤ l.length) {j : Nat} {u : Value} (h : (cl (l.drop k))[j]? = some u) : (cl l)[k * 9 + j]? = some u := by
  have e : cl l = cl (l.take k) ++ cl (l.drop k) := by rw [← cl_app, List.take_append_drop]
  have hl : (cl (l.take k)).length = k * 9 := by rw [cl_len, List.length_take]; omega
  rw [e, List.getElem?_append_right (by omega), hl, show k * 9 + j - k * 9 = j by omega]
  exact h
/-- l[:k]. -/
theorem Rs.take {w : World} {a : Option Addr} {n c : Nat} {l : List Fw} (h : Rs w (.slice a n c) l) {k : Nat} (hk : k ≤ l.length) : Rs w (.slice a k c) (l.take k) := by
  obtain ⟨a', c', e, h1, h2⟩ := h
  injection e with e1 e2 e3
  subst e1 e2 e3
  have hl : (l.take k).length = k := by rw [List.length_take]; omega
  refine ⟨a, c, by rw [hl], by omega, ?_⟩
  rcases h2 with h2 | ⟨b, o, rfl, hr⟩
  · exact Or.inl (by omega)
  · exact Or.inr ⟨b, o, rfl, hr.1, fun j u hu => hr.2 j u (cl_take l k hu)⟩
/-- l[k:]. -/
theorem Rs.drop {w : World} {a : Option Addr} {n c : Nat} {l : List Fw} (h : Rs w (.slice a n c) l) {k : Nat} (hk : k ≤ l.length) : Rs w (.slice (if c = k then a else a.map (·.add (k * 9))) (n - k) (c - k)) (l.drop k) := by
  obtain ⟨a', c', e, h1, h2⟩ := h
  injection e with e1 e2 e3
  subst e1 e2 e3
  have hl : (l.drop k).length = l.length - k := List.length_drop
  refine ⟨_, _, by rw [hl], by omega, ?_⟩
  by_cases h0 : l.length = k
  · exact Or.inl (by omega)
  · rcases h2 with h2 | ⟨b, o, rfl, hr⟩
    · exact Or.inl (by omega)
    · refine Or.inr ⟨b, o + k * 9, by rw [if_neg (by omega), Option.map_some, add_off], hr.1, fun j u hu => ?_⟩
      rw [Nat.add_assoc]
      exact hr.2 _ u (cl_drop l hk hu)
theorem info_row : (Try.prog.info? 25).map (fun i => (i.zero, i.size, i.bytes)) = some (some (.agg #[.int .i64 0, .int .i64 0, .int .i64 0, .int .i64 0, .int .i64 0, .int .i64 0, .int .i64 0, .int .i64 0, .int .i64 0]), 9, 72) := by kernel_rfl
theorem info_of {P : Program} {t : TypeId} {z : Option Value} {n b : Nat} (h : (P.info? t).map (fun i => (i.zero, i.size, i.bytes)) = some (z, n, b)) : ∃ i, P.info? t = some i ∧ i.zero = z ∧ i.size = n ∧ i.bytes = b := by
  cases e : P.info? t with
  | none => rw [e] at h; cases h
  | some i =>
    rw [e] at h
    simp only [Option.map_some, Option.some.injEq, Prod.mk.injEq] at h
    exact ⟨i, rfl, h.1, h.2.1, h.2.2⟩
/-- A slice of rows of the call's own. -/
def Ow (B : Nat) (w : World) (v : Value) (l : List Fw) : Prop := w.ownsRow B 25 9 v l.length (cl l)
theorem Ow.nil (B : Nat) (w : World) : Ow B w (.slice none 0 0) [] := World.ownsRow_nil w B _ 9
theorem Ow.grew {B : Nat} {W w : World} {v : Value} {l : List Fw} (h : Ow B W v l) (g : Grew W w) : Ow B w v l :=
  World.ownsRow.kept h (row := none) ⟨g.os, g.tape, g.output, g.size, fun k hk _ => g.block k hk⟩ (by cases hv : v.ownBlock <;> simp)
theorem Ow.lt {B : Nat} {w : World} {v : Value} {l : List Fw} (h : Ow B w v l) : ∀ k, v.ownBlock = some k → B ≤ k ∧ k < w.heap.size := fun k e => World.ownsRow.lt h k e
theorem Ow.rs {B : Nat} {w : World} {v : Value} {l : List Fw} (h : Ow B w v l) : Rs w v l := by
  have hc := fun g => World.ownsRow.cells (g := g) h
  rcases h.2 with ⟨rfl, h0⟩ | ⟨g, cap, cur, rfl, _, hg, hcap, _⟩
  · exact ⟨none, 0, by rw [h0], by omega, Or.inl h0⟩
  · refine ⟨_, _, rfl, hcap, Or.inr ⟨g, 0, rfl, (Array.getElem?_eq_some_iff.1 hg).1, fun j u hu => ?_⟩⟩
    have := hc g rfl j u hu
    rwa [add_off] at this
set_option maxRecDepth 100000 in
theorem run_app_nil (ty : TypeId) (v : Value) (n cap : Nat) (ao : Option Addr) (c : Nat) (w : World) (hv : v = .slice ao n cap) (h : n ≤ cap) (h0 : ao = none → n = 0 ∧ cap = 0) : (Builtin.append_ #[26, 26] ty #[v, .slice none 0 c]).run Try.prog w = .ok v w := by
  obtain ⟨i0, hi, hz0, hz1, hz2⟩ := info_of info_row
  subst hv
  cases ao with
  | none =>
    obtain ⟨rfl, rfl⟩ := h0 rfl
    simp [Builtin.append_, run_underlying Try.underlying26, sizeOf, typeInfo, hi, Builtin.lenOf, Builtin.firstCells]
  | some a => simp [Builtin.append_, run_underlying Try.underlying26, sizeOf, typeInfo, hi, Builtin.lenOf, Builtin.firstCells, h, storeCells]
theorem run_app (ty : TypeId) (B : Nat) (w : World) (v u : Value) (l m : List Fw) (hown : Ow B w v l) (hu : Rs w u m) (hl : l.length + m.length ≤ 1000000) (hB : B ≤ w.heap.size) :
    ∃ v' w', (Builtin.append_ #[26, 26] ty #[v, u]).run Try.prog w = .ok v' w' ∧ Ow B w' v' (l ++ m) ∧ w.grownBy w' v.ownBlock := by
  obtain ⟨i0, hi, hz0, hz1, hz2⟩ := info_of info_row
  obtain ⟨a, c, rfl, _, hc⟩ := hu
  cases a with
  | none =>
    have h0 : m.length = 0 := by
      rcases hc with hc | ⟨b, o, e, _⟩
      · exact hc
      · cases e
    have hn : m = [] := List.eq_nil_of_length_eq_zero h0
    subst hn
    have hv : ∃ ao m cap, v = .slice ao m cap ∧ m ≤ cap ∧ (ao = none → m = 0 ∧ cap = 0) := by
      rcases hown.2 with ⟨rfl, _⟩ | ⟨g, cap, cur, rfl, _, _, hn, _⟩
      · exact ⟨none, 0, 0, rfl, Nat.le_refl _, fun _ => ⟨rfl, rfl⟩⟩
      · exact ⟨_, _, _, rfl, hn, fun e => (by cases e)⟩
    obtain ⟨ao, m, cap, e1, e2, e3⟩ := hv
    exact ⟨v, w, run_app_nil ty v m cap ao c w e1 e2 e3, by rw [List.append_nil]; exact hown, World.grownBy.refl _ _⟩
  | some ad =>
    have hbb : (l.length + m.length) * 72 ≤ 140737488355328 := by omega
    have hn : ∀ j x, (cl m)[j]? = some x → w.cell? (ad.add j) = some x := by
      intro j x e
      rcases hc with hc | ⟨b, o, e', hrow⟩
      · rw [List.eq_nil_of_length_eq_zero hc] at e
        cases e
      · cases e'
        rw [add_off]
        exact hrow.2 j x e
    obtain ⟨v', w', hr, h1, h2, _⟩ := run_append_own (P := Try.prog) w B 26 ty 25 i0 _ 9 72 Try.underlying26 hi hz0 hz1 hz2 rfl (by decide) v l.length (cl l) hown ad m.length c (cl m) (cl_len m) hn (cl_one m) (by unfold maxLen; omega) hbb hB
    refine ⟨v', w', hr, ?_, h2⟩
    unfold Ow
    rw [cl_app, List.length_append]
    exact h1
/-- append(v, u...). -/
theorem wp_rows {o : Oper} {a : Act} {K : Act → World → Prop} {Q : Exit → Act → World → Prop} (w : World) (s x : Operand)
    (ho : o.op = .call { callee := .builtin .append, args := #[s, x], argTypes := #[26, 26] }) (B : Nat) (v u : Value) (l m : List Fw)
    (hs : a.eval s = v) (hown : Ow B w v l) (hx : a.eval x = u) (hu : Rs w u m) (hl : l.length + m.length ≤ 1000000) (hB : B ≤ w.heap.size)
    (h : ∀ v' w', Ow B w' v' (l ++ m) → w.grownBy w' v.ownBlock → K (a.put o.dst v') w') : o.wp Try.prog a w K Q := by
  obtain ⟨v', w', hr, h1, h2⟩ := run_app o.type B w v u l m hown hu hl hB
  unfold Oper.wp execOp
  simp only [ho, resolve, invoke, builtin, Sem.run_bind, Sem.run_pure, Result.andThen_ok, List.map_toArray, List.map_cons, List.map_nil, hs, hx, hr]
  exact h v' w' h1 h2
theorem wpl_rows {ops : Array Oper} {rest : List Oper} {o : Oper} {a : Act} {Q : Exit → Act → World → Prop} (w : World) (hgd : o.guard = none) (s x : Operand)
    (ho : o.op = .call { callee := .builtin .append, args := #[s, x], argTypes := #[26, 26] }) (B : Nat) (v u : Value) (l m : List Fw)
    (hs : a.eval s = v) (hown : Ow B w v l) (hx : a.eval x = u) (hu : Rs w u m) (hl : l.length + m.length ≤ 1000000) (hB : B ≤ w.heap.size)
    (h : ∀ v' w', Ow B w' v' (l ++ m) → w.grownBy w' v.ownBlock → wpList Try.prog ops Q rest (a.put o.dst v') w') : wpList Try.prog ops Q (o :: rest) a w :=
  wpList_plain hgd fun _ hK => wp_rows w s x ho B v u l m hs hown hx hu hl hB fun v' w' h1 h2 => hK _ _ (h v' w' h1 h2)
/-- What an append of one's own leaves as it was. -/
theorem Ow.app_grew {B : Nat} {W w w' : World} {v : Value} {l : List Fw} (h : Ow B w v l) (hg : w.grownBy w' v.ownBlock) (hW : W.heap.size ≤ B) (g : Grew W w) : Grew W w' :=
  Grew.grown g hg fun k hk => Nat.le_trans hW (h.lt k hk).1
/-- New cells of rows. -/
theorem rs_new (w : World) (l : List Fw) (_h0 : 0 < l.length) : Rs (w.alloc (.cells (cl l).toArray 25)) (.slice (some ⟨w.heap.size, 0, none⟩) l.length l.length) l :=
  ⟨_, _, rfl, Nat.le_refl _, Or.inr ⟨w.heap.size, 0, rfl, by rw [World.size_alloc]; omega, fun j u hu => by
    rw [Nat.zero_add, cell_of_row _ _ _ _ _ _ (heap_alloc_new w _)]
    simpa using hu⟩⟩
end Td
end Go.Proofs.Ytpiajdahmcelnaa
