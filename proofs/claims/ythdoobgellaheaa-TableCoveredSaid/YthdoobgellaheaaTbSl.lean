/-
  Slices of rows: what came in, and what the call itself gathers.
-/
import Derived.Test.YthdoobgellaheaaWorld
import Derived.Test.YthdoobgellaheaaTbPlain
import Derived.Laws.AppendOwn
namespace Go.Proofs.Ythdoobgellaheaa
open Go.RowKit Wd
namespace Tb

/-- The six cells of a row; a row as a value. -/
def rc (r : Rw) : List Value := [.int .i64 r.lo, .int .i64 r.hi, .int .i64 r.age, .int .i64 r.since, .int .i64 r.part, .int .i64 r.turn]
def cl (l : List Rw) : List Value := l.flatMap rc
theorem cl_nil : cl [] = [] := rfl
theorem cl_cons (r : Rw) (l : List Rw) : cl (r :: l) = rc r ++ cl l := rfl
theorem cl_app (k l : List Rw) : cl (k ++ l) = cl k ++ cl l := by unfold cl; rw [List.flatMap_append]
theorem cl_len (l : List Rw) : (cl l).length = l.length * 6 := by
  induction l with
  | nil => rfl
  | cons r l ih =>
    rw [cl_cons, List.length_append, ih, List.length_cons]
    simp only [rc, List.length_cons, List.length_nil]
    omega
theorem cl_at (l : List Rw) {i : Nat} (hi : i < l.length) {j : Nat} (hj : j < 6) : (cl l)[i * 6 + j]? = (rc (ith l i))[j]? := by
  induction l generalizing i with
  | nil => exact absurd hi (Nat.not_lt_zero _)
  | cons r l ih =>
    rw [cl_cons]
    have hr : (rc r).length = 6 := rfl
    cases i with
    | zero =>
      rw [Nat.zero_mul, Nat.zero_add, List.getElem?_append_left (by omega)]
      rfl
    | succ i =>
      rw [List.getElem?_append_right (by omega), hr, show (i + 1) * 6 + j - 6 = i * 6 + j by omega, ih (by simpa using hi)]
      rfl
theorem cl_one (l : List Rw) : ∀ u, u ∈ cl l → u.oneCell' = true := by
  intro u hu
  unfold cl at hu
  rw [List.mem_flatMap] at hu
  obtain ⟨r, _, hu⟩ := hu
  unfold rc at hu
  simp only [List.mem_cons, List.not_mem_nil, or_false] at hu
  rcases hu with rfl | rfl | rfl | rfl | rfl | rfl <;> rfl
/-- These rows lie here. -/
def Row (w : World) (b o : Nat) (l : List Rw) : Prop := b < w.heap.size ∧ ∀ j u, (cl l)[j]? = some u → w.cell? ⟨b, o + j, none⟩ = some u
theorem Row.grew {W w : World} {b o : Nat} {l : List Rw} (h : Row W b o l) (g : Grew W w) : Row w b o l := ⟨Nat.lt_of_lt_of_le h.1 g.size, fun j u hu => by rw [g.cell h.1]; exact h.2 j u hu⟩
theorem Row.at {w : World} {b o : Nat} {l : List Rw} (h : Row w b o l) {i : Nat} (hi : i < l.length) :
    w.cell? ⟨b, o + i * 6, none⟩ = some (.int .i64 (ith l i).lo) ∧ w.cell? ⟨b, o + i * 6 + 1, none⟩ = some (.int .i64 (ith l i).hi) ∧ w.cell? ⟨b, o + i * 6 + 2, none⟩ = some (.int .i64 (ith l i).age) ∧
    w.cell? ⟨b, o + i * 6 + 3, none⟩ = some (.int .i64 (ith l i).since) ∧ w.cell? ⟨b, o + i * 6 + 4, none⟩ = some (.int .i64 (ith l i).part) ∧ w.cell? ⟨b, o + i * 6 + 5, none⟩ = some (.int .i64 (ith l i).turn) :=
  ⟨h.2 (i * 6) _ (cl_at l hi (j := 0) (by omega)), h.2 (i * 6 + 1) _ (cl_at l hi (by omega)), h.2 (i * 6 + 2) _ (cl_at l hi (by omega)), h.2 (i * 6 + 3) _ (cl_at l hi (by omega)), h.2 (i * 6 + 4) _ (cl_at l hi (by omega)), h.2 (i * 6 + 5) _ (cl_at l hi (by omega))⟩
/-- A slice of these rows. -/
def Rs (w : World) (v : Value) (l : List Rw) : Prop := ∃ a c, v = .slice a l.length c ∧ l.length ≤ c ∧ (l.length = 0 ∨ ∃ b o, a = some ⟨b, o, none⟩ ∧ Row w b o l)
theorem Rs.grew {W w : World} {v : Value} {l : List Rw} (h : Rs W v l) (g : Grew W w) : Rs w v l := by
  obtain ⟨a, c, rfl, h1, h2⟩ := h
  refine ⟨a, c, rfl, h1, ?_⟩
  rcases h2 with h2 | ⟨b, o, rfl, hr⟩
  · exact Or.inl h2
  · exact Or.inr ⟨b, o, rfl, hr.grew g⟩
theorem Rs.shape {w : World} {v : Value} {l : List Rw} (h : Rs w v l) : ∃ a c, v = .slice a l.length c ∧ l.length ≤ c := by
  obtain ⟨a, c, e, h1, _⟩ := h
  exact ⟨a, c, e, h1⟩
theorem Rs.row {w : World} {a : Option Addr} {n c : Nat} {l : List Rw} (h : Rs w (.slice a n c) l) (h0 : 0 < l.length) : ∃ b o, a = some ⟨b, o, none⟩ ∧ Row w b o l := by
  obtain ⟨a', c', e, _, h2⟩ := h
  injection e with e1 e2 e3
  subst e1
  rcases h2 with h2 | h2
  · omega
  · exact h2
theorem Rs.nil (w : World) (a : Option Addr) (c : Nat) : Rs w (.slice a 0 c) [] := ⟨a, c, rfl, Nat.zero_le _, Or.inl rfl⟩
theorem Rs.kept {w w' : World} {v : Value} {l : List Rw} {row : Option Nat} (h : Rs w v l) (g : w.grownBy w' row) (hne : 0 < l.length → ∀ b o n c, v = .slice (some ⟨b, o, none⟩) n c → some b ≠ row) : Rs w' v l := by
  obtain ⟨a, c, rfl, h1, h2⟩ := h
  refine ⟨a, c, rfl, h1, ?_⟩
  by_cases h0 : l.length = 0
  · exact Or.inl h0
  · rcases h2 with h2 | ⟨b, o, rfl, hr⟩
    · exact Or.inl h2
    · exact Or.inr ⟨b, o, rfl, Nat.lt_of_lt_of_le hr.1 g.size, fun j u hu => World.grownBy.cell g (hr.2 j u hu) (hne (by omega) _ _ _ _ rfl)⟩
theorem add_off (b o k : Nat) : (⟨b, o, none⟩ : Addr).add k = ⟨b, o + k, none⟩ := by
  unfold Addr.add
  split
  · rename_i e; subst e; rfl
  · rfl
theorem cl_take (l : List Rw) (k : Nat) {j : Nat} {u : Value} (h : (cl (l.take k))[j]? = some u) : (cl l)[j]? = some u := by
  have e : cl l = cl (l.take k) ++ cl (l.drop k) := by rw [← cl_app, List.take_append_drop]
  have hj := (List.getElem?_eq_some_iff.1 h).1
  rw [e, List.getElem?_append_left hj]
  exact h
theorem cl_drop (l : List Rw) {k : Nat} (hk : k ≤ l.length) {j : Nat} {u : Value} (h : (cl (l.drop k))[j]? = some u) : (cl l)[k * 6 + j]? = some u := by
  have e : cl l = cl (l.take k) ++ cl (l.drop k) := by rw [← cl_app, List.take_append_drop]
  have hl : (cl (l.take k)).length = k * 6 := by rw [cl_len, List.length_take]; omega
  rw [e, List.getElem?_append_right (by omega), hl, show k * 6 + j - k * 6 = j by omega]
  exact h
/-- l[:k]. -/
theorem Rs.take {w : World} {a : Option Addr} {n c : Nat} {l : List Rw} (h : Rs w (.slice a n c) l) {k : Nat} (hk : k ≤ l.length) : Rs w (.slice a k c) (l.take k) := by
  obtain ⟨a', c', e, h1, h2⟩ := h
  injection e with e1 e2 e3
  subst e1 e2 e3
  have hl : (l.take k).length = k := by rw [List.length_take]; omega
  refine ⟨a, c, by rw [hl], by omega, ?_⟩
  rcases h2 with h2 | ⟨b, o, rfl, hr⟩
  · exact Or.inl (by omega)
  · exact Or.inr ⟨b, o, rfl, hr.1, fun j u hu => hr.2 j u (cl_take l k hu)⟩
/-- l[k:]. -/
theorem Rs.drop {w : World} {a : Option Addr} {n c : Nat} {l : List Rw} (h : Rs w (.slice a n c) l) {k : Nat} (hk : k ≤ l.length) : Rs w (.slice (if c = k then a else a.map (·.add (k * 6))) (n - k) (c - k)) (l.drop k) := by
  obtain ⟨a', c', e, h1, h2⟩ := h
  injection e with e1 e2 e3
  subst e1 e2 e3
  have hl : (l.drop k).length = l.length - k := List.length_drop
  refine ⟨_, _, by rw [hl], by omega, ?_⟩
  by_cases h0 : l.length = k
  · exact Or.inl (by omega)
  · rcases h2 with h2 | ⟨b, o, rfl, hr⟩
    · exact Or.inl (by omega)
    · refine Or.inr ⟨b, o + k * 6, by rw [if_neg (by omega), Option.map_some, add_off], hr.1, fun j u hu => ?_⟩
      rw [Nat.add_assoc]
      exact hr.2 _ u (cl_drop l hk hu)
/-- l[k:] where nothing is left. -/
theorem Rs.rest (w : World) {l : List Rw} {k : Nat} (h : l.length ≤ k) (a : Option Addr) (c : Nat) : Rs w (.slice a (l.length - k) c) (l.drop k) := by
  rw [List.drop_eq_nil_of_le h, Nat.sub_eq_zero_of_le h]
  exact Rs.nil w a c
theorem Rs.past {w : World} {b o n c : Nat} {l : List Rw} (h : Rs w (.slice (some ⟨b, o, none⟩) n c) l) {k : Nat} (hk : k ≤ l.length) (hc : ¬ c = k) : Rs w (.slice (some ⟨b, o + k * 6, none⟩) (n - k) (c - k)) (l.drop k) := by
  have := h.drop hk
  rwa [if_neg hc, Option.map_some, add_off] at this
theorem info_row : (Try.prog.info? 32).map (fun i => (i.zero, i.size, i.bytes)) = some (some (.agg #[.int .i64 0, .int .i64 0, .int .i64 0, .int .i64 0, .int .i64 0, .int .i64 0]), 6, 48) := by kernel_rfl
theorem info_of {P : Program} {t : TypeId} {z : Option Value} {n b : Nat} (h : (P.info? t).map (fun i => (i.zero, i.size, i.bytes)) = some (z, n, b)) : ∃ i, P.info? t = some i ∧ i.zero = z ∧ i.size = n ∧ i.bytes = b := by
  cases e : P.info? t with
  | none => rw [e] at h; cases h
  | some i =>
    rw [e] at h
    simp only [Option.map_some, Option.some.injEq, Prod.mk.injEq] at h
    exact ⟨i, rfl, h.1, h.2.1, h.2.2⟩
/-- A slice of rows of the call's own. -/
def Ow (B : Nat) (w : World) (v : Value) (l : List Rw) : Prop := w.ownsRow B 32 6 v l.length (cl l)
theorem Ow.nil (B : Nat) (w : World) : Ow B w (.slice none 0 0) [] := World.ownsRow_nil w B _ 6
theorem Ow.made {B : Nat} (w : World) (hB : B ≤ w.heap.size) : Ow B (w.alloc (.cells #[] 32)) (.slice (some ⟨w.heap.size, 0, none⟩) 0 0) [] := World.ownsRow_made w #[] 0 hB (Nat.zero_le _) rfl
theorem Ow.grew {B : Nat} {W w : World} {v : Value} {l : List Rw} (h : Ow B W v l) (g : Grew W w) : Ow B w v l :=
  World.ownsRow.kept h (row := none) ⟨g.os, g.tape, g.output, g.size, fun k hk _ => g.block k hk⟩ (by cases hv : v.ownBlock <;> simp)
theorem Ow.lt {B : Nat} {w : World} {v : Value} {l : List Rw} (h : Ow B w v l) : ∀ k, v.ownBlock = some k → B ≤ k ∧ k < w.heap.size := fun k e => World.ownsRow.lt h k e
theorem Ow.rs {B : Nat} {w : World} {v : Value} {l : List Rw} (h : Ow B w v l) : Rs w v l := by
  have hc := fun g => World.ownsRow.cells (g := g) h
  rcases h.2 with ⟨rfl, h0⟩ | ⟨g, cap, cur, rfl, _, hg, hcap, _⟩
  · exact ⟨none, 0, by rw [h0], by omega, Or.inl h0⟩
  · refine ⟨_, _, rfl, hcap, Or.inr ⟨g, 0, rfl, (Array.getElem?_eq_some_iff.1 hg).1, fun j u hu => ?_⟩⟩
    have := hc g rfl j u hu
    rwa [add_off] at this
set_option maxRecDepth 100000 in
theorem run_app_nil (ty : TypeId) (v : Value) (n cap : Nat) (ao : Option Addr) (c : Nat) (w : World) (hv : v = .slice ao n cap) (h : n ≤ cap) (h0 : ao = none → n = 0 ∧ cap = 0) : (Builtin.append_ #[22, 22] ty #[v, .slice none 0 c]).run Try.prog w = .ok v w := by
  obtain ⟨i0, hi, hz0, hz1, hz2⟩ := info_of info_row
  subst hv
  cases ao with
  | none =>
    obtain ⟨rfl, rfl⟩ := h0 rfl
    simp [Builtin.append_, run_underlying Try.underlying22, sizeOf, typeInfo, hi, Builtin.lenOf, Builtin.firstCells]
  | some a => simp [Builtin.append_, run_underlying Try.underlying22, sizeOf, typeInfo, hi, Builtin.lenOf, Builtin.firstCells, h, storeCells]
theorem run_app (ty : TypeId) (B : Nat) (w : World) (v u : Value) (l m : List Rw) (hown : Ow B w v l) (hu : Rs w u m) (hl : l.length + m.length ≤ 4000000) (hB : B ≤ w.heap.size) :
    ∃ v' w', (Builtin.append_ #[22, 22] ty #[v, u]).run Try.prog w = .ok v' w' ∧ Ow B w' v' (l ++ m) ∧ w.grownBy w' v.ownBlock := by
  obtain ⟨i0, hi, hz0, hz1, hz2⟩ := info_of info_row
  obtain ⟨a, c, rfl, _, hc⟩ := hu
  cases a with
  | none =>
    have h0 : m.length = 0 := by
      rcases hc with hc | ⟨b, o, e, _⟩
      · exact hc
      · cases e
    have hn : m = [] := List.eq_nil_of_length_eq_zero h0
    subst hn
    have hv : ∃ ao m cap, v = .slice ao m cap ∧ m ≤ cap ∧ (ao = none → m = 0 ∧ cap = 0) := by
      rcases hown.2 with ⟨rfl, _⟩ | ⟨g, cap, cur, rfl, _, _, hn, _⟩
      · exact ⟨none, 0, 0, rfl, Nat.le_refl _, fun _ => ⟨rfl, rfl⟩⟩
      · exact ⟨_, _, _, rfl, hn, fun e => (by cases e)⟩
    obtain ⟨ao, m, cap, e1, e2, e3⟩ := hv
    exact ⟨v, w, run_app_nil ty v m cap ao c w e1 e2 e3, by rw [List.append_nil]; exact hown, World.grownBy.refl _ _⟩
  | some ad =>
    have hbb : (l.length + m.length) * 48 ≤ 140737488355328 := by omega
    have hn : ∀ j x, (cl m)[j]? = some x → w.cell? (ad.add j) = some x := by
      intro j x e
      rcases hc with hc | ⟨b, o, e', hrow⟩
      · rw [List.eq_nil_of_length_eq_zero hc] at e
        cases e
      · cases e'
        rw [add_off]
        exact hrow.2 j x e
    obtain ⟨v', w', hr, h1, h2, _⟩ := run_append_own (P := Try.prog) w B 22 ty 32 i0 _ 6 48 Try.underlying22 hi hz0 hz1 hz2 rfl (by decide) v l.length (cl l) hown ad m.length c (cl m) (cl_len m) hn (cl_one m) (by unfold maxLen; omega) hbb hB
    refine ⟨v', w', hr, ?_, h2⟩
    unfold Ow
    rw [cl_app, List.length_append]
    exact h1
/-- append(v, u...). -/
theorem wp_rows {o : Oper} {a : Act} {K : Act → World → Prop} {Q : Exit → Act → World → Prop} (w : World) (s x : Operand)
    (ho : o.op = .call { callee := .builtin .append, args := #[s, x], argTypes := #[22, 22] }) (B : Nat) (v u : Value) (l m : List Rw)
    (hs : a.eval s = v) (hown : Ow B w v l) (hx : a.eval x = u) (hu : Rs w u m) (hl : l.length + m.length ≤ 4000000) (hB : B ≤ w.heap.size)
    (h : ∀ v' w', Ow B w' v' (l ++ m) → w.grownBy w' v.ownBlock → K (a.put o.dst v') w') : o.wp Try.prog a w K Q := by
  obtain ⟨v', w', hr, h1, h2⟩ := run_app o.type B w v u l m hown hu hl hB
  unfold Oper.wp execOp
  simp only [ho, resolve, invoke, builtin, Sem.run_bind, Sem.run_pure, Result.andThen_ok, List.map_toArray, List.map_cons, List.map_nil, hs, hx, hr]
  exact h v' w' h1 h2
theorem wpl_rows {ops : Array Oper} {rest : List Oper} {o : Oper} {a : Act} {Q : Exit → Act → World → Prop} (w : World) (hgd : o.guard = none) (s x : Operand)
    (ho : o.op = .call { callee := .builtin .append, args := #[s, x], argTypes := #[22, 22] }) (B : Nat) (v u : Value) (l m : List Rw)
    (hs : a.eval s = v) (hown : Ow B w v l) (hx : a.eval x = u) (hu : Rs w u m) (hl : l.length + m.length ≤ 4000000) (hB : B ≤ w.heap.size)
    (h : ∀ v' w', Ow B w' v' (l ++ m) → w.grownBy w' v.ownBlock → wpList Try.prog ops Q rest (a.put o.dst v') w') : wpList Try.prog ops Q (o :: rest) a w :=
  wpList_plain hgd fun _ hK => wp_rows w s x ho B v u l m hs hown hx hu hl hB fun v' w' h1 h2 => hK _ _ (h v' w' h1 h2)
/-- append(v, u...) in a region that draws its order. -/
theorem step_rows {ops : Array Oper} {o : Oper} {a : Act} {K : Act → World → Prop} {Q : Exit → Act → World → Prop} {E : Prop} (w : World) (hgd : o.guard = none) (s x : Operand)
    (ho : o.op = .call { callee := .builtin .append, args := #[s, x], argTypes := #[22, 22] }) (B : Nat) (v u : Value) (l m : List Rw)
    (hs : a.eval s = v) (hown : Ow B w v l) (hx : a.eval x = u) (hu : Rs w u m) (hl : l.length + m.length ≤ 4000000) (hB : B ≤ w.heap.size)
    (h : ∀ v' w', Ow B w' v' (l ++ m) → w.grownBy w' v.ownBlock → K (a.put o.dst v') w') : if Region.wanted o (yielded ops a.tmps) = true then Oper.wp Try.prog o a w K Q else E := by
  have hw : Region.wanted o (yielded ops a.tmps) = true := by simp [Region.wanted, hgd]
  rw [if_pos hw]
  exact wp_rows w s x ho B v u l m hs hown hx hu hl hB h
/-- What an append of one's own leaves as it was. -/
theorem Ow.app_grew {B : Nat} {W w w' : World} {v : Value} {l : List Rw} (h : Ow B w v l) (hg : w.grownBy w' v.ownBlock) (hW : W.heap.size ≤ B) (g : Grew W w) : Grew W w' :=
  Grew.grown g hg fun k hk => Nat.le_trans hW (h.lt k hk).1
/-- New cells of rows. -/
theorem rs_new (w : World) (l : List Rw) (_h0 : 0 < l.length) : Rs (w.alloc (.cells (cl l).toArray 32)) (.slice (some ⟨w.heap.size, 0, none⟩) l.length l.length) l :=
  ⟨_, _, rfl, Nat.le_refl _, Or.inr ⟨w.heap.size, 0, rfl, by rw [World.size_alloc]; omega, fun j u hu => by
    rw [Nat.zero_add, cell_of_row _ _ _ _ _ _ (heap_alloc_new w _)]
    simpa using hu⟩⟩
end Tb
end Go.Proofs.Ythdoobgellaheaa
