/-
  Slices of integers: what came in, and what the call itself gathers.
-/
import Derived.Test.YtfnnmkadmpflhaaDoorWorld
import Derived.Test.YtfnnmkadmpflhaaDoorDigRefC
import Derived.Laws.AppendOwn
import Derived.Deep.Slices
namespace Go.Proofs.YtfnnmkadmpflhaaDoor
open Go.RowKit Wd
namespace Sg

def I64 (n : Int) : Prop := -9223372036854775808 ≤ n ∧ n ≤ 9223372036854775807
theorem info_of {P : Program} {t : TypeId} {z : Option Value} {n b : Nat} (h : (P.info? t).map (fun i => (i.zero, i.size, i.bytes)) = some (z, n, b)) : ∃ i, P.info? t = some i ∧ i.zero = z ∧ i.size = n ∧ i.bytes = b := by
  cases e : P.info? t with
  | none => rw [e] at h; cases h
  | some i =>
    rw [e] at h
    simp only [Option.map_some, Option.some.injEq, Prod.mk.injEq] at h
    exact ⟨i, rfl, h.1, h.2.1, h.2.2⟩
/-- A slice with these cells. -/
def Sv (w : World) (v : Value) (us : List Value) : Prop := ∃ a c, v = .slice a us.length c ∧ us.length ≤ c ∧ (us.length = 0 ∨ ∃ b o, a = some ⟨b, o, none⟩ ∧ b < w.heap.size ∧ ∀ i u, us[i]? = some u → w.cell? ⟨b, o + i, none⟩ = some u)
theorem add_off (b o k : Nat) : (⟨b, o, none⟩ : Addr).add k = ⟨b, o + k, none⟩ := by
  unfold Addr.add
  split
  · rename_i e; subst e; rfl
  · rfl
theorem Sv.grew {W w : World} {v : Value} {us : List Value} (h : Sv W v us) (g : Grew W w) : Sv w v us := by
  obtain ⟨a, c, rfl, h1, h2⟩ := h
  refine ⟨a, c, rfl, h1, ?_⟩
  rcases h2 with h2 | ⟨b, o, rfl, hb, hc⟩
  · exact Or.inl h2
  · exact Or.inr ⟨b, o, rfl, Nat.lt_of_lt_of_le hb g.size, fun i u hu => by rw [g.cell hb]; exact hc i u hu⟩
theorem Sv.shape {w : World} {v : Value} {us : List Value} (h : Sv w v us) : ∃ a c, v = .slice a us.length c ∧ us.length ≤ c := by
  obtain ⟨a, c, e, h1, _⟩ := h
  exact ⟨a, c, e, h1⟩
theorem Sv.row {w : World} {a : Option Addr} {n c : Nat} {us : List Value} (h : Sv w (.slice a n c) us) (h0 : 0 < us.length) : ∃ b o, a = some ⟨b, o, none⟩ ∧ b < w.heap.size ∧ ∀ i u, us[i]? = some u → w.cell? ⟨b, o + i, none⟩ = some u := by
  obtain ⟨a', c', e, _, h2⟩ := h
  injection e with e1 e2 e3
  subst e1
  rcases h2 with h2 | h2
  · omega
  · exact h2
theorem Sv.nil (w : World) (a : Option Addr) (c : Nat) : Sv w (.slice a 0 c) [] := ⟨a, c, rfl, Nat.zero_le _, Or.inl rfl⟩
theorem Sv.kept {w w' : World} {v : Value} {us : List Value} {row : Option Nat} (h : Sv w v us) (g : w.grownBy w' row) (hne : 0 < us.length → ∀ b o n c, v = .slice (some ⟨b, o, none⟩) n c → some b ≠ row) : Sv w' v us := by
  obtain ⟨a, c, rfl, h1, h2⟩ := h
  refine ⟨a, c, rfl, h1, ?_⟩
  by_cases h0 : us.length = 0
  · exact Or.inl h0
  · rcases h2 with h2 | ⟨b, o, rfl, hb, hc⟩
    · exact Or.inl h2
    · exact Or.inr ⟨b, o, rfl, Nat.lt_of_lt_of_le hb g.size, fun i u hu => World.grownBy.cell g (hc i u hu) (hne (by omega) _ _ _ _ rfl)⟩
/-- What a slice expression leaves. -/
theorem Sv.sliced {w : World} {a : Option Addr} {n c : Nat} {us : List Value} (h : Sv w (.slice a n c) us) {l k m : Nat} (h1 : l ≤ k) (h2 : k ≤ us.length) (h3 : k ≤ m) : Sv w (.slice (if m = l then a else a.map (·.add (l * 1))) (k - l) (m - l)) ((us.take k).drop l) := by
  have hl : ((us.take k).drop l).length = k - l := by rw [List.length_drop, List.length_take]; omega
  refine ⟨_, _, by rw [hl], by omega, ?_⟩
  by_cases c0 : k = l
  · exact Or.inl (by omega)
  · obtain ⟨b, o, rfl, hb, hc⟩ := h.row (by omega)
    refine Or.inr ⟨b, o + l, ?_, hb, fun i u hu => ?_⟩
    · rw [if_neg (by omega), Option.map_some, Nat.mul_one, add_off]
    · rw [List.getElem?_drop, List.getElem?_take] at hu
      split at hu
      · rw [Nat.add_assoc]
        exact hc _ _ hu
      · cases hu
theorem own_sv {B : Nat} {e : TypeId} {w : World} {v : Value} {n : Nat} {us : List Value} (h : w.ownsRow B e 1 v n us) : Sv w v us := by
  have hn : us.length = n := by have := h.1; omega
  have hc := fun g => World.ownsRow.cells (g := g) h
  rcases h.2 with ⟨rfl, h0⟩ | ⟨g, cap, cur, rfl, _, hg, hcap, _⟩
  · exact ⟨none, 0, by rw [hn, h0], by omega, Or.inl (by omega)⟩
  · refine ⟨_, _, by rw [hn], by omega, Or.inr ⟨g, 0, rfl, (Array.getElem?_eq_some_iff.1 hg).1, fun i u hu => ?_⟩⟩
    have := hc g rfl i u hu
    rwa [add_off] at this

/-! ### Appends -/
theorem run_app_nil (t e ty : TypeId) (b : Nat) (z : Value) (ht : Tryd.prog.underlying t = some (.slice e)) (hi0 : (Tryd.prog.info? e).map (fun i => (i.zero, i.size, i.bytes)) = some (some z, 1, b)) (v : Value) (n cap : Nat) (ao : Option Addr) (c : Nat) (w : World) (hv : v = .slice ao n cap) (h : n ≤ cap) (h0 : ao = none → n = 0 ∧ cap = 0) : (Builtin.append_ #[t, t] ty #[v, .slice none 0 c]).run Tryd.prog w = .ok v w := by
  obtain ⟨i0, hi, hz0, hz1, hz2⟩ := info_of hi0
  subst hv
  cases ao with
  | none =>
    obtain ⟨rfl, rfl⟩ := h0 rfl
    simp [Builtin.append_, run_underlying ht, sizeOf, typeInfo, hi, Builtin.lenOf, Builtin.firstCells]
  | some a => simp [Builtin.append_, run_underlying ht, sizeOf, typeInfo, hi, Builtin.lenOf, Builtin.firstCells, h, storeCells]
theorem run_app (t e ty : TypeId) (b : Nat) (z : Value) (ht : Tryd.prog.underlying t = some (.slice e)) (hi0 : (Tryd.prog.info? e).map (fun i => (i.zero, i.size, i.bytes)) = some (some z, 1, b)) (hzc : z.cells.size = 1) (hb : b ≤ 24)
    (B : Nat) (w : World) (v u : Value) (n : Nat) (us news : List Value) (hown : w.ownsRow B e 1 v n us) (hu : Sv w u news) (h1 : ∀ x ∈ news, x.oneCell' = true) (hl : n + news.length ≤ 1000000000) (hB : B ≤ w.heap.size) :
    ∃ v' w', (Builtin.append_ #[t, t] ty #[v, u]).run Tryd.prog w = .ok v' w' ∧ w'.ownsRow B e 1 v' (n + news.length) (us ++ news) ∧ w.grownBy w' v.ownBlock ∧ (v' = .slice none 0 0 ↔ v = .slice none 0 0 ∧ news.length = 0) := by
  obtain ⟨i0, hi, hz0, hz1, hz2⟩ := info_of hi0
  obtain ⟨a, c, rfl, _, hc⟩ := hu
  have hbb : (n + news.length) * b ≤ 140737488355328 := Nat.le_trans (Nat.mul_le_mul hl hb) (by decide)
  cases a with
  | none =>
    have h0 : news.length = 0 := by
      rcases hc with hc | ⟨b, o, e, _⟩
      · exact hc
      · cases e
    have hn : news = [] := List.eq_nil_of_length_eq_zero h0
    subst hn
    have hv : ∃ ao m cap, v = .slice ao m cap ∧ m ≤ cap ∧ (ao = none → m = 0 ∧ cap = 0) := by
      rcases hown.2 with ⟨rfl, _⟩ | ⟨g, cap, cur, rfl, _, _, hn, _⟩
      · exact ⟨none, 0, 0, rfl, Nat.le_refl _, fun _ => ⟨rfl, rfl⟩⟩
      · exact ⟨_, _, _, rfl, hn, fun e => (by cases e)⟩
    obtain ⟨ao, m, cap, e1, e2, e3⟩ := hv
    refine ⟨v, w, run_app_nil t e ty b z ht hi0 v m cap ao c w e1 e2 e3, by rw [List.append_nil]; exact hown, World.grownBy.refl _ _, ?_⟩
    simp
  | some ad =>
    refine run_append_own (P := Tryd.prog) w B t ty e i0 z 1 b ht hi hz0 hz1 hz2 hzc (by decide) v n us hown ad news.length c news (by omega) (fun j x e => ?_) h1 (by unfold maxLen; omega) hbb hB
    rcases hc with hc | ⟨b, o, e', _, hcell⟩
    · rw [List.eq_nil_of_length_eq_zero hc] at e
      cases e
    · cases e'
      rw [add_off]
      exact hcell j x e

/-! ### Integers -/
def ic (l : List Int) : List Value := l.map fun n => .int .i64 n
theorem ic_len (l : List Int) : (ic l).length = l.length := by unfold ic; rw [List.length_map]
theorem ic_append (k l : List Int) : ic (k ++ l) = ic k ++ ic l := by unfold ic; rw [List.map_append]
theorem ic_at {l : List Int} {i : Nat} (h : i < l.length) : (ic l)[i]? = some (.int .i64 l[i]) := by
  unfold ic
  rw [List.getElem?_map, List.getElem?_eq_getElem h]
  rfl
theorem ic_one (l : List Int) : ∀ x ∈ ic l, x.oneCell' = true := by
  intro x hx
  unfold ic at hx
  obtain ⟨y, _, rfl⟩ := List.mem_map.1 hx
  rfl
def Oki (l : List Int) : Prop := ∀ n, n ∈ l → I64 n
/-- A slice of these integers. -/
def Is (w : World) (v : Value) (l : List Int) : Prop := Sv w v (ic l) ∧ Oki l
theorem Is.grew {W w : World} {v : Value} {l : List Int} (h : Is W v l) (g : Grew W w) : Is w v l := ⟨h.1.grew g, h.2⟩
theorem Is.shape {w : World} {v : Value} {l : List Int} (h : Is w v l) : ∃ a c, v = .slice a l.length c ∧ l.length ≤ c := by
  have := Sv.shape h.1
  rwa [ic_len] at this
theorem Is.row {w : World} {a : Option Addr} {n c : Nat} {l : List Int} (h : Is w (.slice a n c) l) (h0 : 0 < l.length) : ∃ b o, a = some ⟨b, o, none⟩ ∧ b < w.heap.size ∧ ∀ i (hi : i < l.length), w.cell? ⟨b, o + i, none⟩ = some (.int .i64 l[i]) := by
  obtain ⟨b, o, e, hb, hc⟩ := Sv.row h.1 (by rw [ic_len]; exact h0)
  exact ⟨b, o, e, hb, fun i hi => hc i _ (ic_at hi)⟩
theorem Is.i64 {w : World} {v : Value} {l : List Int} (h : Is w v l) {i : Nat} (hi : i < l.length) : -9223372036854775808 ≤ l[i] ∧ l[i] ≤ 9223372036854775807 := h.2 _ (List.getElem_mem hi)
theorem Is.nil (w : World) (a : Option Addr) (c : Nat) : Is w (.slice a 0 c) [] := ⟨Sv.nil w a c, fun n hn => by cases hn⟩
theorem info_int : (Tryd.prog.info? 3).map (fun i => (i.zero, i.size, i.bytes)) = some (some (.int .i64 0), 1, 8) := by kernel_rfl
/-- An own slice of integers. -/
def Iw (B : Nat) (w : World) (v : Value) (l : List Int) : Prop := w.ownsRow B 3 1 v l.length (ic l)
theorem Iw.nil (B : Nat) (w : World) : Iw B w (.slice none 0 0) [] := World.ownsRow_nil w B _ 1
theorem Iw.alloc {B : Nat} {w : World} {v : Value} {l : List Int} (h : Iw B w v l) (o : Obj) : Iw B (w.alloc o) v l := World.ownsRow.alloc h o
theorem Iw.grew {B : Nat} {W w : World} {v : Value} {l : List Int} (h : Iw B W v l) (g : Grew W w) : Iw B w v l :=
  World.ownsRow.kept h (row := none) ⟨g.os, g.tape, g.output, g.size, fun k hk _ => g.block k hk⟩ (by cases hv : v.ownBlock <;> simp)
theorem Iw.lt {B : Nat} {w : World} {v : Value} {l : List Int} (h : Iw B w v l) : ∀ k, v.ownBlock = some k → B ≤ k ∧ k < w.heap.size := fun k e => World.ownsRow.lt h k e
theorem Iw.is {B : Nat} {w : World} {v : Value} {l : List Int} (h : Iw B w v l) (hk : Oki l) : Is w v l := ⟨own_sv h, hk⟩
/-- append(v, n). -/
theorem wp_int {o : Oper} {a : Act} {K : Act → World → Prop} {Q : Exit → Act → World → Prop} (w : World) (s x : Operand)
    (ho : o.op = .call { callee := .builtin .append, args := #[s, x], argTypes := #[24, 24] }) (B : Nat) (v : Value) (l : List Int) (wb c : Nat) (n : Int)
    (hs : a.eval s = v) (hown : Iw B w v l) (hx : a.eval x = .slice (some ⟨wb, 0, none⟩) 1 (c + 1)) (hwb : wb < w.heap.size) (hc : w.cell? ⟨wb, 0, none⟩ = some (.int .i64 n)) (hl : l.length ≤ 100000000) (hB : B ≤ w.heap.size)
    (h : ∀ v' w', Iw B w' v' (l ++ [n]) → w.grownBy w' v.ownBlock → K (a.put o.dst v') w') : o.wp Tryd.prog a w K Q := by
  have hu : Sv w (.slice (some ⟨wb, 0, none⟩) 1 (c + 1)) (ic [n]) := ⟨_, _, rfl, by rw [ic_len]; simp, Or.inr ⟨wb, 0, rfl, hwb, fun i u hu => by
    match i, hu with
    | 0, hu =>
      have e : (.int .i64 n : Value) = u := by simpa [ic] using hu
      rw [← e]; exact hc⟩⟩
  obtain ⟨v', w', hr, h1, h2, _⟩ := run_app 24 3 o.type 8 _ Tryd.underlying24 info_int rfl (by decide) B w v _ l.length _ _ hown hu (ic_one [n]) (by rw [ic_len, List.length_singleton]; omega) hB
  unfold Oper.wp execOp
  simp only [ho, resolve, invoke, builtin, Sem.run_bind, Sem.run_pure, Result.andThen_ok, List.map_toArray, List.map_cons, List.map_nil, hs, hx, hr]
  refine h v' w' ?_ h2
  unfold Iw
  rw [ic_append, List.length_append]
  rw [ic_len] at h1
  exact h1
theorem wpl_int {ops : Array Oper} {rest : List Oper} {o : Oper} {a : Act} {Q : Exit → Act → World → Prop} (w : World) (hgd : o.guard = none) (s x : Operand)
    (ho : o.op = .call { callee := .builtin .append, args := #[s, x], argTypes := #[24, 24] }) (B : Nat) (v : Value) (l : List Int) (wb c : Nat) (n : Int)
    (hs : a.eval s = v) (hown : Iw B w v l) (hx : a.eval x = .slice (some ⟨wb, 0, none⟩) 1 (c + 1)) (hwb : wb < w.heap.size) (hc : w.cell? ⟨wb, 0, none⟩ = some (.int .i64 n)) (hl : l.length ≤ 100000000) (hB : B ≤ w.heap.size)
    (h : ∀ v' w', Iw B w' v' (l ++ [n]) → w.grownBy w' v.ownBlock → wpList Tryd.prog ops Q rest (a.put o.dst v') w') : wpList Tryd.prog ops Q (o :: rest) a w :=
  wpList_plain hgd fun _ hK => wp_int w s x ho B v l wb c n hs hown hx hwb hc hl hB fun v' w' h1 h2 => hK _ _ (h v' w' h1 h2)

/-- A slice as package digest reads it. -/
theorem Is.dg {w : World} {v : Value} {l : List Int} (h : Is w v l) : Dg.Is w v l := by
  obtain ⟨a, c, rfl, h1⟩ := h.shape
  refine ⟨⟨a, c, rfl, ?_⟩, fun i hi => h.i64 hi⟩
  by_cases h0 : l.length = 0
  · exact Or.inl h0
  · obtain ⟨b, o, rfl, hb, hc⟩ := h.row (by omega)
    exact Or.inr ⟨b, o, rfl, hb, hc⟩
theorem Is.sliced {w : World} {a : Option Addr} {n c : Nat} {us : List Int} (h : Is w (.slice a n c) us) {k : Nat} (h2 : k ≤ us.length) : Is w (.slice a k c) (us.take k) := by
  refine ⟨?_, fun n hn => h.2 n (List.mem_of_mem_take hn)⟩
  obtain ⟨a', c', e, h3⟩ := h.shape
  injection e with e1 e2 e3
  subst e1 e2 e3
  have hl : (us.take k).length = k := by rw [List.length_take]; omega
  refine ⟨a, c, by rw [ic_len, hl], by rw [ic_len, hl]; omega, ?_⟩
  by_cases h0 : k = 0
  · exact Or.inl (by rw [ic_len, hl]; exact h0)
  · obtain ⟨b, o, rfl, hb, hc⟩ := h.row (by omega)
    refine Or.inr ⟨b, o, rfl, hb, fun i u hu => ?_⟩
    have hi : i < k := by
      have := (List.getElem?_eq_some_iff.1 hu).1
      rwa [ic_len, hl] at this
    rw [ic_at (by rw [hl]; exact hi), List.getElem_take] at hu
    injection hu with hu
    subst hu
    exact hc i (by omega)
theorem own_two {B : Nat} (w : World) (m n : Int) (hB : B ≤ w.heap.size) : Iw B (w.alloc (.cells #[.int .i64 m, .int .i64 n] 3)) (.slice (some ⟨w.heap.size, 0, none⟩) 2 2) [m, n] :=
  ⟨rfl, Or.inr ⟨w.heap.size, 2, #[.int .i64 m, .int .i64 n], rfl, hB, heap_alloc_new w _, Nat.le_refl _, by unfold maxLen; omega, rfl, rfl⟩⟩
theorem is_two {w : World} {m n : Int} (hm : I64 m) (hn : I64 n) : Is (w.alloc (.cells #[.int .i64 m, .int .i64 n] 3)) (.slice (some ⟨w.heap.size, 0, none⟩) 2 2) [m, n] :=
  (own_two w m n (Nat.le_refl _)).is (fun k hk => by
    rcases List.mem_cons.1 hk with rfl | hk
    · exact hm
    · rw [List.mem_singleton] at hk; subst hk; exact hn)
theorem Oki.cons {n : Int} {l : List Int} (h : I64 n) (k : Oki l) : Oki (n :: l) := fun m hm => by
  rcases List.mem_cons.1 hm with rfl | hm
  · exact h
  · exact k m hm
/-- append(v, u...). -/
theorem wp_ints {o : Oper} {a : Act} {K : Act → World → Prop} {Q : Exit → Act → World → Prop} (w : World) (s x : Operand)
    (ho : o.op = .call { callee := .builtin .append, args := #[s, x], argTypes := #[24, 24] }) (B : Nat) (v u : Value) (l m : List Int)
    (hs : a.eval s = v) (hown : Iw B w v l) (hx : a.eval x = u) (hu : Is w u m) (hl : l.length + m.length ≤ 1000000000) (hB : B ≤ w.heap.size)
    (h : ∀ v' w', Iw B w' v' (l ++ m) → w.grownBy w' v.ownBlock → K (a.put o.dst v') w') : o.wp Tryd.prog a w K Q := by
  obtain ⟨v', w', hr, h1, h2, _⟩ := run_app 24 3 o.type 8 _ Tryd.underlying24 info_int rfl (by decide) B w v u l.length _ _ hown hu.1 (ic_one m) (by rw [ic_len]; exact hl) hB
  unfold Oper.wp execOp
  simp only [ho, resolve, invoke, builtin, Sem.run_bind, Sem.run_pure, Result.andThen_ok, List.map_toArray, List.map_cons, List.map_nil, hs, hx, hr]
  refine h v' w' ?_ h2
  unfold Iw
  rw [ic_append, List.length_append]
  rw [ic_len] at h1
  exact h1
theorem wpl_ints {ops : Array Oper} {rest : List Oper} {o : Oper} {a : Act} {Q : Exit → Act → World → Prop} (w : World) (hgd : o.guard = none) (s x : Operand)
    (ho : o.op = .call { callee := .builtin .append, args := #[s, x], argTypes := #[24, 24] }) (B : Nat) (v u : Value) (l m : List Int)
    (hs : a.eval s = v) (hown : Iw B w v l) (hx : a.eval x = u) (hu : Is w u m) (hl : l.length + m.length ≤ 1000000000) (hB : B ≤ w.heap.size)
    (h : ∀ v' w', Iw B w' v' (l ++ m) → w.grownBy w' v.ownBlock → wpList Tryd.prog ops Q rest (a.put o.dst v') w') : wpList Tryd.prog ops Q (o :: rest) a w :=
  wpList_plain hgd fun _ hK => wp_ints w s x ho B v u l m hs hown hx hu hl hB fun v' w' h1 h2 => hK _ _ (h v' w' h1 h2)
end Sg
end Go.Proofs.YtfnnmkadmpflhaaDoor
