/-
  Slices whose elements take one cell each (bytes, integers, slices of integers): what came in, and what the call itself gathers.
-/
import Derived.Test.YtljmdpjjieoedaaDoorDigOwn
import Derived.Test.YtljmdpjjieoedaaDoorCodPlain
import Derived.Deep.Slices
namespace Go.Proofs.YtljmdpjjieoedaaDoor
open Go.RowKit Wd
namespace Co

/-- A slice with these cells. -/
def Sv (w : World) (v : Value) (us : List Value) : Prop := ∃ a c, v = .slice a us.length c ∧ us.length ≤ c ∧ (us.length = 0 ∨ ∃ b o, a = some ⟨b, o, none⟩ ∧ b < w.heap.size ∧ ∀ i u, us[i]? = some u → w.cell? ⟨b, o + i, none⟩ = some u)
theorem add_off (b o k : Nat) : (⟨b, o, none⟩ : Addr).add k = ⟨b, o + k, none⟩ := by
  unfold Addr.add
  split
  · rename_i e; subst e; rfl
  · rfl
theorem Sv.grew {W w : World} {v : Value} {us : List Value} (h : Sv W v us) (g : Grew W w) : Sv w v us := by
  obtain ⟨a, c, rfl, h1, h2⟩ := h
  refine ⟨a, c, rfl, h1, ?_⟩
  rcases h2 with h2 | ⟨b, o, rfl, hb, hc⟩
  · exact Or.inl h2
  · exact Or.inr ⟨b, o, rfl, Nat.lt_of_lt_of_le hb g.size, fun i u hu => by rw [g.cell hb]; exact hc i u hu⟩
theorem Sv.shape {w : World} {v : Value} {us : List Value} (h : Sv w v us) : ∃ a c, v = .slice a us.length c ∧ us.length ≤ c := by
  obtain ⟨a, c, e, h1, _⟩ := h
  exact ⟨a, c, e, h1⟩
theorem Sv.row {w : World} {a : Option Addr} {n c : Nat} {us : List Value} (h : Sv w (.slice a n c) us) (h0 : 0 < us.length) : ∃ b o, a = some ⟨b, o, none⟩ ∧ b < w.heap.size ∧ ∀ i u, us[i]? = some u → w.cell? ⟨b, o + i, none⟩ = some u := by
  obtain ⟨a', c', e, _, h2⟩ := h
  injection e with e1 e2 e3
  subst e1
  rcases h2 with h2 | h2
  · omega
  · exact h2
theorem Sv.nil (w : World) (a : Option Addr) (c : Nat) : Sv w (.slice a 0 c) [] := ⟨a, c, rfl, Nat.zero_le _, Or.inl rfl⟩
theorem Sv.kept {w w' : World} {v : Value} {us : List Value} {row : Option Nat} (h : Sv w v us) (g : w.grownBy w' row) (hne : 0 < us.length → ∀ b o n c, v = .slice (some ⟨b, o, none⟩) n c → some b ≠ row) : Sv w' v us := by
  obtain ⟨a, c, rfl, h1, h2⟩ := h
  refine ⟨a, c, rfl, h1, ?_⟩
  by_cases h0 : us.length = 0
  · exact Or.inl h0
  · rcases h2 with h2 | ⟨b, o, rfl, hb, hc⟩
    · exact Or.inl h2
    · exact Or.inr ⟨b, o, rfl, Nat.lt_of_lt_of_le hb g.size, fun i u hu => World.grownBy.cell g (hc i u hu) (hne (by omega) _ _ _ _ rfl)⟩
/-- What a slice expression leaves. -/
theorem Sv.sliced {w : World} {a : Option Addr} {n c : Nat} {us : List Value} (h : Sv w (.slice a n c) us) {l k m : Nat} (h1 : l ≤ k) (h2 : k ≤ us.length) (h3 : k ≤ m) : Sv w (.slice (if m = l then a else a.map (·.add (l * 1))) (k - l) (m - l)) ((us.take k).drop l) := by
  have hl : ((us.take k).drop l).length = k - l := by rw [List.length_drop, List.length_take]; omega
  refine ⟨_, _, by rw [hl], by omega, ?_⟩
  by_cases c0 : k = l
  · exact Or.inl (by omega)
  · obtain ⟨b, o, rfl, hb, hc⟩ := h.row (by omega)
    refine Or.inr ⟨b, o + l, ?_, hb, fun i u hu => ?_⟩
    · rw [if_neg (by omega), Option.map_some, Nat.mul_one, add_off]
    · rw [List.getElem?_drop, List.getElem?_take] at hu
      split at hu
      · rw [Nat.add_assoc]
        exact hc _ _ hu
      · cases hu
theorem own_sv {B : Nat} {e : TypeId} {w : World} {v : Value} {n : Nat} {us : List Value} (h : w.ownsRow B e 1 v n us) : Sv w v us := by
  have hn : us.length = n := by have := h.1; omega
  have hc := fun g => World.ownsRow.cells (g := g) h
  rcases h.2 with ⟨rfl, h0⟩ | ⟨g, cap, cur, rfl, _, hg, hcap, _⟩
  · exact ⟨none, 0, by rw [hn, h0], by omega, Or.inl (by omega)⟩
  · refine ⟨_, _, by rw [hn], by omega, Or.inr ⟨g, 0, rfl, (Array.getElem?_eq_some_iff.1 hg).1, fun i u hu => ?_⟩⟩
    have := hc g rfl i u hu
    rwa [add_off] at this

/-! ### Appends -/
theorem run_app_nil (t e ty : TypeId) (b : Nat) (z : Value) (ht : Tryd.prog.underlying t = some (.slice e)) (hi0 : (Tryd.prog.info? e).map (fun i => (i.zero, i.size, i.bytes)) = some (some z, 1, b)) (v : Value) (n cap : Nat) (ao : Option Addr) (c : Nat) (w : World) (hv : v = .slice ao n cap) (h : n ≤ cap) (h0 : ao = none → n = 0 ∧ cap = 0) : (Builtin.append_ #[t, t] ty #[v, .slice none 0 c]).run Tryd.prog w = .ok v w := by
  obtain ⟨i0, hi, hz0, hz1, hz2⟩ := Dg.info_of hi0
  subst hv
  cases ao with
  | none =>
    obtain ⟨rfl, rfl⟩ := h0 rfl
    simp [Builtin.append_, run_underlying ht, sizeOf, typeInfo, hi, Builtin.lenOf, Builtin.firstCells]
  | some a => simp [Builtin.append_, run_underlying ht, sizeOf, typeInfo, hi, Builtin.lenOf, Builtin.firstCells, h, storeCells]
theorem run_app (t e ty : TypeId) (b : Nat) (z : Value) (ht : Tryd.prog.underlying t = some (.slice e)) (hi0 : (Tryd.prog.info? e).map (fun i => (i.zero, i.size, i.bytes)) = some (some z, 1, b)) (hzc : z.cells.size = 1) (hb : b ≤ 24)
    (B : Nat) (w : World) (v u : Value) (n : Nat) (us news : List Value) (hown : w.ownsRow B e 1 v n us) (hu : Sv w u news) (h1 : ∀ x ∈ news, x.oneCell' = true) (hl : n + news.length ≤ 1000000000) (hB : B ≤ w.heap.size) :
    ∃ v' w', (Builtin.append_ #[t, t] ty #[v, u]).run Tryd.prog w = .ok v' w' ∧ w'.ownsRow B e 1 v' (n + news.length) (us ++ news) ∧ w.grownBy w' v.ownBlock ∧ (v' = .slice none 0 0 ↔ v = .slice none 0 0 ∧ news.length = 0) := by
  obtain ⟨i0, hi, hz0, hz1, hz2⟩ := Dg.info_of hi0
  obtain ⟨a, c, rfl, _, hc⟩ := hu
  have hbb : (n + news.length) * b ≤ 140737488355328 := Nat.le_trans (Nat.mul_le_mul hl hb) (by decide)
  cases a with
  | none =>
    have h0 : news.length = 0 := by
      rcases hc with hc | ⟨b, o, e, _⟩
      · exact hc
      · cases e
    have hn : news = [] := List.eq_nil_of_length_eq_zero h0
    subst hn
    have hv : ∃ ao m cap, v = .slice ao m cap ∧ m ≤ cap ∧ (ao = none → m = 0 ∧ cap = 0) := by
      rcases hown.2 with ⟨rfl, _⟩ | ⟨g, cap, cur, rfl, _, _, hn, _⟩
      · exact ⟨none, 0, 0, rfl, Nat.le_refl _, fun _ => ⟨rfl, rfl⟩⟩
      · exact ⟨_, _, _, rfl, hn, fun e => (by cases e)⟩
    obtain ⟨ao, m, cap, e1, e2, e3⟩ := hv
    refine ⟨v, w, run_app_nil t e ty b z ht hi0 v m cap ao c w e1 e2 e3, by rw [List.append_nil]; exact hown, World.grownBy.refl _ _, ?_⟩
    simp
  | some ad =>
    refine run_append_own (P := Tryd.prog) w B t ty e i0 z 1 b ht hi hz0 hz1 hz2 hzc (by decide) v n us hown ad news.length c news (by omega) (fun j x e => ?_) h1 (by unfold maxLen; omega) hbb hB
    rcases hc with hc | ⟨b, o, e', _, hcell⟩
    · rw [List.eq_nil_of_length_eq_zero hc] at e
      cases e
    · cases e'
      rw [add_off]
      exact hcell j x e

/-! ### Bytes -/
/-- A slice of these bytes. -/
def Bs (w : World) (v : Value) (l : List UInt8) : Prop := Sv w v (Lib.byteCells l)
theorem bc_len (l : List UInt8) : (Lib.byteCells l).length = l.length := by unfold Lib.byteCells; rw [List.length_map]
theorem bc_take (l : List UInt8) (k : Nat) : (Lib.byteCells l).take k = Lib.byteCells (l.take k) := by unfold Lib.byteCells; rw [List.map_take]
theorem bc_drop (l : List UInt8) (k : Nat) : (Lib.byteCells l).drop k = Lib.byteCells (l.drop k) := by unfold Lib.byteCells; rw [List.map_drop]
theorem bc_one (l : List UInt8) : ∀ x ∈ Lib.byteCells l, x.oneCell' = true := by
  intro x hx
  unfold Lib.byteCells at hx
  obtain ⟨y, _, rfl⟩ := List.mem_map.1 hx
  rfl
theorem Bs.grew {W w : World} {v : Value} {l : List UInt8} (h : Bs W v l) (g : Grew W w) : Bs w v l := Sv.grew h g
theorem Bs.shape {w : World} {v : Value} {l : List UInt8} (h : Bs w v l) : ∃ a c, v = .slice a l.length c ∧ l.length ≤ c := by
  have := Sv.shape h
  rwa [bc_len] at this
theorem Bs.row {w : World} {a : Option Addr} {n c : Nat} {l : List UInt8} (h : Bs w (.slice a n c) l) (h0 : 0 < l.length) : ∃ b o, a = some ⟨b, o, none⟩ ∧ b < w.heap.size ∧ ∀ i (hi : i < l.length), w.cell? ⟨b, o + i, none⟩ = some (.int .u8 (l[i].toNat : Int)) := by
  obtain ⟨b, o, e, hb, hc⟩ := Sv.row h (by rw [bc_len]; exact h0)
  exact ⟨b, o, e, hb, fun i hi => hc i _ (Dg.cells_at hi)⟩
theorem Bs.nil (w : World) (a : Option Addr) (c : Nat) : Bs w (.slice a 0 c) [] := Sv.nil w a c
theorem Bs.sliced {w : World} {a : Option Addr} {n c : Nat} {us : List UInt8} (h : Bs w (.slice a n c) us) {l k m : Nat} (h1 : l ≤ k) (h2 : k ≤ us.length) (h3 : k ≤ m) : Bs w (.slice (if m = l then a else a.map (·.add (l * 1))) (k - l) (m - l)) ((us.take k).drop l) := by
  have := Sv.sliced h h1 (by rw [bc_len]; exact h2) h3
  rwa [bc_take, bc_drop] at this
theorem own_bs {B : Nat} {w : World} {v : Value} {l : List UInt8} (h : Dg.Bw B w v l) : Bs w v l := own_sv h
theorem one_bs (w : World) (b : UInt8) (c : Nat) (hc : 1 ≤ c) : Bs (w.alloc (.cells #[.int .u8 (b.toNat : Int)] 5)) (.slice (some ⟨w.heap.size, 0, none⟩) 1 c) [b] :=
  ⟨_, _, rfl, hc, Or.inr ⟨w.heap.size, 0, rfl, by simp, fun i u hu => by
    match i, hu with
    | 0, hu =>
      have e : (.int .u8 (b.toNat : Int) : Value) = u := by simpa [Lib.byteCells] using hu
      rw [← e]; simp [go_sem]⟩⟩
/-- string(v). -/
theorem conv_bs {w : World} {v : Value} {l : List UInt8} (h : Bs w v l) : (convert 23 9 v).run Tryd.prog w = .ok (.string ⟨l.toArray⟩) w := by
  obtain ⟨a, c, rfl, _⟩ := h.shape
  by_cases h0 : 0 < l.length
  · obtain ⟨g, o, rfl, _, hc⟩ := h.row h0
    exact run_convert_bytes_back w 23 9 5 ⟨g, o, none⟩ c l Tryd.underlying23 Tryd.underlying5 Tryd.underlying9 (fun j hj => by rw [add_off]; exact hc j hj)
  · obtain rfl : l = [] := List.eq_nil_of_length_eq_zero (by omega)
    rw [List.length_nil, run_convert_bytes_string w 23 9 5 a 0 c Tryd.underlying23 Tryd.underlying5 Tryd.underlying9]
    cases a <;> simp [Conv.bytesToString, loadCells]
    all_goals rfl
/-- append(v, u...) of bytes. -/
theorem run_bytes (ty : TypeId) (B : Nat) (w : World) (v u : Value) (l t : List UInt8) (hown : Dg.Bw B w v l) (hu : Bs w u t) (hl : l.length + t.length ≤ 1000000000) (hB : B ≤ w.heap.size) :
    ∃ v' w', (Builtin.append_ #[23, 23] ty #[v, u]).run Tryd.prog w = .ok v' w' ∧ Dg.Bw B w' v' (l ++ t) ∧ w.grownBy w' v.ownBlock := by
  obtain ⟨v', w', h1, h2, h3, _⟩ := run_app 23 5 ty 1 _ Tryd.underlying23 Dg.info_u8 rfl (by decide) B w v u l.length _ _ hown hu (bc_one t) (by rw [bc_len]; exact hl) hB
  refine ⟨v', w', h1, ?_, h3⟩
  unfold Dg.Bw
  rw [Lib.byteCells_append, List.length_append]
  rw [bc_len] at h2
  exact h2
theorem wp_bytes {o : Oper} {a : Act} {K : Act → World → Prop} {Q : Exit → Act → World → Prop} (w : World) (s x : Operand)
    (ho : o.op = .call { callee := .builtin .append, args := #[s, x], argTypes := #[23, 23] }) (B : Nat) (v u : Value) (l t : List UInt8)
    (hs : a.eval s = v) (hown : Dg.Bw B w v l) (hx : a.eval x = u) (hu : Bs w u t) (hl : l.length + t.length ≤ 1000000000) (hB : B ≤ w.heap.size)
    (h : ∀ v' w', Dg.Bw B w' v' (l ++ t) → w.grownBy w' v.ownBlock → K (a.put o.dst v') w') : o.wp Tryd.prog a w K Q := by
  obtain ⟨v', w', hr, h1, h2⟩ := run_bytes o.type B w v u l t hown hu hl hB
  unfold Oper.wp execOp
  simp only [ho, resolve, invoke, builtin, Sem.run_bind, Sem.run_pure, Result.andThen_ok, List.map_toArray, List.map_cons, List.map_nil, hs, hx, hr]
  exact h v' w' h1 h2
theorem wpl_bytes {ops : Array Oper} {rest : List Oper} {o : Oper} {a : Act} {Q : Exit → Act → World → Prop} (w : World) (hgd : o.guard = none) (s x : Operand)
    (ho : o.op = .call { callee := .builtin .append, args := #[s, x], argTypes := #[23, 23] }) (B : Nat) (v u : Value) (l t : List UInt8)
    (hs : a.eval s = v) (hown : Dg.Bw B w v l) (hx : a.eval x = u) (hu : Bs w u t) (hl : l.length + t.length ≤ 1000000000) (hB : B ≤ w.heap.size)
    (h : ∀ v' w', Dg.Bw B w' v' (l ++ t) → w.grownBy w' v.ownBlock → wpList Tryd.prog ops Q rest (a.put o.dst v') w') : wpList Tryd.prog ops Q (o :: rest) a w :=
  wpList_plain hgd fun _ hK => wp_bytes w s x ho B v u l t hs hown hx hu hl hB fun v' w' h1 h2 => hK _ _ (h v' w' h1 h2)

/-! ### Integers -/
def ic (l : List Int) : List Value := l.map fun n => .int .i64 n
theorem ic_len (l : List Int) : (ic l).length = l.length := by unfold ic; rw [List.length_map]
theorem ic_append (k l : List Int) : ic (k ++ l) = ic k ++ ic l := by unfold ic; rw [List.map_append]
theorem ic_at {l : List Int} {i : Nat} (h : i < l.length) : (ic l)[i]? = some (.int .i64 l[i]) := by
  unfold ic
  rw [List.getElem?_map, List.getElem?_eq_getElem h]
  rfl
theorem ic_one (l : List Int) : ∀ x ∈ ic l, x.oneCell' = true := by
  intro x hx
  unfold ic at hx
  obtain ⟨y, _, rfl⟩ := List.mem_map.1 hx
  rfl
def Oki (l : List Int) : Prop := ∀ n, n ∈ l → I64 n
/-- A slice of these integers. -/
def Is (w : World) (v : Value) (l : List Int) : Prop := Sv w v (ic l) ∧ Oki l
theorem Is.grew {W w : World} {v : Value} {l : List Int} (h : Is W v l) (g : Grew W w) : Is w v l := ⟨h.1.grew g, h.2⟩
theorem Is.shape {w : World} {v : Value} {l : List Int} (h : Is w v l) : ∃ a c, v = .slice a l.length c ∧ l.length ≤ c := by
  have := Sv.shape h.1
  rwa [ic_len] at this
theorem Is.row {w : World} {a : Option Addr} {n c : Nat} {l : List Int} (h : Is w (.slice a n c) l) (h0 : 0 < l.length) : ∃ b o, a = some ⟨b, o, none⟩ ∧ b < w.heap.size ∧ ∀ i (hi : i < l.length), w.cell? ⟨b, o + i, none⟩ = some (.int .i64 l[i]) := by
  obtain ⟨b, o, e, hb, hc⟩ := Sv.row h.1 (by rw [ic_len]; exact h0)
  exact ⟨b, o, e, hb, fun i hi => hc i _ (ic_at hi)⟩
theorem Is.i64 {w : World} {v : Value} {l : List Int} (h : Is w v l) {i : Nat} (hi : i < l.length) : -9223372036854775808 ≤ l[i] ∧ l[i] ≤ 9223372036854775807 := h.2 _ (List.getElem_mem hi)
theorem Is.nil (w : World) (a : Option Addr) (c : Nat) : Is w (.slice a 0 c) [] := ⟨Sv.nil w a c, fun n hn => by cases hn⟩
theorem info_int : (Tryd.prog.info? 3).map (fun i => (i.zero, i.size, i.bytes)) = some (some (.int .i64 0), 1, 8) := by kernel_rfl
/-- An own slice of integers. -/
def Iw (B : Nat) (w : World) (v : Value) (l : List Int) : Prop := w.ownsRow B 3 1 v l.length (ic l)
theorem Iw.nil (B : Nat) (w : World) : Iw B w (.slice none 0 0) [] := World.ownsRow_nil w B _ 1
theorem Iw.alloc {B : Nat} {w : World} {v : Value} {l : List Int} (h : Iw B w v l) (o : Obj) : Iw B (w.alloc o) v l := World.ownsRow.alloc h o
theorem Iw.grew {B : Nat} {W w : World} {v : Value} {l : List Int} (h : Iw B W v l) (g : Grew W w) : Iw B w v l :=
  World.ownsRow.kept h (row := none) ⟨g.os, g.tape, g.output, g.size, fun k hk _ => g.block k hk⟩ (by cases hv : v.ownBlock <;> simp)
theorem Iw.lt {B : Nat} {w : World} {v : Value} {l : List Int} (h : Iw B w v l) : ∀ k, v.ownBlock = some k → B ≤ k ∧ k < w.heap.size := fun k e => World.ownsRow.lt h k e
theorem Iw.is {B : Nat} {w : World} {v : Value} {l : List Int} (h : Iw B w v l) (hk : Oki l) : Is w v l := ⟨own_sv h, hk⟩
/-- append(v, n). -/
theorem wp_int {o : Oper} {a : Act} {K : Act → World → Prop} {Q : Exit → Act → World → Prop} (w : World) (s x : Operand)
    (ho : o.op = .call { callee := .builtin .append, args := #[s, x], argTypes := #[22, 22] }) (B : Nat) (v : Value) (l : List Int) (wb c : Nat) (n : Int)
    (hs : a.eval s = v) (hown : Iw B w v l) (hx : a.eval x = .slice (some ⟨wb, 0, none⟩) 1 (c + 1)) (hwb : wb < w.heap.size) (hc : w.cell? ⟨wb, 0, none⟩ = some (.int .i64 n)) (hl : l.length ≤ 100000000) (hB : B ≤ w.heap.size)
    (h : ∀ v' w', Iw B w' v' (l ++ [n]) → w.grownBy w' v.ownBlock → K (a.put o.dst v') w') : o.wp Tryd.prog a w K Q := by
  have hu : Sv w (.slice (some ⟨wb, 0, none⟩) 1 (c + 1)) (ic [n]) := ⟨_, _, rfl, by rw [ic_len]; simp, Or.inr ⟨wb, 0, rfl, hwb, fun i u hu => by
    match i, hu with
    | 0, hu =>
      have e : (.int .i64 n : Value) = u := by simpa [ic] using hu
      rw [← e]; exact hc⟩⟩
  obtain ⟨v', w', hr, h1, h2, _⟩ := run_app 22 3 o.type 8 _ Tryd.underlying22 info_int rfl (by decide) B w v _ l.length _ _ hown hu (ic_one [n]) (by rw [ic_len, List.length_singleton]; omega) hB
  unfold Oper.wp execOp
  simp only [ho, resolve, invoke, builtin, Sem.run_bind, Sem.run_pure, Result.andThen_ok, List.map_toArray, List.map_cons, List.map_nil, hs, hx, hr]
  refine h v' w' ?_ h2
  unfold Iw
  rw [ic_append, List.length_append]
  rw [ic_len] at h1
  exact h1
theorem wpl_int {ops : Array Oper} {rest : List Oper} {o : Oper} {a : Act} {Q : Exit → Act → World → Prop} (w : World) (hgd : o.guard = none) (s x : Operand)
    (ho : o.op = .call { callee := .builtin .append, args := #[s, x], argTypes := #[22, 22] }) (B : Nat) (v : Value) (l : List Int) (wb c : Nat) (n : Int)
    (hs : a.eval s = v) (hown : Iw B w v l) (hx : a.eval x = .slice (some ⟨wb, 0, none⟩) 1 (c + 1)) (hwb : wb < w.heap.size) (hc : w.cell? ⟨wb, 0, none⟩ = some (.int .i64 n)) (hl : l.length ≤ 100000000) (hB : B ≤ w.heap.size)
    (h : ∀ v' w', Iw B w' v' (l ++ [n]) → w.grownBy w' v.ownBlock → wpList Tryd.prog ops Q rest (a.put o.dst v') w') : wpList Tryd.prog ops Q (o :: rest) a w :=
  wpList_plain hgd fun _ hK => wp_int w s x ho B v l wb c n hs hown hx hwb hc hl hB fun v' w' h1 h2 => hK _ _ (h v' w' h1 h2)

/-! ### Lists of integers -/
/-- A slice of slices of these integers. -/
def Ls (w : World) (v : Value) (L : List (List Int)) : Prop := ∃ us, us.length = L.length ∧ Sv w v us ∧ ∀ i (hi : i < L.length), ∃ u, us[i]? = some u ∧ Is w u L[i]
theorem Ls.grew {W w : World} {v : Value} {L : List (List Int)} (h : Ls W v L) (g : Grew W w) : Ls w v L := by
  obtain ⟨us, h1, h2, h3⟩ := h
  exact ⟨us, h1, h2.grew g, fun i hi => by obtain ⟨u, k1, k2⟩ := h3 i hi; exact ⟨u, k1, k2.grew g⟩⟩
theorem Ls.shape {w : World} {v : Value} {L : List (List Int)} (h : Ls w v L) : ∃ a c, v = .slice a L.length c ∧ L.length ≤ c := by
  obtain ⟨us, h1, h2, _⟩ := h
  have := h2.shape
  rwa [h1] at this
theorem Ls.row {w : World} {a : Option Addr} {n c : Nat} {L : List (List Int)} (h : Ls w (.slice a n c) L) (h0 : 0 < L.length) : ∃ b o, a = some ⟨b, o, none⟩ ∧ b < w.heap.size ∧ ∀ i (hi : i < L.length), ∃ u, w.cell? ⟨b, o + i, none⟩ = some u ∧ Is w u L[i] := by
  obtain ⟨us, h1, h2, h3⟩ := h
  obtain ⟨b, o, e, hb, hc⟩ := h2.row (by omega)
  refine ⟨b, o, e, hb, fun i hi => ?_⟩
  obtain ⟨u, k1, k2⟩ := h3 i hi
  exact ⟨u, hc i u k1, k2⟩
theorem Ls.nil (w : World) (a : Option Addr) (c : Nat) : Ls w (.slice a 0 c) [] := ⟨[], rfl, Sv.nil w a c, fun i hi => by cases hi⟩
theorem Ls.sliced {w : World} {a : Option Addr} {n c : Nat} {L : List (List Int)} (h : Ls w (.slice a n c) L) {l k m : Nat} (h1 : l ≤ k) (h2 : k ≤ L.length) (h3 : k ≤ m) : Ls w (.slice (if m = l then a else a.map (·.add (l * 1))) (k - l) (m - l)) ((L.take k).drop l) := by
  obtain ⟨us, e1, e2, e3⟩ := h
  refine ⟨(us.take k).drop l, by rw [List.length_drop, List.length_take, List.length_drop, List.length_take, e1], e2.sliced h1 (by omega) h3, fun i hi => ?_⟩
  rw [List.length_drop, List.length_take] at hi
  obtain ⟨u, k1, k2⟩ := e3 (l + i) (by omega)
  refine ⟨u, ?_, ?_⟩
  · rw [List.getElem?_drop, List.getElem?_take, if_pos (by omega)]
    exact k1
  · rw [List.getElem_drop, List.getElem_take]
    exact k2
theorem info_ints : (Tryd.prog.info? 22).map (fun i => (i.zero, i.size, i.bytes)) = some (some (.slice none 0 0), 1, 24) := by kernel_rfl
def IsHd (u : Value) : Prop := ∃ a n c, u = .slice a n c
/-- The cells of a block are slices. -/
def HdB (w : World) (g : Nat) : Prop := ∃ (cur : Array Value) (t : TypeId) (fr : Nat × Nat), w.heap[g]? = some (.cells cur t fr) ∧ ∀ (j : Nat) (u : Value), cur[j]? = some u → IsHd u
theorem HdB.apart {w : World} {g b o n c : Nat} {l : List Int} (h : HdB w g) (hr : Is w (.slice (some ⟨b, o, none⟩) n c) l) (h0 : 0 < l.length) : b ≠ g := by
  rintro rfl
  obtain ⟨cur, t, fr, e, hc⟩ := h
  obtain ⟨b', o', e', _, hcell⟩ := hr.row h0
  cases e'
  have k := hcell 0 h0
  unfold World.cell? at k
  rw [show w.heap[(⟨b, o + 0, none⟩ : Addr).block]? = some (.cells cur t fr) from e] at k
  obtain ⟨a, n, c, e⟩ := hc _ _ k
  cases e
theorem HdB.kept {w w' : World} {g : Nat} (h : HdB w g) (e : w'.heap[g]? = w.heap[g]?) : HdB w' g := by
  obtain ⟨cur, t, fr, k, hc⟩ := h
  exact ⟨cur, t, fr, e.trans k, hc⟩
/-- An own slice of slices of these integers. -/
structure Lw (B : Nat) (w : World) (v : Value) (L : List (List Int)) : Prop where
  own : ∃ us : List Value, us.length = L.length ∧ w.ownsRow B 22 1 v L.length us ∧ ∀ i (hi : i < L.length), ∃ u, us[i]? = some u ∧ Is w u L[i]
  hd : ∀ g, v.ownBlock = some g → HdB w g
theorem Lw.nil (B : Nat) (w : World) : Lw B w (.slice none 0 0) [] := ⟨⟨[], rfl, World.ownsRow_nil w B _ 1, fun i hi => by cases hi⟩, fun g h => (by cases h)⟩
theorem Lw.lt {B : Nat} {w : World} {v : Value} {L : List (List Int)} (h : Lw B w v L) : ∀ k, v.ownBlock = some k → B ≤ k ∧ k < w.heap.size := by
  obtain ⟨us, _, h1, _⟩ := h.own
  exact World.ownsRow.lt h1
theorem Lw.ls {B : Nat} {w : World} {v : Value} {L : List (List Int)} (h : Lw B w v L) : Ls w v L := by
  obtain ⟨us, h0, h1, h2⟩ := h.own
  exact ⟨us, h0, own_sv h1, h2⟩
theorem Lw.grew {B : Nat} {w w' : World} {v : Value} {L : List (List Int)} (h : Lw B w v L) (g : Grew w w') : Lw B w' v L := by
  obtain ⟨us, h0, h1, h2⟩ := h.own
  refine ⟨⟨us, h0, ?_, fun i hi => by obtain ⟨u, k1, k2⟩ := h2 i hi; exact ⟨u, k1, k2.grew g⟩⟩, fun k e => (h.hd k e).kept (g.block k (h.lt k e).2)⟩
  exact World.ownsRow.kept h1 (row := none) ⟨g.os, g.tape, g.output, g.size, fun k hk _ => g.block k hk⟩ (by cases hv : v.ownBlock <;> simp)
theorem zero_hd (z : Value) (hz : z.cells = #[.slice none 0 0]) (k : Nat) : ∀ u, u ∈ (Builtin.zeroCells z.cells k).toList → IsHd u := by
  intro u hu
  rw [hz] at hu
  unfold Builtin.zeroCells at hu
  simp at hu
  obtain ⟨a, _, e⟩ := hu
  rw [Nat.mod_one] at e
  exact ⟨none, 0, 0, e.symm⟩
theorem hd_new (w : World) (cur : Array Value) (t : TypeId) (h : ∀ u, u ∈ cur.toList → IsHd u) : HdB (w.alloc (.cells cur t)) w.heap.size :=
  ⟨cur, t, (0, 0), heap_alloc_new w _, fun j u e => h u (by rw [← Array.getElem?_toList] at e; exact List.mem_of_getElem? e)⟩
theorem cons_hd (us news : List Value) (z : Value) (hz : z.cells = #[.slice none 0 0]) (k : Nat) (h1 : ∀ u, u ∈ us → IsHd u) (h2 : ∀ u, u ∈ news → IsHd u) : ∀ u, u ∈ (us.toArray ++ news.toArray ++ Builtin.zeroCells z.cells k).toList → IsHd u := by
  intro u hu
  rw [Array.toList_append, Array.toList_append] at hu
  rcases List.mem_append.1 hu with hu | hu
  · rcases List.mem_append.1 hu with hu | hu
    · exact h1 u (by simpa using hu)
    · exact h2 u (by simpa using hu)
  · exact zero_hd z hz k u hu
theorem hd_app {B : Nat} (ty : TypeId) (i0 : TypeInfo) (hi : Tryd.prog.info? 22 = some i0) (hz0 : i0.zero = some (.slice none 0 0)) (hz1 : i0.size = 1) (hz2 : i0.bytes = 24)
    (w : World) (v : Value) (n : Nat) (us : List Value) (hown : w.ownsRow B 22 1 v n us) (hd : ∀ g, v.ownBlock = some g → HdB w g)
    (a : Addr) (m c : Nat) (news : List Value) (hl : news.length = m) (hnews : ∀ (j : Nat) (u : Value), news[j]? = some u → w.cell? (a.add j) = some u) (h2 : ∀ u, u ∈ news → IsHd u) (h63 : n + m ≤ 4000000)
    (v' : Value) (w' : World) (hr : (Builtin.append_ #[32, 32] ty #[v, .slice (some a) m c]).run Tryd.prog w = .ok v' w') (hv : v' = .slice none 0 0 ↔ v = .slice none 0 0 ∧ m = 0) : ∀ g, v'.ownBlock = some g → HdB w' g := by
  intro g hg
  have one : ∀ u, u ∈ news → u.oneCell' = true := fun u hu => by
    obtain ⟨a, n, c, rfl⟩ := h2 u hu
    rfl
  have hc1 : (Value.slice none 0 0).cells = #[.slice none 0 0] := rfl
  rcases hown.2 with ⟨rfl, rfl⟩ | ⟨g0, cap, cur, rfl, hbg, hg0, hnc, hcm, hcs, htake⟩
  · by_cases hm : m = 0
    · rw [hv.2 ⟨rfl, hm⟩] at hg
      cases hg
    · have k := run_append_nil (P := Tryd.prog) w 32 ty 22 i0 _ Tryd.underlying32 hi hz0 a m c news (by rw [hz1, hl]; omega) hnews (by omega) (by omega) (by rw [hz2]; omega)
      rw [hr] at k
      injection k with k1 k2
      subst k1 k2
      injection hg with hg
      subst hg
      have := hd_new w.drew (news.toArray ++ Builtin.zeroCells (Value.slice none 0 0).cells (grownCap w m 0 22 - m)) 22 (fun u hu => cons_hd [] news _ hc1 _ (fun u hu => by cases hu) h2 u (by simpa using hu))
      exact this
  · have usl : us.length = n := by rw [hown.1]; omega
    obtain ⟨cur', t', fr', e', hc'⟩ := hd g0 rfl
    rw [hg0] at e'
    injection e' with e'
    injection e' with e1 e2 e3
    subst e1 e2 e3
    have mem_cur : ∀ u, u ∈ cur.toList → IsHd u := fun u hu => by
      obtain ⟨j, hj, e⟩ := List.getElem_of_mem hu
      exact hc' j u (by rw [← Array.getElem?_toList, List.getElem?_eq_getElem hj, e])
    by_cases hroom : n + m ≤ cap
    · have k := run_append_room (P := Tryd.prog) w 32 ty 22 i0 Tryd.underlying32 hi g0 n cap cur hg0 a m c news (by rw [hz1, hl]; omega) hnews one hroom (by rw [hz1, hl, hcs]; omega)
      rw [hr] at k
      injection k with k1 k2
      subst k1 k2
      injection hg with hg
      subst hg
      refine ⟨_, _, _, setRow_heap w g0 cur _ 22 _ hg0, fun j u e => ?_⟩
      have hu : u ∈ cur.toList.take (n * i0.size) ++ news ++ cur.toList.drop (n * i0.size + news.length) := by
        rw [← Array.getElem?_toList] at e
        simpa using List.mem_of_getElem? e
      rcases List.mem_append.1 hu with hu | hu
      · rcases List.mem_append.1 hu with hu | hu
        · exact mem_cur u (List.mem_of_mem_take hu)
        · exact h2 u hu
      · exact mem_cur u (List.mem_of_mem_drop hu)
    · have holds : ∀ (j : Nat) (u : Value), us[j]? = some u → w.cell? ((⟨g0, 0, none⟩ : Addr).add j) = some u := hown.cells (g := g0) rfl
      have k := run_append_grow (P := Tryd.prog) w 32 ty 22 i0 _ Tryd.underlying32 hi hz0 ⟨g0, 0, none⟩ n cap us (by rw [hz1, usl]; omega) holds a m c news (by rw [hz1, hl]; omega) hnews (by omega) (by omega) (growslice_fits (by omega) (by rw [hz2]; omega))
      rw [hr] at k
      injection k with k1 k2
      subst k1 k2
      injection hg with hg
      subst hg
      have := hd_new w.drew (us.toArray ++ news.toArray ++ Builtin.zeroCells (Value.slice none 0 0).cells (grownCap w (n + m) cap 22 - (n + m))) 22 (cons_hd us news _ hc1 _ (fun u hu => mem_cur u (by rw [← htake] at hu; exact List.mem_of_mem_take hu)) h2)
      exact this
/-- What an append of a list leaves. -/
structure After (B : Nat) (w : World) (v' : Value) (w' : World) (N : List (List Int)) : Prop where
  own : Lw B w' v' N
  grew : ∀ W : World, W.heap.size ≤ B → Grew W w → Grew W w'
/-- append(v, l). -/
theorem wp_list {o : Oper} {a : Act} {K : Act → World → Prop} {Q : Exit → Act → World → Prop} (w : World) (s x : Operand)
    (ho : o.op = .call { callee := .builtin .append, args := #[s, x], argTypes := #[32, 32] }) (B : Nat) (v : Value) (L : List (List Int)) (wb c : Nat) (u : Value) (l : List Int)
    (hs : a.eval s = v) (hown : Lw B w v L) (hx : a.eval x = .slice (some ⟨wb, 0, none⟩) 1 c) (hc : w.cell? ⟨wb, 0, none⟩ = some u) (hu : Is w u l) (hl : L.length ≤ 1000000) (hB : B ≤ w.heap.size)
    (h : ∀ v' w', After B w v' w' (L ++ [l]) → K (a.put o.dst v') w') : o.wp Tryd.prog a w K Q := by
  obtain ⟨i0, hi, hz0, hz1, hz2⟩ := Dg.info_of info_ints
  obtain ⟨us, hl0, ho1, hs1⟩ := hown.own
  have hd2 : ∀ x, x ∈ [u] → IsHd x := fun x hx => by
    rw [List.mem_singleton.1 hx]
    obtain ⟨a, c, e, _⟩ := hu.shape
    exact ⟨_, _, _, e⟩
  have one : ∀ x, x ∈ [u] → x.oneCell' = true := fun x hx => by
    obtain ⟨a, n, c, rfl⟩ := hd2 x hx
    rfl
  have news : ∀ (j : Nat) (x : Value), [u][j]? = some x → w.cell? ((⟨wb, 0, none⟩ : Addr).add j) = some x := fun j x e => by
    match j, e with
    | 0, e =>
      have e' : u = x := by simpa using e
      rw [← e', add_off]
      exact hc
  obtain ⟨v', w', hr, h2, h3, h4⟩ := run_append_own (P := Tryd.prog) w B 32 o.type 22 i0 (.slice none 0 0) 1 24 Tryd.underlying32 hi hz0 hz1 hz2 rfl (by decide) v L.length us ho1 ⟨wb, 0, none⟩ 1 c [u] rfl news one (by unfold maxLen; omega) (by omega) hB
  have kp : ∀ (x : Value) (q : List Int), Is w x q → Is w' x q := fun x q hx => ⟨Sv.kept hx.1 h3 (fun h0 b o n c e eb => by
    subst e
    rw [ic_len] at h0
    exact (hown.hd b eb.symm).apart hx h0 rfl), hx.2⟩
  unfold Oper.wp execOp
  simp only [ho, resolve, invoke, builtin, Sem.run_bind, Sem.run_pure, Result.andThen_ok, List.map_toArray, List.map_cons, List.map_nil, hs, hx, hr]
  refine h v' w' ⟨⟨⟨us ++ [u], by simp; omega, by rw [List.length_append]; exact h2, fun i hi => ?_⟩, hd_app o.type i0 hi hz0 hz1 hz2 w v L.length us ho1 hown.hd ⟨wb, 0, none⟩ 1 c [u] rfl news hd2 (by omega) v' w' hr h4⟩, fun W hW g => Grew.grown g h3 (fun k hk => Nat.le_trans hW (hown.lt k hk).1)⟩
  by_cases c1 : i < L.length
  · obtain ⟨y, k1, k2⟩ := hs1 i c1
    refine ⟨y, ?_, ?_⟩
    · rw [List.getElem?_append_left (by omega)]
      exact k1
    · rw [List.getElem_append_left c1]
      exact kp y _ k2
  · have hi' : i = L.length := by rw [List.length_append, List.length_singleton] at hi; omega
    subst hi'
    refine ⟨u, ?_, ?_⟩
    · rw [List.getElem?_append_right (by omega), hl0, Nat.sub_self]
      rfl
    · simp only [List.getElem_append_right (Nat.le_refl _), Nat.sub_self, List.getElem_cons_zero]
      exact kp u _ hu
theorem wpl_list {ops : Array Oper} {rest : List Oper} {o : Oper} {a : Act} {Q : Exit → Act → World → Prop} (w : World) (hgd : o.guard = none) (s x : Operand)
    (ho : o.op = .call { callee := .builtin .append, args := #[s, x], argTypes := #[32, 32] }) (B : Nat) (v : Value) (L : List (List Int)) (wb c : Nat) (u : Value) (l : List Int)
    (hs : a.eval s = v) (hown : Lw B w v L) (hx : a.eval x = .slice (some ⟨wb, 0, none⟩) 1 c) (hc : w.cell? ⟨wb, 0, none⟩ = some u) (hu : Is w u l) (hl : L.length ≤ 1000000) (hB : B ≤ w.heap.size)
    (h : ∀ v' w', After B w v' w' (L ++ [l]) → wpList Tryd.prog ops Q rest (a.put o.dst v') w') : wpList Tryd.prog ops Q (o :: rest) a w :=
  wpList_plain hgd fun _ hK => wp_list w s x ho B v L wb c u l hs hown hx hc hu hl hB fun v' w' h2 => hK _ _ (h v' w' h2)
end Co
end Go.Proofs.YtljmdpjjieoedaaDoor
