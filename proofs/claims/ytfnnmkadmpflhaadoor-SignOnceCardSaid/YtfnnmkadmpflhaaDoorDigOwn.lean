/-
  Slices of bytes of the call's own, to which bytes and texts are appended; a text made of one.
-/
import Derived.Test.YtfnnmkadmpflhaaDoorWorld
import Derived.Laws.AppendOwn
import Derived.Lib.AppendStr
import Derived.Laws.IdiomStrings
namespace Go.Proofs.YtfnnmkadmpflhaaDoor
open Go.RowKit Wd
namespace Dg
theorem info_u8 : (Tryd.prog.info? 5).map (fun i => (i.zero, i.size, i.bytes)) = some (some (.int .u8 0), 1, 1) := by kernel_rfl
theorem info_of {P : Program} {t : TypeId} {z : Option Value} {n b : Nat} (h : (P.info? t).map (fun i => (i.zero, i.size, i.bytes)) = some (z, n, b)) : ∃ i, P.info? t = some i ∧ i.zero = z ∧ i.size = n ∧ i.bytes = b := by
  cases e : P.info? t with
  | none => rw [e] at h; cases h
  | some i =>
    rw [e] at h
    simp only [Option.map_some, Option.some.injEq, Prod.mk.injEq] at h
    exact ⟨i, rfl, h.1, h.2.1, h.2.2⟩
/-- v is a slice of the call's own (in blocks from B on) that holds the bytes l. -/
def Bw (B : Nat) (w : World) (v : Value) (l : List UInt8) : Prop := w.ownsRow B 5 1 v l.length (Lib.byteCells l)
theorem Bw.nil (B : Nat) (w : World) : Bw B w (.slice none 0 0) [] := World.ownsRow_nil w B _ 1
theorem Bw.alloc {B : Nat} {w : World} {v : Value} {l : List UInt8} (h : Bw B w v l) (o : Obj) : Bw B (w.alloc o) v l := World.ownsRow.alloc h o
theorem Bw.drew {B : Nat} {w : World} {v : Value} {l : List UInt8} (h : Bw B w v l) : Bw B w.drew v l := h
theorem Bw.grew {B : Nat} {W w : World} {v : Value} {l : List UInt8} (h : Bw B W v l) (g : Grew W w) : Bw B w v l :=
  World.ownsRow.kept h (row := none) ⟨g.os, g.tape, g.output, g.size, fun k hk _ => g.block k hk⟩ (by cases hv : v.ownBlock <;> simp)
theorem Bw.lt {B : Nat} {w : World} {v : Value} {l : List UInt8} (h : Bw B w v l) : ∀ k, v.ownBlock = some k → B ≤ k ∧ k < w.heap.size := fun k e => World.ownsRow.lt h k e
theorem Bw.shape {B : Nat} {w : World} {v : Value} {l : List UInt8} (h : Bw B w v l) : ∃ a c, v = .slice a l.length c := by
  rcases h.2 with ⟨rfl, e⟩ | ⟨g, cap, cur, rfl, _⟩
  · exact ⟨none, 0, by rw [e]⟩
  · exact ⟨_, _, rfl⟩
theorem cells_at {l : List UInt8} {j : Nat} (h : j < l.length) : (Lib.byteCells l)[j]? = some (.int .u8 (l[j].toNat : Int)) := by
  unfold Lib.byteCells
  rw [List.getElem?_map, List.getElem?_eq_getElem h]
  rfl
theorem add_at (g k : Nat) : (⟨g, 0, none⟩ : Addr).add k = ⟨g, k, none⟩ := by
  unfold Addr.add
  split
  · rename_i e; subst e; rfl
  · simp
theorem Bw.at {B : Nat} {w : World} {v : Value} {l : List UInt8} (h : Bw B w v l) (h0 : 0 < l.length) : ∃ g c, v = .slice (some ⟨g, 0, none⟩) l.length c ∧ B ≤ g ∧ g < w.heap.size ∧ l.length ≤ c ∧ ∀ j (hj : j < l.length), w.cell? ⟨g, j, none⟩ = some (.int .u8 (l[j].toNat : Int)) := by
  have hc := fun g => World.ownsRow.cells (g := g) h
  rcases h.2 with ⟨_, e⟩ | ⟨g, cap, cur, rfl, hB, hg, hn, _⟩
  · omega
  · refine ⟨g, cap, rfl, hB, (Array.getElem?_eq_some_iff.1 hg).1, hn, fun j hj => ?_⟩
    have := hc g rfl j _ (cells_at hj)
    rwa [add_at] at this
theorem own_byte {B : Nat} (w : World) (b : UInt8) (hB : B ≤ w.heap.size) : Bw B (w.alloc (.cells #[.int .u8 (b.toNat : Int)] 5)) (.slice (some ⟨w.heap.size, 0, none⟩) 1 1) [b] :=
  ⟨rfl, Or.inr ⟨w.heap.size, 1, #[.int .u8 (b.toNat : Int)], rfl, hB, heap_alloc_new w _, Nat.le_refl _, by unfold maxLen; omega, rfl, rfl⟩⟩
/-- append(s, b), where b lies in a block of its own. -/
theorem wpl_byte {ops : Array Oper} {rest : List Oper} {o : Oper} {a : Act} {Q : Exit → Act → World → Prop} (w : World) (hgd : o.guard = none) (s x : Operand)
    (ho : o.op = .call { callee := .builtin .append, args := #[s, x], argTypes := #[59, 59] }) (B : Nat) (v : Value) (l : List UInt8) (wb c : Nat) (b : UInt8)
    (hs : a.eval s = v) (hown : Bw B w v l) (hx : a.eval x = .slice (some ⟨wb, 0, none⟩) 1 c) (hc : w.cell? ⟨wb, 0, none⟩ = some (.int .u8 (b.toNat : Int))) (hl : l.length ≤ 140737488355327) (hB : B ≤ w.heap.size)
    (h : ∀ v' w', Bw B w' v' (l ++ [b]) → w.grownBy w' v.ownBlock → wpList Tryd.prog ops Q rest (a.put o.dst v') w') : wpList Tryd.prog ops Q (o :: rest) a w := by
  obtain ⟨i0, hi, hz0, hz1, hz2⟩ := info_of info_u8
  refine wpList_append_own w hgd s x 59 ho B 5 i0 (.int .u8 0) 1 1 Tryd.underlying59 hi hz0 hz1 hz2 rfl (by decide) v l.length (Lib.byteCells l) hs hown ⟨wb, 0, none⟩ 1 c [.int .u8 (b.toNat : Int)] hx rfl ?_ ?_ (by unfold maxLen; omega) (by omega) hB ?_
  · intro j u hj
    match j, hj with
    | 0, hj =>
      have e : (.int .u8 (b.toNat : Int) : Value) = u := by simpa using hj
      rw [← e, add_at]; exact hc
  · intro u hu
    rw [List.mem_singleton] at hu
    subst hu
    rfl
  · intro v' w' h1 h2 _
    refine h v' w' ?_ h2
    unfold Bw
    rw [Lib.byteCells_append, List.length_append]
    exact h1
/-- append(s, t...), where t is a text. -/
theorem wpl_text {ops : Array Oper} {rest : List Oper} {o : Oper} {a : Act} {Q : Exit → Act → World → Prop} (w : World) (hgd : o.guard = none) (s x : Operand)
    (ho : o.op = .call { callee := .builtin .append, args := #[s, x], argTypes := #[59, 9] }) (B : Nat) (v : Value) (l t : List UInt8)
    (hs : a.eval s = v) (hown : Bw B w v l) (hx : a.eval x = .string ⟨t.toArray⟩) (hl : l.length + t.length ≤ 140737488355328) (hB : B ≤ w.heap.size)
    (h : ∀ v' w', Bw B w' v' (l ++ t) → w.grownBy w' v.ownBlock → wpList Tryd.prog ops Q rest (a.put o.dst v') w') : wpList Tryd.prog ops Q (o :: rest) a w := by
  obtain ⟨i0, hi, hz0, hz1, hz2⟩ := info_of info_u8
  have hsz : (ByteArray.mk t.toArray).size = t.length := by show t.toArray.size = _; simp
  refine Lib.wpList_append_own_string w hgd s x 59 9 ho B 5 i0 Tryd.underlying59 Tryd.underlying9 hi hz0 hz1 hz2 v l.length (Lib.byteCells l) hs hown ⟨t.toArray⟩ hx (by rw [hsz]; unfold maxLen; omega) (by rw [hsz]; omega) hB ?_
  intro v' w' h1 h2 _
  refine h v' w' ?_ h2
  unfold Bw
  rw [Lib.byteCells_append, List.length_append]
  rw [hsz] at h1
  exact h1
/-- string(v). -/
theorem conv_text {B : Nat} {w : World} {v : Value} {l : List UInt8} (h : Bw B w v l) : (convert 59 9 v).run Tryd.prog w = .ok (.string ⟨l.toArray⟩) w := by
  by_cases h0 : 0 < l.length
  · obtain ⟨g, c, rfl, _, _, _, hc⟩ := h.at h0
    exact run_convert_bytes_back w 59 9 5 ⟨g, 0, none⟩ c l Tryd.underlying59 Tryd.underlying5 Tryd.underlying9 (fun j hj => by rw [add_at]; exact hc j hj)
  · obtain rfl : l = [] := List.eq_nil_of_length_eq_zero (by omega)
    obtain ⟨a, c, rfl⟩ := h.shape
    rw [List.length_nil, run_convert_bytes_string w 59 9 5 a 0 c Tryd.underlying59 Tryd.underlying5 Tryd.underlying9]
    cases a <;> simp [Conv.bytesToString, loadCells]
    all_goals rfl
end Dg
end Go.Proofs.YtfnnmkadmpflhaaDoor
