/-
  The landed sides; blocks.
  What leaves all blocks below one but a single one.
-/
import Derived.RangeFuncNested
import Derived.RangeFuncBound
import Derived.RangeFuncCalls
import Derived.RangeFuncLeaves
import Derived.Shelf.Abstract
import Derived.Shelf.RegionOpen
import Derived.OwnWalkIn
import Derived.TacticsInMore
import Derived.LoopNIn
import Derived.LoopIn
import Derived.Test.YtpiajdahmcelnaaGreatMHullSame
namespace Go.Proofs.YtpiajdahmcelnaaGreat
open Go.RowKit Go.Shelf
attribute [local go_sem] Oper.semAt_some
namespace Hl
/-- Two blocks lie as they lay. -/
def Kept (b B : Nat) (W W' : World) : Prop := W.heap.size ≤ W'.heap.size ∧ ∀ k, (k = b ∨ k = B) → W'.heap[k]? = W.heap[k]?
theorem Kept.refl (b B : Nat) (W : World) : Kept b B W W := ⟨Nat.le_refl _, fun _ _ => rfl⟩
theorem Kept.trans {b B : Nat} {X Y Z : World} (h : Kept b B X Y) (k : Kept b B Y Z) : Kept b B X Z := ⟨Nat.le_trans h.1 k.1, fun i hi => (k.2 i hi).trans (h.2 i hi)⟩
theorem Kept.grown {b B : Nat} {X Y Z : World} {row : Option Nat} (h : Kept b B X Y) (g : Y.grownBy Z row) (hb : b < Y.heap.size) (hB : B < Y.heap.size) (hr : row ≠ some b ∧ row ≠ some B) : Kept b B X Z :=
  ⟨Nat.le_trans h.1 g.size, fun k hk => (g.block k (by rcases hk with rfl | rfl <;> assumption) (by rcases hk with rfl | rfl; exact fun e => hr.1 e.symm; exact fun e => hr.2 e.symm)).trans (h.2 k hk)⟩
theorem Kept.cell {b B : Nat} {W W' : World} (h : Kept b B W W') {k o : Nat} (hk : k = b ∨ k = B) : W'.cell? ⟨k, o, none⟩ = W.cell? ⟨k, o, none⟩ := World.cell?_of_block (a := ⟨k, o, none⟩) (h.2 k hk)
theorem Row.kept {b B o : Nat} {p : List Pt} {W W' : World} (h : Row W b o p) (k : Kept b B W W') : Row W' b o p :=
  ⟨Nat.lt_of_lt_of_le h.1 k.1, fun i hi => ⟨(k.cell (Or.inl rfl)).trans (h.2 i hi).1, (k.cell (Or.inl rfl)).trans (h.2 i hi).2⟩⟩
theorem grownBy_drew (W : World) : W.grownBy W.drew none := ⟨rfl, rfl, rfl, Nat.le_refl _, fun _ _ _ => rfl⟩
theorem abides_alloc {β : Type} {n : Nat} {J : β → World → Prop} (h : AbidesFrom n J) {s : β} {W : World} (hs : J s W) (o : Obj) : J s (W.alloc o) := h s W _ none hs (World.grownBy_alloc W o none) (fun r e => by cases e)
theorem abides_drew {β : Type} {n : Nat} {J : β → World → Prop} (h : AbidesFrom n J) {s : β} {W : World} (hs : J s W) : J s W.drew := h s W _ none hs (grownBy_drew W) (fun r e => by cases e)

/-- The two ends of side i, as values. -/
def ends (p : List Pt) (i : Nat) : Array Value := #[.agg #[.int .i64 (at' p i).1, .int .i64 (at' p i).2], .agg #[.int .i64 (at' p ((i + 1) % p.length)).1, .int .i64 (at' p ((i + 1) % p.length)).2]]

set_option maxHeartbeats 1000000 in
theorem sides_in (n : Nat) (a : Option Addr) (len cap : Nat) (w : World) :
    CallsIn Fence.wide n Tryz.prog 94 #[.slice a len cap] w fun e w' => e = .returned (.func (.func 99) #[] #[.pointer (some ⟨w.heap.size, 0, none⟩)]) ∧ w' = w.alloc (.cells #[.slice a len cap] 38) := by
  refine callsIn_of_wp Tryz.func94 rfl trivial ?_ rfl
  simp only [Tryz.ntmps94, List.size_toArray, List.length_cons, List.length_nil, Nat.reduceAdd, Nat.reduceSub, Array.replicate_succ, Array.replicate_zero, List.push_toArray, List.append_toArray, List.nil_append, List.cons_append]
  gi_wp2
  go_ret
  exact ⟨rfl, rfl⟩

set_option maxRecDepth 100000 in
set_option maxHeartbeats 4000000 in
theorem sides1_in (n : Nat) (hn : 1 ≤ n) (l B b o c : Nat) (p : List Pt) (h1 : 1 ≤ p.length) (h2 : p.length ≤ 4000000) (J Jx : List Nat → World → Prop)
    (W : World) (hJ : AbidesFrom W.heap.size J) (_hJx : AbidesFrom W.heap.size Jx)
    (hY : ∀ pre i W1, J pre W1 → pre.length < p.length → YieldAt Fence.wide (n - 1) Tryz.prog l (ends p i) W1 fun e W' =>
      (e = .returned (.bool true) ∧ J (pre ++ [i]) W' ∧ Kept b B W1 W') ∨ (e = .returned (.bool false) ∧ Jx (pre ++ [i]) W'))
    (hB : B < W.heap.size) (hBs : W.cell? ⟨B, 0, none⟩ = some (.slice (some ⟨b, o, none⟩) p.length c)) (hr : Row W b o p) (h0 : J [] W) :
    CallsIn Fence.wide n Tryz.prog 99 #[.func (.yield l) #[] #[], .pointer (some ⟨B, 0, none⟩)] W fun e W' => (∃ v, e = .returned v) ∧
      ((∃ ys, ys = List.range p.length ∧ J ys W') ∨ (∃ pre, (∃ k, k ≤ p.length ∧ pre = List.range k) ∧ Jx pre W')) := by
  have HY := Lib.hid hY
  have HJ := Lib.hid hJ
  have HR := Lib.hid hr
  have HB := Lib.hid hBs
  clear hY hJ hr _hJx
  have hmx : Tryz.prog.follows .mixedOrders = true := by kernel_rfl
  refine callsIn_of_wp Tryz.func99 rfl trivial ?_ rfl
  simp only [Tryz.ntmps99, List.size_toArray, List.length_cons, List.length_nil, Nat.reduceAdd, Nat.reduceSub, Array.replicate_succ, Array.replicate_zero, List.push_toArray, List.append_toArray, List.nil_append, List.cons_append]
  gi_wp2
  gi_loopw [7, 3] (fun i _ wr => ∃ k : Nat, k ≤ p.length ∧ i = .int .i64 k ∧ J (List.range k) wr ∧ Kept b B W wr)
    (fun i _ _ => p.length - (intOf i).toNat)
  case atStart => exact ⟨0, Nat.zero_le _, rfl, h0, Kept.refl _ _ _⟩
  case round =>
    obtain ⟨k, hk, rfl, hJs, hK⟩ := hrel
    by_cases hlt : k < p.length
    · obtain ⟨m, hm⟩ : ∃ m, (k + 1) % p.length = m := ⟨_, rfl⟩
      have hmm : m < p.length := by rw [← hm]; exact Nat.mod_lt _ (by omega)
      have TM' : ((k : Int) + 1).tmod (p.length : Int) = (m : Int) := by
        rw [← hm, Int.natCast_emod, Int.natCast_add]
        exact Int.tmod_eq_emod_of_nonneg (by omega)
      have WK' : IntKind.i64.wrap ((k : Int) + 1) = (k : Int) + 1 := IntWalk.i64_in _ ⟨by omega, by omega⟩
      have TM2 : ((k : Int) + 1) % (p.length : Int) = (m : Int) := by rw [← TM']; exact (Int.tmod_eq_emod_of_nonneg (by omega)).symm
      have nz : (p.length : Int) ≠ 0 := by omega
      have nz2 : ((p.length : Int) == 0) = false := by rw [beq_eq_false_iff_ne]; omega
      have nz3 : ¬ p.length = 0 := by omega
      have k0 : (0 : Int) ≤ (k : Int) + 1 := by omega
      obtain ⟨s0, s1⟩ := (HR.out.kept hK).2 k hlt
      obtain ⟨s2, s3⟩ := (HR.out.kept hK).2 m hmm
      have hb := (HR.out.kept hK).1
      have cB := (hK.cell (o := 0) (Or.inr rfl)).trans HB.out
      have lB : B < wr.heap.size := by have := hK.1; omega
      have i0 : (0 : Int) ≤ (k : Int) := by omega
      have i1 : (k : Int) < (p.length : Int) := by omega
      have i2 : (m : Int) < (p.length : Int) := by omega
      have hb1 : b < wr.heap.size + 1 := by omega
      have lB1 : B < wr.heap.size + 1 := by omega
      have KW : Hid (Kept b B W (wr.alloc (.cells #[.int .i64 (at' p k).1, .int .i64 (at' p k).2] 30)).drew) := Lib.hid ((hK.grown (World.grownBy_alloc wr _ none) hb lB (by simp)).grown (grownBy_drew _) (by simp; omega) (by simp; omega) (by simp))
      have hJ1 : J (List.range k) (wr.alloc (.cells #[.int .i64 (at' p k).1, .int .i64 (at' p k).2] 30)).drew := abides_drew HJ.out (abides_alloc HJ.out hJs _)
      obtain ⟨fn, tmps, assign, body, hy, hR⟩ := HY.out _ k _ hJ1 (by simpa using hlt)
      have hR' := hR.mono (R' := fun e W' => ∃ r : Bool, e = .returned (.bool r) ∧ Hid ((r = true → J (List.range (k + 1)) W' ∧ Kept b B W W') ∧ (r = false → Jx (List.range (k + 1)) W'))) (by
        rintro e W' (⟨rfl, h1, h2⟩ | ⟨rfl, h1⟩)
        · exact ⟨true, rfl, Lib.hid ⟨fun _ => ⟨by rw [List.range_succ]; exact h1, KW.out.trans h2⟩, fun h => by cases h⟩⟩
        · exact ⟨false, rfl, Lib.hid ⟨fun h => (by cases h), fun _ => (by rw [List.range_succ]; exact h1)⟩⟩)
      clear hR hJ1 hJs hK KW
      unfold ends at hy
      rw [hm] at hy
      clear hm
      gi_wp2
      gi_region_with_o (refine hR'.mono ?_; rintro e W3 ⟨r, rfl, hjr⟩)
      all_goals gi_wp2
      all_goals first
        | (refine bodyPost_ret (results_none rfl _ _ _) rfl ?_
           have hr0 : (!r) = true := by assumption
           exact ⟨⟨_, rfl⟩, .inr ⟨_, ⟨k + 1, by omega, rfl⟩, hjr.out.2 (by simpa using hr0)⟩⟩)
        | (have hr0 : (!r) = false := by assumption
           go_roundw
           case rel => exact ⟨k + 1, by omega, by simp, (hjr.out.1 (by simpa using hr0)).1, (hjr.out.1 (by simpa using hr0)).2⟩
           case measure => simp [intOf]; omega)
    · obtain rfl : k = p.length := by omega
      gi_wp2
      go_end0
      exact ⟨⟨_, rfl⟩, .inl ⟨_, rfl, hJs⟩⟩
end Hl
end Go.Proofs.YtpiajdahmcelnaaGreat
namespace Go.Proofs.YtpiajdahmcelnaaGreat
open Go.RowKit Go.Shelf
namespace Hl
theorem sides_stops (n : Nat) (hn : 1 ≤ n) (B b o c : Nat) (p : List Pt) (h1 : 1 ≤ p.length) (h2 : p.length ≤ 4000000) (w : World) (hB : B < w.heap.size)
    (hc : w.cell? ⟨B, 0, none⟩ = some (.slice (some ⟨b, o, none⟩) p.length c)) (hr : Row w b o p) :
    SeqStopsK Fence.wide n Tryz.prog 99 #[.pointer (some ⟨B, 0, none⟩)] (ends p) (Kept b B) (fun ys => ys = List.range p.length) (fun pre => ∃ k, k ≤ p.length ∧ pre = List.range k) p.length w :=
  fun l J Jx W hW hJ hJx hY h0 => sides1_in n hn l B b o c p h1 h2 J Jx W hJ hJx hY (Nat.lt_of_lt_of_le hB hW.size) ((hW.cell (p := ⟨B, 0, none⟩) hB).trans hc) (hr.grown hW) h0
theorem kept_b {b B : Nat} {w : World} (hb : b < w.heap.size) (hB : B < w.heap.size) (W : World) (l : Nat) (o o' : Obj) (hl : w.heap.size ≤ l) (_h : W.heap[l]? = some o) (_ : o.isCells = false) (_ : o.isWalk = false) : Kept b B W (W.putObj l o') :=
  ⟨(grownBy_putObj' W l o').size, fun k hk => World.putObj_heap_other (by rcases hk with rfl | rfl <;> omega)⟩
theorem Kept.alloc {b B : Nat} {X Y : World} (h : Kept b B X Y) (hb : b < Y.heap.size) (hB : B < Y.heap.size) (o : Obj) : Kept b B X (Y.alloc o) := h.grown (World.grownBy_alloc Y o none) hb hB (by simp)
theorem Kept.setCell {b B : Nat} {X Y : World} (h : Kept b B X Y) {k o : Nat} (h1 : b ≠ k) (h2 : B ≠ k) (v : Value) : Kept b B X (Y.setCell ⟨k, o, none⟩ v) :=
  ⟨by rw [show (Y.setCell ⟨k, o, none⟩ v).heap.size = Y.heap.size by simp [World.setCell]]; exact h.1, fun i hi => (Below.heap_setCell Y _ v i (by rcases hi with rfl | rfl <;> assumption)).trans (h.2 i hi)⟩
/-- A block of cells. -/
def Blk (W : World) (B : Nat) (cs : Array Value) (t : TypeId) : Prop := W.heap[B]? = some (.cells cs t (0, 0))
theorem Blk.lt {W : World} {B : Nat} {cs : Array Value} {t : TypeId} (h : Blk W B cs t) : B < W.heap.size := (Array.getElem?_eq_some_iff.1 h).1
theorem Blk.kept {W W' : World} {B : Nat} {cs : Array Value} {t : TypeId} {row : Option Nat} (h : Blk W B cs t) (g : W.grownBy W' row) (hne : some B ≠ row) : Blk W' B cs t := (g.block B h.lt hne).trans h
theorem Blk.alloc {W : World} {B : Nat} {cs : Array Value} {t : TypeId} (h : Blk W B cs t) (o : Obj) : Blk (W.alloc o) B cs t := h.kept (World.grownBy_alloc W o none) (by simp)
theorem Blk.drew {W : World} {B : Nat} {cs : Array Value} {t : TypeId} (h : Blk W B cs t) : Blk W.drew B cs t := h
theorem Blk.new (W : World) (cs : Array Value) (t : TypeId) : Blk (W.alloc (.cells cs t)) W.heap.size cs t := World.alloc_heap_new W _
theorem Blk.grown {W W' : World} {B : Nat} {cs : Array Value} {t : TypeId} (h : Blk W B cs t) (g : Grew W W') : Blk W' B cs t := (g.block B h.lt).trans h
theorem Blk.one {W : World} {B : Nat} {v : Value} {t : TypeId} (h : Blk W B #[v] t) : W.cell? ⟨B, 0, none⟩ = some v ∧ W.frozen? ⟨B, 0, none⟩ = false := by simp [World.cell?, World.frozen?, show W.heap[B]? = _ from h]
theorem Blk.two {W : World} {B : Nat} {u v : Value} {t : TypeId} (h : Blk W B #[u, v] t) : (W.cell? ⟨B, 0, none⟩ = some u ∧ W.cell? ⟨B, 1, none⟩ = some v) ∧ W.frozen? ⟨B, 0, none⟩ = false ∧ W.frozen? ⟨B, 1, none⟩ = false := by simp [World.cell?, World.frozen?, show W.heap[B]? = _ from h]
theorem Blk.other {W : World} {B B' o : Nat} {cs : Array Value} {t : TypeId} (h : Blk W B cs t) (hne : B ≠ B') (u : Value) : Blk (W.setCell ⟨B', o, none⟩ u) B cs t := (Below.heap_setCell _ _ _ B hne).trans h
theorem Blk.set {W : World} {B o : Nat} {cs : Array Value} {t : TypeId} (v : Value) (h : Blk W B cs t) : Blk (W.setCell ⟨B, o, none⟩ v) B (cs.setIfInBounds o v) t := by
  obtain ⟨hlt, hk⟩ := Array.getElem?_eq_some_iff.1 h
  show (W.heap.modify B _)[B]? = _
  rw [Array.getElem?_eq_getElem (by rw [Array.size_modify]; exact hlt), Array.getElem_modify_self, hk]
  rfl
theorem Blk.put0 {W : World} {B : Nat} {u v : Value} {t : TypeId} (h : Blk W B #[u] t) : Blk (W.setCell ⟨B, 0, none⟩ v) B #[v] t := h.set v
theorem Blk.put2 {W : World} {B : Nat} {u v u' v' : Value} {t : TypeId} (h : Blk W B #[u, v] t) : Blk ((W.setCell ⟨B, 0, none⟩ u').setCell ⟨B, 1, none⟩ v') B #[u', v'] t := (h.set (o := 0) u').set (o := 1) v'
theorem blk_own {β : Type} (B : Nat) (t : TypeId) (f : β → Array Value) : Go.Own (fun s W => Blk W B (f s) t) := fun s X Y row hs hg hrow =>
  hs.kept hg (fun e' => by obtain ⟨o, ho, hc⟩ := hrow B e'.symm; rw [show X.heap[B]? = _ from hs] at ho; cases ho; cases hc)
end Hl
end Go.Proofs.YtpiajdahmcelnaaGreat
namespace Go.Proofs.YtpiajdahmcelnaaGreat
open Go.RowKit
namespace Hl
/-- Nothing below B has turned but block C. -/
structure Leaves (B C : Nat) (w w' : World) : Prop where
  os : w'.os = w.os
  tape : w'.tape = w.tape
  output : w'.output = w.output
  size : w.heap.size ≤ w'.heap.size
  block : ∀ k, k < B → k ≠ C → w'.heap[k]? = w.heap[k]?
theorem Leaves.refl (B C : Nat) (w : World) : Leaves B C w w := ⟨rfl, rfl, rfl, Nat.le_refl _, fun _ _ _ => rfl⟩
theorem Leaves.trans {B C : Nat} {a b c : World} (h : Leaves B C a b) (k : Leaves B C b c) : Leaves B C a c := ⟨k.os.trans h.os, k.tape.trans h.tape, k.output.trans h.output, Nat.le_trans h.size k.size, fun i h1 h2 => (k.block i h1 h2).trans (h.block i h1 h2)⟩
theorem Leaves.grown {B C : Nat} {a b c : World} {row : Option Nat} (h : Leaves B C a b) (g : b.grownBy c row) (hB : B ≤ b.heap.size) (hr : ∀ k, row = some k → B ≤ k ∨ k = C) : Leaves B C a c :=
  h.trans ⟨g.os, g.tape, g.output, g.size, fun k h1 h2 => g.block k (by omega) (fun e => by rcases hr k e.symm with h | h <;> omega)⟩
theorem Leaves.grew {B C : Nat} {a b c : World} (h : Leaves B C a b) (g : Grew b c) (hB : B ≤ b.heap.size) : Leaves B C a c :=
  h.trans ⟨g.os, g.tape, g.output, g.size, fun k h1 _ => g.block k (by omega)⟩
theorem Leaves.toGrew {B C : Nat} {w W w' : World} (h : Leaves B C W w') (g : Grew w W) (hB : w.heap.size ≤ B) (hC : w.heap.size ≤ C) : Grew w w' :=
  ⟨h.os.trans g.os, h.tape.trans g.tape, h.output.trans g.output, Nat.le_trans g.size h.size, fun k hk => (h.block k (by omega) (by omega)).trans (g.block k hk)⟩
theorem Leaves.blk {B C b : Nat} {w w' : World} {cs : Array Value} {t : TypeId} (h : Leaves B C w w') (hb : Blk w b cs t) (hg : b < B) (hc : b ≠ C) : Blk w' b cs t := (h.block b hg hc).trans hb
end Hl
end Go.Proofs.YtpiajdahmcelnaaGreat
