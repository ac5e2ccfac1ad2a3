/-
  The reference implementation of layer 3: what speaks of single places.
  The reference implementation of layer 3 over slices of points: places, Valid.
  The reference implementation of layer 3 over slices of points: between, Inside.
  The table of the first quarter's rays, in a world where it is as its text lays it; it stays as memory grows.
  The reference implementation of layer 3 over slices of points: Inside.
-/
import Derived.WalkKit
import Derived.WalkSpells
import Derived.WalkLawsBesides
import Derived.RowKit3
import Derived.Below
import Derived.Handy
import Derived.Lib.Hide
import Derived.Deep.QuietTactic
import Derived.BigQuiet
import Derived.Deep.RegionHeld3
import Derived.Test.YtcihkpjdjenbjaaDoorRows
import Derived.Test.YtcihkpjdjenbjaaDoorHullGeoC
import Derived.Lib.LaidU8
import Derived.Lib.SmallJoins
import Derived.MakeChecks
import Derived.Test.YtcihkpjdjenbjaaDoorRayDir
import Derived.Deep.RegionWith
namespace Go.Proofs.YtcihkpjdjenbjaaDoor
open Go.RowKit
namespace Hl

/-- Below the old size nothing has turned. -/
def Grew (W w : World) : Prop := Below W.heap.size W w
theorem Grew.refl (W : World) : Grew W W := Below.refl _ _
theorem Grew.size {W w : World} (h : Grew W w) : W.heap.size ≤ w.heap.size := Below.size h
theorem Grew.trans {a b c : World} (h : Grew a b) (k : Grew b c) : Grew a c := Below.trans h (Below.mono k h.size)
theorem Grew.alloc {W w : World} (h : Grew W w) (c : Array Value) (t : TypeId) : Grew W (w.alloc (.cells c t)) := Below.alloc h h.size _
theorem Grew.setCell {W w : World} (h : Grew W w) {a : Addr} (ha : W.heap.size ≤ a.block) (v : Value) : Grew W (w.setCell a v) := Below.setCell h ha v
theorem Grew.drew {W w : World} (h : Grew W w) : Grew W w.drew := Below.drew h
theorem Grew.drewN {W w : World} (h : Grew W w) (n : Nat) : Grew W (w.drewN n) := ⟨h.os, h.tape, h.output, h.size, h.block⟩
theorem Grew.grown {W w w' : World} {row : Option Nat} (h : Grew W w) (hg : w.grownBy w' row) (hr : ∀ k, row = some k → W.heap.size ≤ k) : Grew W w' := Below.grown h hg h.size hr
theorem Grew.cell {W w : World} (h : Grew W w) {b o : Nat} (hb : b < W.heap.size) : w.cell? ⟨b, o, none⟩ = W.cell? ⟨b, o, none⟩ := Below.cell (p := ⟨b, o, none⟩) h hb
theorem laid {W w : World} (h : Grew W w) : (∀ b o, b < W.heap.size → w.cell? ⟨b, o, none⟩ = W.cell? ⟨b, o, none⟩) ∧ (∀ b o, b < W.heap.size → w.frozen? ⟨b, o, none⟩ = W.frozen? ⟨b, o, none⟩) ∧ W.heap.size ≤ w.heap.size :=
  ⟨fun _ _ hb => Grew.cell h hb, fun b o hb => Below.frozen (p := ⟨b, o, none⟩) h hb, h.size⟩

/-- A place. -/
def Plc (x : Pt) : Prop := (-500000 ≤ x.1 ∧ x.1 ≤ 500000) ∧ (-500000 ≤ x.2 ∧ x.2 ≤ 500000)
instance (x : Pt) : Decidable (Plc x) := by unfold Plc; infer_instance

theorem cr_bd {a b c : Pt} (ha : Plc a) (hb : Plc b) (hc : Plc c) : (-1000000000000 ≤ (b.1 - a.1) * (c.2 - a.2) ∧ (b.1 - a.1) * (c.2 - a.2) ≤ 1000000000000) ∧ (-1000000000000 ≤ (b.2 - a.2) * (c.1 - a.1) ∧ (b.2 - a.2) * (c.1 - a.1) ≤ 1000000000000) := by
  have m : ∀ x y : Int, -1000000 ≤ x → x ≤ 1000000 → -1000000 ≤ y → y ≤ 1000000 → -1000000000000 ≤ x * y ∧ x * y ≤ 1000000000000 := by
    intro x y h0 h1 h2 h3
    by_cases hx : 0 ≤ x
    · have e1 := Int.mul_le_mul_of_nonneg_left h3 hx
      have e2 := Int.mul_le_mul_of_nonneg_left h2 hx
      omega
    · have e1 := Int.mul_le_mul_of_nonpos_left (show x ≤ 0 by omega) h3
      have e2 := Int.mul_le_mul_of_nonpos_left (show x ≤ 0 by omega) h2
      omega
  obtain ⟨⟨a0, a1⟩, ⟨a2, a3⟩⟩ := ha
  obtain ⟨⟨b0, b1⟩, ⟨b2, b3⟩⟩ := hb
  obtain ⟨⟨c0, c1⟩, ⟨c2, c3⟩⟩ := hc
  exact ⟨m _ _ (by omega) (by omega) (by omega) (by omega), m _ _ (by omega) (by omega) (by omega) (by omega)⟩

end Hl
end Go.Proofs.YtcihkpjdjenbjaaDoor
namespace Go.Proofs.YtcihkpjdjenbjaaDoor
open Go.RowKit
namespace Hl

/-- A row of points in memory. -/
def Row (w : World) (b o : Nat) (p : List Pt) : Prop := b < w.heap.size ∧ ∀ i, i < p.length → w.cell? ⟨b, o + i * 2, none⟩ = some (.int .i64 (at' p i).1) ∧ w.cell? ⟨b, o + i * 2 + 1, none⟩ = some (.int .i64 (at' p i).2)
theorem Row.grown {w w' : World} {b o : Nat} {p : List Pt} (h : Row w b o p) (g : Grew w w') : Row w' b o p :=
  ⟨Nat.lt_of_lt_of_le h.1 g.size, fun i hi => ⟨(Grew.cell g h.1).trans (h.2 i hi).1, (Grew.cell g h.1).trans (h.2 i hi).2⟩⟩

/-- What a test answers, and how the world is left. -/
def Tells (q : Prop) (w : World) (e : Ending) (w' : World) : Prop := ∃ r : Bool, e = .returned (.bool r) ∧ (r = true ↔ q) ∧ Grew w w'
theorem Tells.yes {q : Prop} {w : World} {e : Ending} {w' : World} (hq : q) (he : e = .returned (.bool true)) (g : Grew w w') : Tells q w e w' := ⟨true, he, ⟨fun _ => hq, fun _ => rfl⟩, g⟩
theorem Tells.no {q : Prop} {w : World} {e : Ending} {w' : World} (hq : ¬ q) (he : e = .returned (.bool false)) (g : Grew w w') : Tells q w e w' := ⟨false, he, ⟨(fun h => by cases h), (fun h => absurd h hq)⟩, g⟩

theorem less_x (x y : Pt) (w : World) : Calls Tryd.prog 86 #[.agg #[.int .i64 x.1, .int .i64 x.2], .agg #[.int .i64 y.1, .int .i64 y.2]] w fun e w' => e = .returned (.bool (decide (ls x y))) ∧ (w.alloc (.cells #[.int .i64 (x.1), .int .i64 (x.2)] 23)).alloc (.cells #[.int .i64 (y.1), .int .i64 (y.2)] 23) = w' := by
  rcases x with ⟨a, b⟩
  rcases y with ⟨c, d⟩
  by_cases h : ls (a, b) (c, d)
  · rw [decide_eq_true h]
    rcases h with h | ⟨h, k⟩
    · simp only at h
      go_enter Tryd.func86, Tryd.ntmps86
      go_wp2_with fail
      go_ret
      exact ⟨rfl, rfl⟩

    · simp only at h k
      subst h
      go_enter Tryd.func86, Tryd.ntmps86
      go_wp2_with fail
      go_ret
      exact ⟨rfl, rfl⟩

  · rw [decide_eq_false h]
    by_cases e : a = c
    · subst e
      have k : d ≤ b := by
        by_cases k : b < d
        · exact absurd (Or.inr ⟨rfl, k⟩) h
        · omega
      clear h
      go_enter Tryd.func86, Tryd.ntmps86
      go_wp2_with fail
      go_ret
      exact ⟨by first | rfl | (simp; omega), rfl⟩

    · have k : c < a := by
        by_cases k : a < c
        · exact absurd (Or.inl k) h
        · omega
      have e' : (a == c) = false := by simp [e]
      clear h e
      go_enter Tryd.func86, Tryd.ntmps86
      go_wp2_with fail
      go_ret
      exact ⟨by first | rfl | (simp; omega), rfl⟩


/-- All are places. -/
def Plcs (p : List Pt) : Prop := ∀ i, i < p.length → Plc (at' p i)
/-- A polygon, as the document says it. -/
def Vl (p : List Pt) : Prop := (1 ≤ p.length ∧ p.length ≤ 64) ∧ Plcs p ∧ (∀ i, 1 ≤ i → i < p.length → ls (at' p 0) (at' p i)) ∧ (2 < p.length → Cvx p.length (at' p))

end Hl
end Go.Proofs.YtcihkpjdjenbjaaDoor
namespace Go.Proofs.YtcihkpjdjenbjaaDoor
open Go.RowKit
namespace Hl

instance (a b x : Pt) : Decidable (btw a b x) := by unfold btw; infer_instance
set_option maxHeartbeats 1000000 in
theorem between_x (a b x : Pt) (w : World) : Calls Tryd.prog 88 #[.agg #[.int .i64 a.1, .int .i64 a.2], .agg #[.int .i64 b.1, .int .i64 b.2], .agg #[.int .i64 x.1, .int .i64 x.2]] w fun e w' => e = .returned (.bool (decide (btw a b x))) ∧ ((w.alloc (.cells #[.int .i64 (a.1), .int .i64 (a.2)] 23)).alloc (.cells #[.int .i64 (b.1), .int .i64 (b.2)] 23)).alloc (.cells #[.int .i64 (x.1), .int .i64 (x.2)] 23) = w' := by
  rcases a with ⟨a1, a2⟩
  rcases b with ⟨b1, b2⟩
  rcases x with ⟨x1, x2⟩
  have key : ∀ r : Bool, (r = true ↔ btw (a1, a2) (b1, b2) (x1, x2)) → decide (btw (a1, a2) (b1, b2) (x1, x2)) = r := by
    intro r h
    rw [Bool.eq_iff_iff, decide_eq_true_eq]
    exact h.symm
  have K := Lib.hid key
  clear key
  rcases Int.lt_trichotomy a1 b1 with h1 | h1 | h1 <;> rcases Int.lt_trichotomy a2 b2 with h2 | h2 | h2
  all_goals
    (try subst h1)
    (try subst h2)
    go_enter Tryd.func88, Tryd.ntmps88
    go_wp2_with fail
    all_goals
      go_ret
      exact ⟨congrArg (fun r => Ending.returned (.bool r)) (K.out _ (by unfold btw; simp; omega)).symm, rfl⟩
end Hl
end Go.Proofs.YtcihkpjdjenbjaaDoor
namespace Go.Proofs.YtcihkpjdjenbjaaDoor
open Go.RowKit Hl
namespace Ry

/-- The table as its text lays it. -/
def Tq (w : World) : Prop := 0 < w.heap.size ∧ ∀ j, j < 16 → w.cell? ⟨0, j * 2, none⟩ = some (.int .i64 (q0 j).1) ∧ w.cell? ⟨0, j * 2 + 1, none⟩ = some (.int .i64 (q0 j).2)
theorem Tq.grew {W w : World} (g : Grew W w) (h : Tq W) : Tq w :=
  ⟨Nat.lt_of_lt_of_le h.1 g.size, fun j hj => ⟨(g.cell h.1).trans (h.2 j hj).1, (g.cell h.1).trans (h.2 j hj).2⟩⟩
theorem q_data : (Rows.laid_landfall_ray_quarter : DataW Unit) = .agg ((List.range 16).map fun i => .agg ([(q0 i).1, (q0 i).2].map fun z => .lit (.int .i64 z))) := by kernel_rfl
theorem laidTq (W : World) (h : laidMetH Tryd.prog [("landfall/ray.quarter", Rows.laid_landfall_ray_quarter)] W) : Tq W := by
  rw [MakeChecks.laidMetH_plain _ _ _ (by kernel_rfl)] at h
  have h := Lib.laidMet.reads h (n := "landfall/ray.quarter") (d := Rows.laid_landfall_ray_quarter) (by simp)
  rw [q_data] at h
  obtain ⟨g, t, cs, fuel, p, hg, hty, hvar, hd⟩ := h
  obtain rfl := Option.some.inj ((show Tryd.prog.globalNamed "landfall/ray.quarter" = some 0 by kernel_rfl).symm.trans hg)
  obtain rfl := Option.some.inj ((show (Tryd.prog.globals[0]?).map (·.type) = some 74 by kernel_rfl).symm.trans hty)
  have key : ∀ j, j < 16 → cs[j * 2]? = some (.int .i64 (q0 j).1) ∧ cs[j * 2 + 1]? = some (.int .i64 (q0 j).2) := fun i hi => by
    obtain ⟨fuel', d, q, hdi, he⟩ := Lib.array_elem Tryd.underlying74 hd i hi
    simp only [List.getElem?_map, List.getElem?_range hi, Option.map_some, Option.some.injEq] at hdi
    subst hdi
    have c2 : Tryd.prog.cellsOf 23 = 2 := by kernel_rfl
    have c1 : Tryd.prog.cellsOf 3 = 1 := by kernel_rfl
    rw [c2] at he
    have hcs := Lib.ints_of_struct Tryd.underlying23 (fun j f hj => by
      match j, hj with
      | 0, hj => simp at hj; subst hj; exact ⟨Tryd.underlying3, rfl, c1⟩
      | 1, hj => simp at hj; subst hj; exact ⟨Tryd.underlying3, rfl, c1⟩
      | j + 2, hj => simp at hj) (by rw [c2]; rfl) he
    have e0 := congrArg (·[0]?) hcs
    have e1 := congrArg (·[1]?) hcs
    simp only [List.getElem?_take, List.getElem?_drop] at e0 e1
    constructor
    · rw [← Array.getElem?_toList]
      simpa using e0
    · rw [← Array.getElem?_toList]
      simpa using e1
  have hlt : 0 < W.heap.size := by
    unfold World.var? at hvar
    rw [hg] at hvar
    simp only [Option.bind_some] at hvar
    rcases Nat.lt_or_ge 0 W.heap.size with h' | h'
    · exact h'
    · rw [Array.getElem?_eq_none h'] at hvar; cases hvar
  refine ⟨hlt, fun j hj => ⟨?_, ?_⟩⟩
  · rw [World.var?_cell hg hvar (j * 2)]
    exact (key j hj).1
  · rw [World.var?_cell hg hvar (j * 2 + 1)]
    exact (key j hj).2
end Ry
end Go.Proofs.YtcihkpjdjenbjaaDoor
namespace Go.Proofs.YtcihkpjdjenbjaaDoor
open Go.RowKit
namespace Hl

theorem hs1 {p : List Pt} {x : Pt} (h : p.length = 1) : Hs p x ↔ at' p 0 = x := by unfold Hs; rw [if_pos h]
theorem hs2 {p : List Pt} {x : Pt} (h : p.length = 2) : Hs p x ↔ (cr (at' p 0) (at' p 1) x = 0 ∧ btw (at' p 0) (at' p 1) x) := by unfold Hs; rw [if_neg (by omega), if_pos h]
theorem hs3 {p : List Pt} {x : Pt} (h : 3 ≤ p.length) : Hs p x ↔ Ins p.length (at' p) x := by unfold Hs; rw [if_neg (by omega), if_neg (by omega)]

end Hl
end Go.Proofs.YtcihkpjdjenbjaaDoor
