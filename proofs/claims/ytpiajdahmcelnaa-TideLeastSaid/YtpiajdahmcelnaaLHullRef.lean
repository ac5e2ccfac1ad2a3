/-
  The reference implementation of layer 3: what speaks of single places.
  Floor and Ceil of the landed package exact: what was there stays.
-/
import Derived.WalkKit
import Derived.WalkSpells
import Derived.WalkLawsBesides
import Derived.RowKit3
import Derived.Below
import Derived.Handy
import Derived.Lib.Hide
import Derived.Deep.QuietTactic
import Derived.BigQuiet
import Derived.Deep.RegionHeld3
import Derived.Test.YtpiajdahmcelnaaRows
import Derived.Test.YtpiajdahmcelnaaLHullGeoC
import Derived.Test.YtpiajdahmcelnaaLExactWalks
namespace Go.Proofs.Ytpiajdahmcelnaa
open Go.RowKit
namespace Hl

/-- Below the old size nothing has turned. -/
def Grew (W w : World) : Prop := Below W.heap.size W w
theorem Grew.refl (W : World) : Grew W W := Below.refl _ _
theorem Grew.size {W w : World} (h : Grew W w) : W.heap.size ≤ w.heap.size := Below.size h
theorem Grew.trans {a b c : World} (h : Grew a b) (k : Grew b c) : Grew a c := Below.trans h (Below.mono k h.size)
theorem Grew.alloc {W w : World} (h : Grew W w) (c : Array Value) (t : TypeId) : Grew W (w.alloc (.cells c t)) := Below.alloc h h.size _
theorem Grew.setCell {W w : World} (h : Grew W w) {a : Addr} (ha : W.heap.size ≤ a.block) (v : Value) : Grew W (w.setCell a v) := Below.setCell h ha v
theorem Grew.drew {W w : World} (h : Grew W w) : Grew W w.drew := Below.drew h
theorem Grew.drewN {W w : World} (h : Grew W w) (n : Nat) : Grew W (w.drewN n) := ⟨h.os, h.tape, h.output, h.size, h.block⟩
theorem Grew.grown {W w w' : World} {row : Option Nat} (h : Grew W w) (hg : w.grownBy w' row) (hr : ∀ k, row = some k → W.heap.size ≤ k) : Grew W w' := Below.grown h hg h.size hr
theorem Grew.cell {W w : World} (h : Grew W w) {b o : Nat} (hb : b < W.heap.size) : w.cell? ⟨b, o, none⟩ = W.cell? ⟨b, o, none⟩ := Below.cell (p := ⟨b, o, none⟩) h hb
theorem laid {W w : World} (h : Grew W w) : (∀ b o, b < W.heap.size → w.cell? ⟨b, o, none⟩ = W.cell? ⟨b, o, none⟩) ∧ (∀ b o, b < W.heap.size → w.frozen? ⟨b, o, none⟩ = W.frozen? ⟨b, o, none⟩) ∧ W.heap.size ≤ w.heap.size :=
  ⟨fun _ _ hb => Grew.cell h hb, fun b o hb => Below.frozen (p := ⟨b, o, none⟩) h hb, h.size⟩

/-- A place. -/
def Plc (x : Pt) : Prop := (-500000 ≤ x.1 ∧ x.1 ≤ 500000) ∧ (-500000 ≤ x.2 ∧ x.2 ≤ 500000)
instance (x : Pt) : Decidable (Plc x) := by unfold Plc; infer_instance

theorem place_yes (x y : Int) (w : World) (h : Plc (x, y)) : Calls Try.prog 56 #[.agg #[.int .i64 x, .int .i64 y]] w fun e w' => e = .returned (.bool true) ∧ Grew w w' := by
  obtain ⟨⟨h0, h1⟩, ⟨h2, h3⟩⟩ := h
  simp only at h0 h1 h2 h3
  go_enter Try.func56, Try.ntmps56
  go_wp2_with fail
  go_ret
  exact ⟨by first | rfl | (simp; omega), by (repeat' (first | (with_reducible exact Grew.refl _) | (with_reducible assumption) | (with_reducible refine Grew.alloc ?_ _ _) | (with_reducible refine Grew.drew ?_) | (with_reducible refine Grew.drewN ?_ _) | (with_reducible refine Grew.setCell ?_ ?_ _) | go_size))⟩

theorem place_no (x y : Int) (w : World) (h : ¬ Plc (x, y)) : Calls Try.prog 56 #[.agg #[.int .i64 x, .int .i64 y]] w fun e w' => e = .returned (.bool false) ∧ Grew w w' := by
  by_cases h0 : -500000 ≤ x
  · by_cases h1 : x ≤ 500000
    · by_cases h2 : -500000 ≤ y
      · have h3 : 500000 < y := by
          by_cases h3 : y ≤ 500000
          · exact absurd ⟨⟨h0, h1⟩, ⟨h2, h3⟩⟩ h
          · omega
        clear h
        go_enter Try.func56, Try.ntmps56
        go_wp2_with fail
        go_ret
        exact ⟨by first | rfl | (simp; omega), by (repeat' (first | (with_reducible exact Grew.refl _) | (with_reducible assumption) | (with_reducible refine Grew.alloc ?_ _ _) | (with_reducible refine Grew.drew ?_) | (with_reducible refine Grew.drewN ?_ _) | (with_reducible refine Grew.setCell ?_ ?_ _) | go_size))⟩

      · have h2 : y < -500000 := by omega
        clear h
        go_enter Try.func56, Try.ntmps56
        go_wp2_with fail
        go_ret
        exact ⟨by first | rfl | (simp; omega), by (repeat' (first | (with_reducible exact Grew.refl _) | (with_reducible assumption) | (with_reducible refine Grew.alloc ?_ _ _) | (with_reducible refine Grew.drew ?_) | (with_reducible refine Grew.drewN ?_ _) | (with_reducible refine Grew.setCell ?_ ?_ _) | go_size))⟩

    · have h1 : 500000 < x := by omega
      clear h
      go_enter Try.func56, Try.ntmps56
      go_wp2_with fail
      go_ret
      exact ⟨by first | rfl | (simp; omega), by (repeat' (first | (with_reducible exact Grew.refl _) | (with_reducible assumption) | (with_reducible refine Grew.alloc ?_ _ _) | (with_reducible refine Grew.drew ?_) | (with_reducible refine Grew.drewN ?_ _) | (with_reducible refine Grew.setCell ?_ ?_ _) | go_size))⟩

  · have h0 : x < -500000 := by omega
    clear h
    go_enter Try.func56, Try.ntmps56
    go_wp2_with fail
    go_ret
    exact ⟨by first | rfl | (simp; omega), by (repeat' (first | (with_reducible exact Grew.refl _) | (with_reducible assumption) | (with_reducible refine Grew.alloc ?_ _ _) | (with_reducible refine Grew.drew ?_) | (with_reducible refine Grew.drewN ?_ _) | (with_reducible refine Grew.setCell ?_ ?_ _) | go_size))⟩

theorem cr_bd {a b c : Pt} (ha : Plc a) (hb : Plc b) (hc : Plc c) : (-1000000000000 ≤ (b.1 - a.1) * (c.2 - a.2) ∧ (b.1 - a.1) * (c.2 - a.2) ≤ 1000000000000) ∧ (-1000000000000 ≤ (b.2 - a.2) * (c.1 - a.1) ∧ (b.2 - a.2) * (c.1 - a.1) ≤ 1000000000000) := by
  have m : ∀ x y : Int, -1000000 ≤ x → x ≤ 1000000 → -1000000 ≤ y → y ≤ 1000000 → -1000000000000 ≤ x * y ∧ x * y ≤ 1000000000000 := by
    intro x y h0 h1 h2 h3
    by_cases hx : 0 ≤ x
    · have e1 := Int.mul_le_mul_of_nonneg_left h3 hx
      have e2 := Int.mul_le_mul_of_nonneg_left h2 hx
      omega
    · have e1 := Int.mul_le_mul_of_nonpos_left (show x ≤ 0 by omega) h3
      have e2 := Int.mul_le_mul_of_nonpos_left (show x ≤ 0 by omega) h2
      omega
  obtain ⟨⟨a0, a1⟩, ⟨a2, a3⟩⟩ := ha
  obtain ⟨⟨b0, b1⟩, ⟨b2, b3⟩⟩ := hb
  obtain ⟨⟨c0, c1⟩, ⟨c2, c3⟩⟩ := hc
  exact ⟨m _ _ (by omega) (by omega) (by omega) (by omega), m _ _ (by omega) (by omega) (by omega) (by omega)⟩

end Hl
end Go.Proofs.Ytpiajdahmcelnaa
namespace Go.Proofs.Ytpiajdahmcelnaa
open Go.RowKit Hl Ex
namespace Td
theorem floor_g (a b : Int) (w : World) (h : Dv a b) :
    Calls Try.prog 60 #[.int .i64 a, .int .i64 b] w fun e w' => e = .returned (.tuple #[.int .i64 (fl a b), .int .i64 0]) ∧ Grew w w' := by
  have H := Lib.hid h
  clear h
  go_enter Try.func60, Try.ntmps60
  go_wp2_with fail
  refine (toward_any _ _).mono ?_
  rintro e w' ⟨rfl, rfl⟩
  go_wp2_with fail
  refine (divDown_ok _ _ _ _ (by simp [go_sem]) H.out).mono ?_
  rintro e w' ⟨rfl, n, rfl⟩
  go_wp2_with fail
  go_ret2
  exact ⟨rfl, Grew.drewN ((Grew.refl _).alloc _ _) n⟩
theorem ceil_g (a b : Int) (w : World) (h : Dv a b) :
    Calls Try.prog 64 #[.int .i64 a, .int .i64 b] w fun e w' => e = .returned (.tuple #[.int .i64 (ce a b), .int .i64 0]) ∧ Grew w w' := by
  have H := Lib.hid h
  clear h
  go_enter Try.func64, Try.ntmps64
  go_wp2_with fail
  refine (toward_any _ _).mono ?_
  rintro e w' ⟨rfl, rfl⟩
  go_wp2_with fail
  refine (divUp_ok _ _ _ _ (by simp [go_sem]) H.out).mono ?_
  rintro e w' ⟨rfl, n, rfl⟩
  go_wp2_with fail
  go_ret2
  exact ⟨rfl, Grew.drewN ((Grew.refl _).alloc _ _) n⟩
end Td
end Go.Proofs.Ytpiajdahmcelnaa
