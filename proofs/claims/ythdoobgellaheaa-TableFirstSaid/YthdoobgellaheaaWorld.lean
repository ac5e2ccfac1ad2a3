/-
  Worlds that have grown: below the old size nothing has turned.
-/
import Derived.Test.YthdoobgellaheaaRows
import Derived.WalkKit
import Derived.WalkSpells
import Derived.WalkLawsBesides
import Derived.RowKit3
import Derived.Below
import Derived.Handy
import Derived.Lib.Hide
import Derived.Deep.QuietTactic
import Derived.BigQuiet
import Derived.Deep.RegionHeld3
namespace Go.Proofs.Ythdoobgellaheaa
open Go.RowKit
namespace Wd

/-- Below the old size nothing has turned. -/
def Grew (W w : World) : Prop := Below W.heap.size W w
theorem Grew.refl (W : World) : Grew W W := Below.refl _ _
theorem Grew.size {W w : World} (h : Grew W w) : W.heap.size ≤ w.heap.size := Below.size h
theorem Grew.trans {a b c : World} (h : Grew a b) (k : Grew b c) : Grew a c := Below.trans h (Below.mono k h.size)
theorem Grew.alloc {W w : World} (h : Grew W w) (c : Array Value) (t : TypeId) : Grew W (w.alloc (.cells c t)) := Below.alloc h h.size _
theorem Grew.setCell {W w : World} (h : Grew W w) {a : Addr} (ha : W.heap.size ≤ a.block) (v : Value) : Grew W (w.setCell a v) := Below.setCell h ha v
theorem Grew.drew {W w : World} (h : Grew W w) : Grew W w.drew := Below.drew h
theorem Grew.drewN {W w : World} (h : Grew W w) (n : Nat) : Grew W (w.drewN n) := ⟨h.os, h.tape, h.output, h.size, h.block⟩
theorem Grew.grown {W w w' : World} {row : Option Nat} (h : Grew W w) (hg : w.grownBy w' row) (hr : ∀ k, row = some k → W.heap.size ≤ k) : Grew W w' := Below.grown h hg h.size hr
theorem Grew.cell {W w : World} (h : Grew W w) {b o : Nat} (hb : b < W.heap.size) : w.cell? ⟨b, o, none⟩ = W.cell? ⟨b, o, none⟩ := Below.cell (p := ⟨b, o, none⟩) h hb
theorem laid {W w : World} (h : Grew W w) : (∀ b o, b < W.heap.size → w.cell? ⟨b, o, none⟩ = W.cell? ⟨b, o, none⟩) ∧ (∀ b o, b < W.heap.size → w.frozen? ⟨b, o, none⟩ = W.frozen? ⟨b, o, none⟩) ∧ W.heap.size ≤ w.heap.size :=
  ⟨fun _ _ hb => Grew.cell h hb, fun b o hb => Below.frozen (p := ⟨b, o, none⟩) h hb, h.size⟩
end Wd
end Go.Proofs.Ythdoobgellaheaa
