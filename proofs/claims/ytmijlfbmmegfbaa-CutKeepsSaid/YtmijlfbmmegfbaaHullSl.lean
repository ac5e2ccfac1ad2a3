/-
  The reference implementation of layer 3 over slices of points: places, Valid.
-/
import Derived.Test.YtmijlfbmmegfbaaHullRef
namespace Go.Proofs.Ytmijlfbmmegfbaa
open Go.RowKit
namespace Hl

/-- A row of points in memory. -/
def Row (w : World) (b o : Nat) (p : List Pt) : Prop := b < w.heap.size ∧ ∀ i, i < p.length → w.cell? ⟨b, o + i * 2, none⟩ = some (.int .i64 (at' p i).1) ∧ w.cell? ⟨b, o + i * 2 + 1, none⟩ = some (.int .i64 (at' p i).2)
theorem Row.grown {w w' : World} {b o : Nat} {p : List Pt} (h : Row w b o p) (g : Grew w w') : Row w' b o p :=
  ⟨Nat.lt_of_lt_of_le h.1 g.size, fun i hi => ⟨(Grew.cell g h.1).trans (h.2 i hi).1, (Grew.cell g h.1).trans (h.2 i hi).2⟩⟩

/-- What a test answers, and how the world is left. -/
def Tells (q : Prop) (w : World) (e : Ending) (w' : World) : Prop := ∃ r : Bool, e = .returned (.bool r) ∧ (r = true ↔ q) ∧ Grew w w'
theorem Tells.yes {q : Prop} {w : World} {e : Ending} {w' : World} (hq : q) (he : e = .returned (.bool true)) (g : Grew w w') : Tells q w e w' := ⟨true, he, ⟨fun _ => hq, fun _ => rfl⟩, g⟩
theorem Tells.no {q : Prop} {w : World} {e : Ending} {w' : World} (hq : ¬ q) (he : e = .returned (.bool false)) (g : Grew w w') : Tells q w e w' := ⟨false, he, ⟨(fun h => by cases h), (fun h => absurd h hq)⟩, g⟩

/-- All are places. -/
def Plcs (p : List Pt) : Prop := ∀ i, i < p.length → Plc (at' p i)
/-- A polygon, as the document says it. -/
def Vl (p : List Pt) : Prop := (1 ≤ p.length ∧ p.length ≤ 64) ∧ Plcs p ∧ (∀ i, 1 ≤ i → i < p.length → ls (at' p 0) (at' p i)) ∧ (2 < p.length → Cvx p.length (at' p))

end Hl
end Go.Proofs.Ytmijlfbmmegfbaa
