/-
  Small contracts in the form that the laws' walks take.
-/
import Derived.Test.YtmijlfbmmegfbaaHullHead
namespace Go.Proofs.Ytmijlfbmmegfbaa
open Go.RowKit
namespace Hl

theorem has_yes (K : Code) (p : List Pt) (x : Pt) (v : Value) (w : World) (hs : Sl w v p) (hp : Vl p) (hx : Plc x) (h : Hs p x) : Calls Try.prog 15 #[v, .agg #[.int .i64 x.1, .int .i64 x.2]] w fun e w' => e = .returned (.tuple #[.bool true, .int .i64 0]) ∧ Grew w w' := by
  refine (K.has_ok p x v w hs hp hx).mono ?_
  rintro e w1 ⟨r, rfl, hr, g⟩
  rw [hr.2 h]
  exact ⟨rfl, g⟩
theorem has_no (K : Code) (p : List Pt) (x : Pt) (v : Value) (w : World) (hs : Sl w v p) (hp : Vl p) (hx : Plc x) (h : ¬ Hs p x) : Calls Try.prog 15 #[v, .agg #[.int .i64 x.1, .int .i64 x.2]] w fun e w' => e = .returned (.tuple #[.bool false, .int .i64 0]) ∧ Grew w w' := by
  refine (K.has_ok p x v w hs hp hx).mono ?_
  rintro e w1 ⟨r, rfl, hr, g⟩
  cases r
  · exact ⟨rfl, g⟩
  · exact absurd (hr.1 rfl) h
end Hl
end Go.Proofs.Ytmijlfbmmegfbaa
