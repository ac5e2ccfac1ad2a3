/-
  The reference implementation of layer 3 over slices of points: Inside.
-/
import Derived.Test.YtmijlfbmmegfbaaHullIn
import Derived.Deep.RegionWith
namespace Go.Proofs.Ytmijlfbmmegfbaa
open Go.RowKit
namespace Hl

theorem hs1 {p : List Pt} {x : Pt} (h : p.length = 1) : Hs p x ↔ at' p 0 = x := by unfold Hs; rw [if_pos h]
theorem hs2 {p : List Pt} {x : Pt} (h : p.length = 2) : Hs p x ↔ (cr (at' p 0) (at' p 1) x = 0 ∧ btw (at' p 0) (at' p 1) x) := by unfold Hs; rw [if_neg (by omega), if_pos h]
theorem hs3 {p : List Pt} {x : Pt} (h : 3 ≤ p.length) : Hs p x ↔ Ins p.length (at' p) x := by unfold Hs; rw [if_neg (by omega), if_neg (by omega)]

end Hl
end Go.Proofs.Ytmijlfbmmegfbaa
