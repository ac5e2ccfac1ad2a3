/-
  Inside over slices of points: two corners and a place off their line; three corners and more; all together.
-/
import Derived.Test.YtmijlfbmmegfbaaHullInA
import Derived.IntWalk
namespace Go.Proofs.Ytmijlfbmmegfbaa
open Go.RowKit
namespace Hl
end Hl
end Go.Proofs.Ytmijlfbmmegfbaa
