/-
  The reference implementation of layer 3 over slices of points: between, Inside.
-/
import Derived.Test.YtmijlfbmmegfbaaHullSl
namespace Go.Proofs.Ytmijlfbmmegfbaa
open Go.RowKit
namespace Hl

instance (a b x : Pt) : Decidable (btw a b x) := by unfold btw; infer_instance
end Hl
end Go.Proofs.Ytmijlfbmmegfbaa
