/-
  The landed Area.
-/
import Derived.Test.YtpiajdahmcelnaaLHullCd
import Derived.Test.YtpiajdahmcelnaaLHullBar
namespace Go.Proofs.Ytpiajdahmcelnaa
open Go.RowKit Go.Shelf
attribute [local go_sem] Oper.semAt_some
namespace Hl
theorem Kept.drew {b B : Nat} {X Y : World} (h : Kept b B X Y) : Kept b B X Y.drew := h

end Hl
end Go.Proofs.Ytpiajdahmcelnaa
