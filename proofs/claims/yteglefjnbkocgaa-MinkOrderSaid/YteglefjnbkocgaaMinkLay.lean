/-
  The library's function sort.Search, laid.
-/
import Derived.Shelf.SlLaysO
import Derived.Shelf.SlSorted.Search
import Derived.Test.YteglefjnbkocgaaRows
namespace Go.Proofs.Yteglefjnbkocgaa
open Go.Shelf
namespace Mk
def searchL_ren : Go.Shelf.Ren := ⟨fun | 16 => 41 | n => n, fun | 3 => 3 | 35 => 57 | 4 => 4 | 38 => 76 | n => n, fun | n => n⟩
theorem searchL : Go.Proofs.SlLaysO.n16 Try.prog searchL_ren := {
  mixed := by kernel_rfl
  f16 := Try.func41.trans (congrArg some (by kernel_rfl))
  t3 := Try.underlying3
  a3 := Try.isAgg3
  z3 := Try.sizeOf3
  v3 := Try.zeroValue3
  t4 := Try.underlying4
  a4 := Try.isAgg4
  z4 := Try.sizeOf4
  v4 := Try.zeroValue4
  t35 := Try.underlying57
  a35 := Try.isAgg57
  z35 := Try.sizeOf57
  v35 := Try.zeroValue57
  t38 := Try.underlying76
  a38 := Try.isAgg76
  z38 := Try.sizeOf76
  v38 := Try.zeroValue76 }
end Mk
end Go.Proofs.Yteglefjnbkocgaa
