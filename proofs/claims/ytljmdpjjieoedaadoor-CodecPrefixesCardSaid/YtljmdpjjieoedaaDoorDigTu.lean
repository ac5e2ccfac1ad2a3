/-
  The tables of Go's library that the landed function digest.Text reads, in a world where they are as their text lays them; they stay as memory grows.
-/
import Derived.Test.YtljmdpjjieoedaaDoorDigLayD
import Derived.Test.YtljmdpjjieoedaaDoorWorld
import Derived.Lib.LaidU8
import Derived.Lib.SmallJoins
import Derived.MakeChecks
namespace Go.Proofs.YtljmdpjjieoedaaDoor
open Go.RowKit Wd
namespace Dg

/-- The tables as their text lays them. -/
def Tu (w : World) : Prop := Lib.Utf8Tabs 0 1 w
theorem Tu.grew {W w : World} (g : Grew W w) (h : Tu W) : Tu w := Utf8Tabs_below h g
theorem u8x : U8Extra Tryd.prog slowL_ren := ⟨by kernel_rfl, by kernel_rfl, by kernel_rfl, by kernel_rfl, by kernel_rfl, by kernel_rfl, by kernel_rfl⟩
theorem accept_data : (Rows.laid_unicode_utf8_acceptRanges : DataW Unit) = Lib.acceptData := by kernel_rfl
theorem first_data : Rows.laid_unicode_utf8_first = Lib.firstData := by kernel_rfl
theorem laidTu (W : World) (h : laidMetH Tryd.prog [("unicode/utf8.acceptRanges", Rows.laid_unicode_utf8_acceptRanges), ("unicode/utf8.first", Rows.laid_unicode_utf8_first)] W) : Tu W := by
  rw [MakeChecks.laidMetH_plain _ _ _ (by kernel_rfl)] at h
  refine utf8Tabs_of_reads slowL u8x ?_ ?_
  · rw [← first_data]; exact Lib.laidMet.reads h (by simp)
  · rw [← accept_data]; exact Lib.laidMet.reads h (by simp)
end Dg
end Go.Proofs.YtljmdpjjieoedaaDoor
