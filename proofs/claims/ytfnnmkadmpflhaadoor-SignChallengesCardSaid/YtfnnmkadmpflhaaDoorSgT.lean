/-
  The tables of Go's library that the landed package digest reads, in a world where they are as their text lays them; they stay as memory grows.
-/
import Derived.Test.YtfnnmkadmpflhaaDoorDigLay
import Derived.Test.YtfnnmkadmpflhaaDoorDigRefC
import Derived.Lib.LaidU8
import Derived.Lib.SmallJoins
import Derived.MakeChecks
namespace Go.Proofs.YtfnnmkadmpflhaaDoor
open Go.RowKit Wd
namespace Dg

/-- The tables as their text lays them. -/
def T (w : World) : Prop := Lib.Utf8Tabs 0 1 w ∧ Lib.TabIs Tryd.prog w "internal/strconv.uint64pow10" .u64 Lib.pow10Tab
theorem T.grew {W w : World} (g : Grew W w) (h : T W) : T w :=
  ⟨Utf8Tabs_below h.1 g, Go.Joins.tab_stays (g := 2) (by kernel_rfl) h.2 g (Nat.le_refl _)⟩
theorem u8x : U8Extra Tryd.prog slowL_ren := ⟨by kernel_rfl, by kernel_rfl, by kernel_rfl, by kernel_rfl, by kernel_rfl, by kernel_rfl, by kernel_rfl⟩
theorem pow_data {H : Type} : (Rows.laid_internal_strconv_uint64pow10 : DataW H) = Lib.tabData .u64 Lib.pow10Tab := by kernel_rfl
theorem accept_data : (Rows.laid_unicode_utf8_acceptRanges : DataW Unit) = Lib.acceptData := by kernel_rfl
theorem first_data : Rows.laid_unicode_utf8_first = Lib.firstData := by kernel_rfl
theorem pow_of {w : World} (h : Lib.VarReads Tryd.prog w "internal/strconv.uint64pow10" (Lib.tabData .u64 Lib.pow10Tab)) : Lib.TabIs Tryd.prog w "internal/strconv.uint64pow10" .u64 Lib.pow10Tab := by
  obtain ⟨g', t', cs, fuel, p, hg', ht', hvar, hd⟩ := h
  obtain rfl := Option.some.inj ((show Tryd.prog.globalNamed "internal/strconv.uint64pow10" = some 2 by kernel_rfl).symm.trans hg')
  obtain rfl := Option.some.inj ((show (Tryd.prog.globals[2]?).map (·.type) = some 79 by kernel_rfl).symm.trans ht')
  unfold Lib.TabIs
  rw [hvar, ← Lib.cells_of_tab Tryd.underlying79 Tryd.underlying39 (by kernel_rfl) (by kernel_rfl) hd]
theorem laidT (W : World) (h : laidMetH Tryd.prog [("math/bits.deBruijn32tab", Rows.laid_math_bits_deBruijn32tab), ("math/bits.deBruijn64tab", Rows.laid_math_bits_deBruijn64tab), ("internal/strconv.uint64pow10", Rows.laid_internal_strconv_uint64pow10), ("unicode/utf8.acceptRanges", Rows.laid_unicode_utf8_acceptRanges), ("unicode/utf8.first", Rows.laid_unicode_utf8_first)] W) : T W := by
  rw [MakeChecks.laidMetH_plain _ _ _ (by kernel_rfl)] at h
  refine ⟨utf8Tabs_of_reads slowL u8x ?_ ?_, pow_of ?_⟩
  · rw [← first_data]; exact Lib.laidMet.reads h (by simp)
  · rw [← accept_data]; exact Lib.laidMet.reads h (by simp)
  · rw [← pow_data]; exact Lib.laidMet.reads h (by simp)
end Dg
end Go.Proofs.YtfnnmkadmpflhaaDoor
