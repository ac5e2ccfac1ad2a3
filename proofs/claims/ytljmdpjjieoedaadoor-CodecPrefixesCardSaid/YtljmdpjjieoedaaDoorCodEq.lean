/-
  Arrays of eight bytes, compared.
-/
import Derived.Test.YtljmdpjjieoedaaDoorCodE
namespace Go.Proofs.YtljmdpjjieoedaaDoor
open Go.RowKit Wd
namespace Co
set_option maxRecDepth 100000

theorem size_u8 (W : World) : (sizeOf 5).run Tryd.prog W = .ok 1 W := by kernel_rfl
theorem part_u8 (xs : Array Value) (i : Nat) (h : i < xs.size) (W : World) : (part 5 xs i).run Tryd.prog W = .ok xs[i] W := by
  simp [part, go_sem, h]
theorem int_u8 (a b : Int) (W : World) : (Op.equalIn 9999 5 (.int .u8 a) (.int .u8 b)).run Tryd.prog W = .ok (a == b) W := run_equalIn_int W 9998 5 .u8 .u8 a b Tryd.underlying5
theorem eq8 (x0 x1 x2 x3 x4 x5 x6 x7 y0 y1 y2 y3 y4 y5 y6 y7 : Int) (W : World) : (Op.equalIn 10000 48 (.agg #[.int .u8 x0, .int .u8 x1, .int .u8 x2, .int .u8 x3, .int .u8 x4, .int .u8 x5, .int .u8 x6, .int .u8 x7]) (.agg #[.int .u8 y0, .int .u8 y1, .int .u8 y2, .int .u8 y3, .int .u8 y4, .int .u8 y5, .int .u8 y6, .int .u8 y7])).run Tryd.prog W = .ok (x0 == y0 && x1 == y1 && x2 == y2 && x3 == y3 && x4 == y4 && x5 == y5 && x6 == y6 && x7 == y7) W := by
  rw [show (10000 : Nat) = 9999 + 1 from rfl]
  unfold Op.equalIn
  by_cases h0 : x0 = y0
  · by_cases h1 : x1 = y1
    · by_cases h2 : x2 = y2
      · by_cases h3 : x3 = y3
        · by_cases h4 : x4 = y4
          · by_cases h5 : x5 = y5
            · by_cases h6 : x6 = y6
              · by_cases h7 : x7 = y7
                · simp [run_underlying Tryd.underlying48, Std.Legacy.Range.forIn_eq_forIn_range', List.range', part_u8, int_u8, h0, h1, h2, h3, h4, h5, h6, h7]
                · simp [run_underlying Tryd.underlying48, Std.Legacy.Range.forIn_eq_forIn_range', List.range', part_u8, int_u8, h0, h1, h2, h3, h4, h5, h6, h7]
              · simp [run_underlying Tryd.underlying48, Std.Legacy.Range.forIn_eq_forIn_range', List.range', part_u8, int_u8, h0, h1, h2, h3, h4, h5, h6]
            · simp [run_underlying Tryd.underlying48, Std.Legacy.Range.forIn_eq_forIn_range', List.range', part_u8, int_u8, h0, h1, h2, h3, h4, h5]
          · simp [run_underlying Tryd.underlying48, Std.Legacy.Range.forIn_eq_forIn_range', List.range', part_u8, int_u8, h0, h1, h2, h3, h4]
        · simp [run_underlying Tryd.underlying48, Std.Legacy.Range.forIn_eq_forIn_range', List.range', part_u8, int_u8, h0, h1, h2, h3]
      · simp [run_underlying Tryd.underlying48, Std.Legacy.Range.forIn_eq_forIn_range', List.range', part_u8, int_u8, h0, h1, h2]
    · simp [run_underlying Tryd.underlying48, Std.Legacy.Range.forIn_eq_forIn_range', List.range', part_u8, int_u8, h0, h1]
  · simp [run_underlying Tryd.underlying48, Std.Legacy.Range.forIn_eq_forIn_range', List.range', part_u8, int_u8, h0]
end Co
end Go.Proofs.YtljmdpjjieoedaaDoor
