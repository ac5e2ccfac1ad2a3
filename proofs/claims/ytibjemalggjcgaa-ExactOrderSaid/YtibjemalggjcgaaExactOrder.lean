/-
  The walk of the law ExactOrder: it returns true.
-/
import Derived.Test.YtibjemalggjcgaaExactOrderA
import Derived.Test.YtibjemalggjcgaaExactOrderB
import Derived.Test.YtibjemalggjcgaaExactOrderC
namespace Go.Proofs.Ytibjemalggjcgaa
open Go.RowKit
namespace Ex
theorem law_order (n m a c b : Int) (w : World) :
    Calls Try.prog 6 #[.int .i64 n, .int .i64 m, .int .i64 a, .int .i64 c, .int .i64 b] w fun e w' => e = .returned (.bool true) ∧ Grown w w' := by
  rcases Int.lt_trichotomy n m with hn | rfl | hn <;> rcases Int.lt_trichotomy a c with hc | rfl | hc
  · exact order_lt_lt n m a c b w hn hc
  · exact order_lt_eq n m a b w hn
  · exact order_lt_gt n m a c b w hn hc
  · exact order_eq_lt n a c b w hc
  · exact order_eq_eq n a b w
  · exact order_eq_gt n a c b w hc
  · exact order_gt_lt n m a c b w hn hc
  · exact order_gt_eq n m a b w hn
  · exact order_gt_gt n m a c b w hn hc
end Ex
end Go.Proofs.Ytibjemalggjcgaa
