/-
  The reference implementation of layer 3 over slices of points: between, Inside.
-/
import Derived.Test.YthcfbfgfpophmaaHullSl
namespace Go.Proofs.Ythcfbfgfpophmaa
open Go.RowKit
namespace Hl

instance (a b x : Pt) : Decidable (btw a b x) := by unfold btw; infer_instance
set_option maxHeartbeats 1000000 in
theorem between_x (a b x : Pt) (w : World) : Calls Try.prog 46 #[.agg #[.int .i64 a.1, .int .i64 a.2], .agg #[.int .i64 b.1, .int .i64 b.2], .agg #[.int .i64 x.1, .int .i64 x.2]] w fun e w' => e = .returned (.bool (decide (btw a b x))) ∧ ((w.alloc (.cells #[.int .i64 (a.1), .int .i64 (a.2)] 24)).alloc (.cells #[.int .i64 (b.1), .int .i64 (b.2)] 24)).alloc (.cells #[.int .i64 (x.1), .int .i64 (x.2)] 24) = w' := by
  rcases a with ⟨a1, a2⟩
  rcases b with ⟨b1, b2⟩
  rcases x with ⟨x1, x2⟩
  have key : ∀ r : Bool, (r = true ↔ btw (a1, a2) (b1, b2) (x1, x2)) → decide (btw (a1, a2) (b1, b2) (x1, x2)) = r := by
    intro r h
    rw [Bool.eq_iff_iff, decide_eq_true_eq]
    exact h.symm
  have K := Lib.hid key
  clear key
  rcases Int.lt_trichotomy a1 b1 with h1 | h1 | h1 <;> rcases Int.lt_trichotomy a2 b2 with h2 | h2 | h2
  all_goals
    (try subst h1)
    (try subst h2)
    go_enter Try.func46, Try.ntmps46
    go_wp2_with fail
    all_goals
      go_ret
      exact ⟨congrArg (fun r => Ending.returned (.bool r)) (K.out _ (by unfold btw; simp; omega)).symm, rfl⟩
end Hl
end Go.Proofs.Ythcfbfgfpophmaa
