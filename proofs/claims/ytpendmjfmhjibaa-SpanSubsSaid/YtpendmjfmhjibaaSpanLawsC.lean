/-
  The law's own function in, and more.
-/
import Derived.Test.YtpendmjfmhjibaaSpanLawsA
namespace Go.Proofs.Ytpendmjfmhjibaa
open Go.RowKit
namespace Sn

theorem size_drewN (w : World) (n : Nat) : (w.drewN n).heap.size = w.heap.size := rfl
/-- The integer of a span that a number picks. -/
def inn (lo hi k : Int) : Int := lo + k % (hi - lo + 1)
theorem inn_in {lo hi : Int} (k : Int) (h : Vd lo hi) : lo ≤ inn lo hi k ∧ inn lo hi k ≤ hi := by
  obtain ⟨_, h1, _⟩ := h
  have a := Int.emod_nonneg k (show hi - lo + 1 ≠ 0 by omega)
  have b := Int.emod_lt_of_pos k (show 0 < hi - lo + 1 by omega)
  unfold inn; omega
set_option maxHeartbeats 400000 in
theorem in_any (lo hi k : Int) (w : World) (h : Vd lo hi) (hk : 0 ≤ k ∧ k ≤ 18446744073709551615) : Calls Try.prog 25 #[.agg #[.int .i64 lo, .int .i64 hi], .int .u64 k] w fun e w' => e = .returned (.int .i64 (inn lo hi k)) ∧ ∃ n, (w.alloc (.cells #[.int .i64 lo, .int .i64 hi] 23)).drewN n = w' := by
  obtain ⟨h0, h1, h2⟩ := h
  obtain ⟨k0, k1⟩ := hk
  have a := Int.emod_nonneg k (show hi - lo + 1 ≠ 0 by omega)
  have b := Int.emod_lt_of_pos k (show 0 < hi - lo + 1 by omega)
  have nz : hi - lo + 1 ≠ 0 := by omega
  have p : 1 ≤ hi - lo + 1 := by omega
  go_enter Try.func25, Try.ntmps25
  go_wp2_with fail
  go_quiet (fail)
  go_wp2_with fail
  go_ret
  exact ⟨rfl, _, rfl⟩

theorem has_yes {a b n : Int} (h : Vd a b) (h0 : a ≤ n) (h1 : n ≤ b) : ∀ w, Calls Try.prog 11 #[.agg #[.int .i64 a, .int .i64 b], .int .i64 n] w fun e w' => e = .returned (.tuple #[.bool true, .int .i64 0]) ∧ Grown w w' := by
  intro w
  have h := spHas_ok a b n w h
  rwa [show hs a b n = true from by unfold hs; simp [h0, h1]] at h


end Sn
end Go.Proofs.Ytpendmjfmhjibaa
