/-
  Root of package exact.
-/
import Derived.Test.YtibjemalggjcgaaExactScale
import Derived.Laws.EntriesVeiled
namespace Go.Proofs.Ytibjemalggjcgaa
open Go.RowKit
namespace Ex

def rootVal (p : Addr) : Value := .func (.func 29) #[] #[.pointer (some p)]

set_option maxHeartbeats 400000 in
theorem root_rec (p : Addr) (k : Nat) : ∀ (n : Int) (w : World), n ≤ k → 0 ≤ n → n ≤ 1000000000000000000 → w.cell? p = some (.func (.func 29) #[] #[.pointer (some p)]) →
    Calls Try.prog 29 #[.int .i64 n, .pointer (some p)] w fun e w' => e = .returned (.int .i64 (isq n)) ∧ w = w' := by
  induction k with
  | zero =>
    intro n w hk h0 h1 hc
    obtain rfl : n = 0 := by omega
    have H : Hid (isq 0 = 0) := Lib.hid rfl
    go_enter Try.func29, Try.ntmps29
    go_wp2_with fail
    go_ret
    exact ⟨by rw [H.out]; rfl, rfl⟩
  | succ k ih =>
    intro n w hk h0 h1 hc
    have IH := Lib.hid ih
    clear ih
    by_cases hn : n = 0
    · subst hn
      have H : Hid (isq 0 = 0) := Lib.hid rfl
      go_enter Try.func29, Try.ntmps29
      go_wp2_with fail
      go_ret
      exact ⟨by rw [H.out]; rfl, rfl⟩
    · have hn' : (n == 0) = false := by simp [hn]
      have hp : 1 ≤ n := by omega
      clear hn
      have q0 := isq_nonneg (n / 4)
      have q1 := isq_quarter h0 h1
      obtain ⟨q2, q3⟩ := sq_bd (show 0 ≤ 2 * isq (n / 4) + 1 by omega) (by omega)
      by_cases ht : (2 * isq (n / 4) + 1) * (2 * isq (n / 4) + 1) ≤ n
      · have H := Lib.hid (isq_odd h0 ht)
        go_enter Try.func29, Try.ntmps29
        go_wp2_with fail
        refine (IH.out _ _ (by omega) (by omega) (by omega) hc).mono ?_
        rintro e w' ⟨rfl, rfl⟩
        go_wp2_with fail
        go_ret
        exact ⟨by rw [H.out]; rfl, rfl⟩
      · have H := Lib.hid (isq_even h0 (show n < (2 * isq (n / 4) + 1) * (2 * isq (n / 4) + 1) by omega))
        have ht' : decide ((2 * isq (n / 4) + 1) * (2 * isq (n / 4) + 1) ≤ n) = false := by simpa using ht
        clear ht
        go_enter Try.func29, Try.ntmps29
        go_wp2_with fail
        refine (IH.out _ _ (by omega) (by omega) (by omega) hc).mono ?_
        rintro e w' ⟨rfl, rfl⟩
        go_wp2_with fail
        go_ret
        exact ⟨by rw [H.out]; rfl, rfl⟩

theorem root_ok (n : Int) (w : World) (h0 : 0 ≤ n) (h1 : n ≤ 1000000000000000000) :
    Calls Try.prog 17 #[.int .i64 n] w fun e w' => e = .returned (.tuple #[.int .i64 (isq n), .int .i64 0]) ∧ Grown w w' := by
  have hmf : ∀ (fn : Fn) (first cap : Array Value) (w : World), (Instr.makeFunc fn first cap).run Try.prog w = .ok (.func fn first cap) w := fun _ _ _ _ => rfl
  go_enter Try.func17, Try.ntmps17
  go_wp2_with fail
  refine (isFrom_yes _ _ _ h0 h1 _).mono ?_
  rintro e w' ⟨rfl, rfl⟩
  go_wp2_with fail
  refine (root_rec _ n.toNat _ _ (by omega) h0 h1 (by simp [go_sem])).mono ?_
  rintro e w' ⟨rfl, rfl⟩
  go_wp2_with fail
  go_ret2
  exact ⟨rfl, (Grown.refl _).alloc _ _⟩
theorem root_bad (n : Int) (w : World) (h : n < 0 ∨ 1000000000000000000 < n) :
    Calls Try.prog 17 #[.int .i64 n] w fun e w' => e = .returned (.tuple #[.int .i64 0, .int .i64 1]) ∧ Grown w w' := by
  have H := Lib.hid h
  clear h
  go_enter Try.func17, Try.ntmps17
  go_wp2_with fail
  refine (isFrom_no _ _ _ H.out _).mono ?_
  rintro e w' ⟨rfl, rfl⟩
  go_wp2_with fail
  go_ret2
  exact ⟨rfl, Grown.refl _⟩
end Ex
end Go.Proofs.Ytibjemalggjcgaa
