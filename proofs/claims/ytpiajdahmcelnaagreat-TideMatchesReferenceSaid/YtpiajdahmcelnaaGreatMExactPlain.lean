/-
  Plain integers: quotients rounded down and up, and what is known of them. No Go, no program.
  The functions of package exact, one contract each: what each returns, in a world that has at most new blocks.
  Scale of package exact, and what it calls.
  The reference implementation of layer 1: one contract each.
-/
import Derived.WalkKit
import Derived.WalkSpells
import Derived.WalkLawsBesides
import Derived.RowKit3
import Derived.Lib.Hide
import Derived.Deep.QuietTactic
import Derived.BigQuiet
import Derived.Test.YtpiajdahmcelnaaGreatRows
import Derived.Deep.RegionHeld3
import Derived.Laws.EntriesVeiled
namespace Go.Proofs.YtpiajdahmcelnaaGreat
namespace Ex

/-- The quotient rounded down: b is not 0. -/
def fl (a b : Int) : Int := if 0 < b then a / b else (-a) / (-b)
/-- The quotient rounded up. -/
def ce (a b : Int) : Int := -(fl (-a) b)

theorem ediv_is {a b q r : Int} (hb : 0 < b) (h : r + b * q = a) (h0 : 0 ≤ r) (h1 : r < b) : a / b = q :=
  ((Int.ediv_emod_unique hb).2 ⟨h, h0, h1⟩).1

/-- What Go's division leaves. -/
theorem cut_facts (a b : Int) (_hb : b ≠ 0) : b * a.tdiv b + a.tmod b = a ∧ (0 ≤ a → 0 ≤ a.tmod b) ∧ (a ≤ 0 → a.tmod b ≤ 0) ∧ (0 < b → a.tmod b < b ∧ -b < a.tmod b) ∧ (b < 0 → a.tmod b < -b ∧ b < a.tmod b) := by
  refine ⟨Int.mul_tdiv_add_tmod a b, fun h => Int.tmod_nonneg b h, fun h => ?_, fun h => ?_, fun h => ?_⟩
  · have := Int.tmod_nonneg b (show (0 : Int) ≤ -a by omega)
    rw [Int.neg_tmod] at this; omega
  · have h1 := Int.tmod_lt_of_pos a h
    have h2 := Int.tmod_lt_of_pos (-a) h
    rw [Int.neg_tmod] at h2; omega
  · have h1 := Int.tmod_lt_of_pos a (show (0 : Int) < -b by omega)
    have h2 := Int.tmod_lt_of_pos (-a) (show (0 : Int) < -b by omega)
    rw [Int.neg_tmod] at h2
    rw [Int.tmod_neg] at h1 h2; omega

theorem fl_whole {a b : Int} (hb : b ≠ 0) (h : a.tmod b = 0) : fl a b = a.tdiv b ∧ ce a b = a.tdiv b := by
  obtain ⟨e, -, -, hp, hn⟩ := cut_facts a b hb
  have e1 : b * -(a.tdiv b) = -(b * a.tdiv b) := Int.mul_neg _ _
  have e2 : -b * (a.tdiv b) = -(b * a.tdiv b) := Int.neg_mul _ _
  have e3 : -b * -(a.tdiv b) = b * a.tdiv b := Int.neg_mul_neg _ _
  unfold ce fl
  by_cases h0 : 0 < b
  · rw [if_pos h0, if_pos h0, ediv_is (q := a.tdiv b) (r := 0) h0 (by omega) (by omega) (by omega), ediv_is (q := -(a.tdiv b)) (r := 0) h0 (by omega) (by omega) (by omega)]; omega
  · rw [if_neg h0, if_neg h0, ediv_is (q := a.tdiv b) (r := 0) (b := -b) (by omega) (by omega) (by omega) (by omega), ediv_is (q := -(a.tdiv b)) (r := 0) (b := -b) (by omega) (by omega) (by omega) (by omega)]; omega

/-- The true quotient is above what Go's division leaves. -/
theorem fl_above {a b : Int} (hb : b ≠ 0) (h : a.tmod b ≠ 0) (hs : (a.tmod b < 0) ↔ (b < 0)) : fl a b = a.tdiv b ∧ ce a b = a.tdiv b + 1 := by
  obtain ⟨e, -, -, hp, hn⟩ := cut_facts a b hb
  have e1 : b * (-(a.tdiv b) - 1) = -(b * a.tdiv b) - b := by rw [Int.mul_sub, Int.mul_neg, Int.mul_one]
  have e2 : -b * (a.tdiv b) = -(b * a.tdiv b) := Int.neg_mul _ _
  have e3 : -b * (-(a.tdiv b) - 1) = b * a.tdiv b + b := by rw [Int.mul_sub, Int.neg_mul_neg, Int.mul_one]; omega
  unfold ce fl
  by_cases h0 : 0 < b
  · have hp := hp h0
    rw [if_pos h0, if_pos h0, ediv_is (q := a.tdiv b) (r := a.tmod b) h0 (by omega) (by omega) (by omega), ediv_is (q := -(a.tdiv b) - 1) (r := b - a.tmod b) h0 (by omega) (by omega) (by omega)]; omega
  · have hn := hn (by omega)
    rw [if_neg h0, if_neg h0, ediv_is (q := a.tdiv b) (r := -(a.tmod b)) (b := -b) (by omega) (by omega) (by omega) (by omega), ediv_is (q := -(a.tdiv b) - 1) (r := -b + a.tmod b) (b := -b) (by omega) (by omega) (by omega) (by omega)]; omega

/-- The true quotient is below it. -/
theorem fl_below {a b : Int} (hb : b ≠ 0) (h : a.tmod b ≠ 0) (hs : ¬((a.tmod b < 0) ↔ (b < 0))) : fl a b = a.tdiv b - 1 ∧ ce a b = a.tdiv b := by
  obtain ⟨e, -, -, hp, hn⟩ := cut_facts a b hb
  have e1 : b * (a.tdiv b - 1) = b * a.tdiv b - b := by rw [Int.mul_sub, Int.mul_one]
  have e2 : b * -(a.tdiv b) = -(b * a.tdiv b) := Int.mul_neg _ _
  have e3 : -b * (a.tdiv b - 1) = -(b * a.tdiv b) + b := by rw [Int.mul_sub, Int.neg_mul, Int.mul_one]; omega
  have e4 : -b * -(a.tdiv b) = b * a.tdiv b := Int.neg_mul_neg _ _
  unfold ce fl
  by_cases h0 : 0 < b
  · have hp := hp h0
    rw [if_pos h0, if_pos h0, ediv_is (q := a.tdiv b - 1) (r := b + a.tmod b) h0 (by omega) (by omega) (by omega), ediv_is (q := -(a.tdiv b)) (r := -(a.tmod b)) h0 (by omega) (by omega) (by omega)]; omega
  · have hn := hn (by omega)
    rw [if_neg h0, if_neg h0, ediv_is (q := a.tdiv b - 1) (r := -b - a.tmod b) (b := -b) (by omega) (by omega) (by omega) (by omega), ediv_is (q := -(a.tdiv b)) (r := a.tmod b) (b := -b) (by omega) (by omega) (by omega) (by omega)]; omega

/-- Bounds on Go's quotient: it is not farther from 0 than the dividend. -/
theorem tdiv_bd (a b : Int) (_hb : b ≠ 0) : -(a.natAbs : Int) ≤ a.tdiv b ∧ a.tdiv b ≤ a.natAbs := by
  have h := Int.natAbs_tdiv_le_natAbs a b
  omega

/-! ### Roots -/
/-- What is left, as the reference says it. -/
theorem rest_is (a b : Int) : a - a.tdiv b * b = a.tmod b := by
  have := Int.mul_tdiv_add_tmod a b
  rw [Int.mul_comm] at this; omega
theorem fl_bd {a b m : Int} (hb : b ≠ 0) (h : -m ≤ a ∧ a ≤ m) : -m - 1 ≤ fl a b ∧ fl a b ≤ m := by
  obtain ⟨q0, q1⟩ := tdiv_bd a b hb
  by_cases h0 : a.tmod b = 0
  · rw [(fl_whole hb h0).1]; omega
  · by_cases hs : (a.tmod b < 0) ↔ (b < 0)
    · rw [(fl_above hb h0 hs).1]; omega
    · rw [(fl_below hb h0 hs).1]; omega
theorem rest_bd {a b : Int} (hb : b ≠ 0) (h : -1000000000000000000 ≤ a ∧ a ≤ 1000000000000000000) : (-1000000000000000000 ≤ a.tdiv b * b ∧ a.tdiv b * b ≤ 1000000000000000000) ∧ -1000000000000000000 ≤ a - a.tdiv b * b ∧ a - a.tdiv b * b ≤ 1000000000000000000 := by
  have e := rest_is a b
  obtain ⟨-, c1, c2, -, -⟩ := cut_facts a b hb
  have c3 : (a.tmod b).natAbs ≤ a.natAbs := by rw [Int.natAbs_tmod]; exact Nat.mod_le _ _
  omega
end Ex
end Go.Proofs.YtpiajdahmcelnaaGreat
namespace Go.Proofs.YtpiajdahmcelnaaGreat
open Go.RowKit
namespace Ex

/-! ### Worlds -/
theorem Grown.trans {a b c : World} (h : Grown a b) (k : Grown b c) : Grown a c := by
  refine ⟨?_, fun x => (k.2.1 x).trans (h.2.1 x), Nat.le_trans h.2.2 k.2.2⟩
  exact World.keptBut_trans h.1 (World.keptBut_mono (fun _ f => f.elim) k.1)

/-! ### Small tests -/
theorem isFrom_yes (n lo hi : Int) (h0 : lo ≤ n) (h1 : n ≤ hi) (w : World) :
    Calls Tryz.prog 95 #[.int .i64 n, .int .i64 lo, .int .i64 hi] w fun e w' => e = .returned (.bool true) ∧ w = w' := by
  go_enter Tryz.func95, Tryz.ntmps95
  go_wp2
  go_ret
  exact ⟨rfl, rfl⟩
theorem isSpanned_yes (n : Int) (h0 : -1000000000000 ≤ n) (h1 : n ≤ 1000000000000) (w : World) :
    Calls Tryz.prog 83 #[.int .i64 n] w fun e w' => e = .returned (.bool true) ∧ w = w' := by
  go_enter Tryz.func83, Tryz.ntmps83
  go_wp2_with fail
  refine (isFrom_yes _ _ _ (by omega) (by omega) _).mono ?_
  rintro e w' ⟨rfl, rfl⟩
  go_wp2_with fail
  go_ret
  exact ⟨rfl, rfl⟩
theorem toward_any (way : Int) (w : World) :
    Calls Tryz.prog 67 #[.int .i64 way] w fun e w' => e = .returned (.func (.func 85) #[] #[.pointer (some ⟨w.heap.size, 0, none⟩)]) ∧ w.alloc (.cells #[.int .i64 way] 3) = w' := by
  have hmf : ∀ (fn : Fn) (first cap : Array Value) (w : World), (Instr.makeFunc fn first cap).run Tryz.prog w = .ok (.func fn first cap) w := fun _ _ _ _ => rfl
  go_enter Tryz.func67, Tryz.ntmps67
  go_wp2
  go_ret
  exact ⟨rfl, rfl⟩

/-- The step that rounds down: it is called with 'above'. -/
theorem stepDown (p : Addr) (above : Bool) (w : World) (hc : w.cell? p = some (.int .i64 (-1))) :
    Calls Tryz.prog 85 #[.bool above, .pointer (some p)] w fun e w' => e = .returned (.int .i64 (if above then 0 else -1)) ∧ w = w' := by
  cases above
  · go_enter Tryz.func85, Tryz.ntmps85
    go_wp2
    go_ret
    exact ⟨rfl, rfl⟩
  · go_enter Tryz.func85, Tryz.ntmps85
    go_wp2
    go_ret
    exact ⟨rfl, rfl⟩
theorem stepUp (p : Addr) (above : Bool) (w : World) (hc : w.cell? p = some (.int .i64 1)) :
    Calls Tryz.prog 85 #[.bool above, .pointer (some p)] w fun e w' => e = .returned (.int .i64 (if above then 1 else 0)) ∧ w = w' := by
  cases above
  · go_enter Tryz.func85, Tryz.ntmps85
    go_wp2
    go_ret
    exact ⟨rfl, rfl⟩
  · go_enter Tryz.func85, Tryz.ntmps85
    go_wp2
    go_ret
    exact ⟨rfl, rfl⟩

set_option maxHeartbeats 400000 in
theorem quotDown (a b : Int) (p : Addr) (w : World) (hc : w.cell? p = some (.int .i64 (-1))) (hb : b ≠ 0) (ha : -1000000000000000000 ≤ a ∧ a ≤ 1000000000000000000) :
    Calls Tryz.prog 84 #[.int .i64 a, .int .i64 b, .func (.func 85) #[] #[.pointer (some p)]] w fun e w' => e = .returned (.int .i64 (fl a b)) ∧ ∃ n, w.drewN n = w' := by
  obtain ⟨q0, q1⟩ := tdiv_bd a b hb
  have q2 : -1000000000000000000 ≤ a.tdiv b := by omega
  have q3 : a.tdiv b ≤ 1000000000000000000 := by omega
  clear q0 q1
  by_cases h : a.tmod b = 0
  · have H := Lib.hid (fl_whole hb h).1
    have h' : (a.tmod b == 0) = true := by simp [h]
    clear h
    go_enter Tryz.func84, Tryz.ntmps84
    go_wp2
    go_quiet (fail)
    go_wp2_with fail
    go_ret
    exact ⟨by rw [H.out]; rfl, _, rfl⟩
  · have h' : (a.tmod b == 0) = false := by simp [h]
    by_cases hs : (a.tmod b < 0) ↔ (b < 0)
    · have H := Lib.hid (fl_above hb h hs).1
      have h2 : (decide (a.tmod b < 0) == decide (b < 0)) = true := by simp [hs]
      clear h hs
      go_enter Tryz.func84, Tryz.ntmps84
      go_wp2
      go_quiet (fail)
      go_wp2_with fail
      refine (stepDown p _ _ (by simpa using hc)).mono ?_
      rintro e w' ⟨rfl, rfl⟩
      go_wp2_with fail
      go_ret
      exact ⟨by rw [H.out]; rfl, _, rfl⟩
    · have H := Lib.hid (fl_below hb h hs).1
      have h2 : (decide (a.tmod b < 0) == decide (b < 0)) = false := by simp; exact hs
      clear h hs
      go_enter Tryz.func84, Tryz.ntmps84
      go_wp2
      go_quiet (fail)
      go_wp2_with fail
      refine (stepDown p _ _ (by simpa using hc)).mono ?_
      rintro e w' ⟨rfl, rfl⟩
      go_wp2_with fail
      go_ret
      exact ⟨by rw [H.out]; rfl, _, rfl⟩
set_option maxHeartbeats 400000 in
theorem quotUp (a b : Int) (p : Addr) (w : World) (hc : w.cell? p = some (.int .i64 1)) (hb : b ≠ 0) (ha : -1000000000000000000 ≤ a ∧ a ≤ 1000000000000000000) :
    Calls Tryz.prog 84 #[.int .i64 a, .int .i64 b, .func (.func 85) #[] #[.pointer (some p)]] w fun e w' => e = .returned (.int .i64 (ce a b)) ∧ ∃ n, w.drewN n = w' := by
  obtain ⟨q0, q1⟩ := tdiv_bd a b hb
  have q2 : -1000000000000000000 ≤ a.tdiv b := by omega
  have q3 : a.tdiv b ≤ 1000000000000000000 := by omega
  clear q0 q1
  by_cases h : a.tmod b = 0
  · have H := Lib.hid (fl_whole hb h).2
    have h' : (a.tmod b == 0) = true := by simp [h]
    clear h
    go_enter Tryz.func84, Tryz.ntmps84
    go_wp2
    go_quiet (fail)
    go_wp2_with fail
    go_ret
    exact ⟨by rw [H.out]; rfl, _, rfl⟩
  · have h' : (a.tmod b == 0) = false := by simp [h]
    by_cases hs : (a.tmod b < 0) ↔ (b < 0)
    · have H := Lib.hid (fl_above hb h hs).2
      have h2 : (decide (a.tmod b < 0) == decide (b < 0)) = true := by simp [hs]
      clear h hs
      go_enter Tryz.func84, Tryz.ntmps84
      go_wp2
      go_quiet (fail)
      go_wp2_with fail
      refine (stepUp p _ _ (by simpa using hc)).mono ?_
      rintro e w' ⟨rfl, rfl⟩
      go_wp2_with fail
      go_ret
      exact ⟨by rw [H.out]; rfl, _, rfl⟩
    · have H := Lib.hid (fl_below hb h hs).2
      have h2 : (decide (a.tmod b < 0) == decide (b < 0)) = false := by simp; exact hs
      clear h hs
      go_enter Tryz.func84, Tryz.ntmps84
      go_wp2
      go_quiet (fail)
      go_wp2_with fail
      refine (stepUp p _ _ (by simpa using hc)).mono ?_
      rintro e w' ⟨rfl, rfl⟩
      go_wp2_with fail
      go_ret
      exact ⟨by rw [H.out]; rfl, _, rfl⟩

/-! ### Floor and Ceil -/
/-- What Floor and Ceil take. -/
def Dv (a b : Int) : Prop := (-1000000000000 ≤ a ∧ a ≤ 1000000000000) ∧ (-1000000000000 ≤ b ∧ b ≤ 1000000000000) ∧ b ≠ 0
theorem divDown_ok (a b : Int) (p : Addr) (w : World) (hc : w.cell? p = some (.int .i64 (-1))) (h : Dv a b) :
    Calls Tryz.prog 66 #[.int .i64 a, .int .i64 b, .func (.func 85) #[] #[.pointer (some p)]] w fun e w' => e = .returned (.tuple #[.int .i64 (fl a b), .int .i64 0]) ∧ ∃ n, w.drewN n = w' := by
  obtain ⟨⟨a0, a1⟩, ⟨b0, b1⟩, hb⟩ := h
  have hb' : (b == 0) = false := by simp [hb]
  have Hb := Lib.hid hb
  clear hb
  go_enter Tryz.func66, Tryz.ntmps66
  go_wp2_with fail
  refine (isSpanned_yes _ a0 a1 _).mono ?_
  rintro e w' ⟨rfl, rfl⟩
  go_wp2_with fail
  refine (isSpanned_yes _ b0 b1 _).mono ?_
  rintro e w' ⟨rfl, rfl⟩
  go_wp2_with fail
  refine (quotDown _ _ _ _ hc Hb.out (by omega)).mono ?_
  rintro e w' ⟨rfl, n, rfl⟩
  go_wp2_with fail
  go_ret2
  exact ⟨rfl, n, rfl⟩
theorem divUp_ok (a b : Int) (p : Addr) (w : World) (hc : w.cell? p = some (.int .i64 1)) (h : Dv a b) :
    Calls Tryz.prog 66 #[.int .i64 a, .int .i64 b, .func (.func 85) #[] #[.pointer (some p)]] w fun e w' => e = .returned (.tuple #[.int .i64 (ce a b), .int .i64 0]) ∧ ∃ n, w.drewN n = w' := by
  obtain ⟨⟨a0, a1⟩, ⟨b0, b1⟩, hb⟩ := h
  have hb' : (b == 0) = false := by simp [hb]
  have Hb := Lib.hid hb
  clear hb
  go_enter Tryz.func66, Tryz.ntmps66
  go_wp2_with fail
  refine (isSpanned_yes _ a0 a1 _).mono ?_
  rintro e w' ⟨rfl, rfl⟩
  go_wp2_with fail
  refine (isSpanned_yes _ b0 b1 _).mono ?_
  rintro e w' ⟨rfl, rfl⟩
  go_wp2_with fail
  refine (quotUp _ _ _ _ hc Hb.out (by omega)).mono ?_
  rintro e w' ⟨rfl, n, rfl⟩
  go_wp2_with fail
  go_ret2
  exact ⟨rfl, n, rfl⟩
theorem Grown.drewN {W w : World} (h : Grown W w) (n : Nat) : Grown W (w.drewN n) := h
end Ex
end Go.Proofs.YtpiajdahmcelnaaGreat
namespace Go.Proofs.YtpiajdahmcelnaaGreat
open Go.RowKit
namespace Ex

theorem Grown.cell {W w : World} (h : Grown W w) {b o : Nat} (hb : b < W.heap.size) : w.cell? ⟨b, o, none⟩ = W.cell? ⟨b, o, none⟩ :=
  World.keptBut.cell h.1 hb (fun f => f)

end Ex
end Go.Proofs.YtpiajdahmcelnaaGreat
namespace Go.Proofs.YtpiajdahmcelnaaGreat
open Go.RowKit
namespace Ex

set_option maxHeartbeats 400000 in
theorem down_any (a b : Int) (w : World) (hb : b ≠ 0) (ha : -1000000000000000000 ≤ a ∧ a ≤ 1000000000000000000) :
    Calls Tryz.prog 57 #[.int .i64 a, .int .i64 b] w fun e w' => e = .returned (.int .i64 (fl a b)) ∧ w = w' := by
  obtain ⟨q0, q1⟩ := tdiv_bd a b hb
  have q2 : -1000000000000000000 ≤ a.tdiv b := by omega
  have q3 : a.tdiv b ≤ 1000000000000000000 := by omega
  clear q0 q1
  obtain ⟨⟨r0, r1⟩, r2, r3⟩ := rest_bd hb ha
  have e := rest_is a b
  have hb' : (b == 0) = false := by simp [hb]
  by_cases h : a.tmod b = 0
  · have H := Lib.hid (fl_whole hb h).1
    have h' : (a - a.tdiv b * b != 0) = false := by rw [e]; simp [h]
    clear h e
    go_enter Tryz.func57, Tryz.ntmps57
    go_wp2_with fail
    go_ret
    exact ⟨by rw [H.out]; rfl, rfl⟩
  · have h' : (a - a.tdiv b * b != 0) = true := by rw [e]; simp [h]
    by_cases hs : (a.tmod b < 0) ↔ (b < 0)
    · have H := Lib.hid (fl_above hb h hs).1
      have h2 : (decide (a - a.tdiv b * b < 0) == decide (b < 0)) = true := by rw [e]; simp [hs]
      clear h hs e
      go_enter Tryz.func57, Tryz.ntmps57
      go_wp2_with fail
      go_ret
      exact ⟨by rw [H.out]; rfl, rfl⟩
    · have H := Lib.hid (fl_below hb h hs).1
      have h2 : (decide (a - a.tdiv b * b < 0) == decide (b < 0)) = false := by rw [e]; simp; exact hs
      clear h hs e
      go_enter Tryz.func57, Tryz.ntmps57
      go_wp2_with fail
      go_ret
      exact ⟨by rw [H.out]; rfl, rfl⟩

theorem up_any (a b : Int) (w : World) (hb : b ≠ 0) (ha : -1000000000000000000 ≤ a ∧ a ≤ 1000000000000000000) :
    Calls Tryz.prog 58 #[.int .i64 a, .int .i64 b] w fun e w' => e = .returned (.int .i64 (ce a b)) ∧ w = w' := by
  have H : Hid (b ≠ 0) := Lib.hid hb
  obtain ⟨f0, f1⟩ := fl_bd (a := -a) (m := 1000000000000000000) hb (by omega)
  clear hb
  go_enter Tryz.func58, Tryz.ntmps58
  go_wp2_with fail
  refine (down_any _ _ _ H.out (by omega)).mono ?_
  rintro e w' ⟨rfl, rfl⟩
  go_wp2_with fail
  go_ret
  exact ⟨rfl, rfl⟩

end Ex
end Go.Proofs.YtpiajdahmcelnaaGreat
