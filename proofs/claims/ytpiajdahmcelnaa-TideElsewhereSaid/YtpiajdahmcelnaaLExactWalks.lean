/-
  The functions of package exact, one contract each: what each returns, in a world that has at most new blocks.
  Scale of package exact, and what it calls.
  The reference implementation of layer 1: one contract each.
-/
import Derived.WalkKit
import Derived.WalkSpells
import Derived.WalkLawsBesides
import Derived.RowKit3
import Derived.Lib.Hide
import Derived.Deep.QuietTactic
import Derived.BigQuiet
import Derived.Test.YtpiajdahmcelnaaRows
import Derived.Test.YtpiajdahmcelnaaLExactPlain
import Derived.Deep.RegionHeld3
import Derived.Laws.EntriesVeiled
namespace Go.Proofs.Ytpiajdahmcelnaa
open Go.RowKit
namespace Ex

/-! ### Worlds -/
theorem Grown.trans {a b c : World} (h : Grown a b) (k : Grown b c) : Grown a c := by
  refine ⟨?_, fun x => (k.2.1 x).trans (h.2.1 x), Nat.le_trans h.2.2 k.2.2⟩
  exact World.keptBut_trans h.1 (World.keptBut_mono (fun _ f => f.elim) k.1)

/-! ### Small tests -/
theorem isFrom_yes (n lo hi : Int) (h0 : lo ≤ n) (h1 : n ≤ hi) (w : World) :
    Calls Try.prog 99 #[.int .i64 n, .int .i64 lo, .int .i64 hi] w fun e w' => e = .returned (.bool true) ∧ w = w' := by
  go_enter Try.func99, Try.ntmps99
  go_wp2
  go_ret
  exact ⟨rfl, rfl⟩
theorem isSpanned_yes (n : Int) (h0 : -1000000000000 ≤ n) (h1 : n ≤ 1000000000000) (w : World) :
    Calls Try.prog 90 #[.int .i64 n] w fun e w' => e = .returned (.bool true) ∧ w = w' := by
  go_enter Try.func90, Try.ntmps90
  go_wp2_with fail
  refine (isFrom_yes _ _ _ (by omega) (by omega) _).mono ?_
  rintro e w' ⟨rfl, rfl⟩
  go_wp2_with fail
  go_ret
  exact ⟨rfl, rfl⟩
theorem toward_any (way : Int) (w : World) :
    Calls Try.prog 81 #[.int .i64 way] w fun e w' => e = .returned (.func (.func 92) #[] #[.pointer (some ⟨w.heap.size, 0, none⟩)]) ∧ w.alloc (.cells #[.int .i64 way] 3) = w' := by
  have hmf : ∀ (fn : Fn) (first cap : Array Value) (w : World), (Instr.makeFunc fn first cap).run Try.prog w = .ok (.func fn first cap) w := fun _ _ _ _ => rfl
  go_enter Try.func81, Try.ntmps81
  go_wp2
  go_ret
  exact ⟨rfl, rfl⟩

/-- The step that rounds down: it is called with 'above'. -/
theorem stepDown (p : Addr) (above : Bool) (w : World) (hc : w.cell? p = some (.int .i64 (-1))) :
    Calls Try.prog 92 #[.bool above, .pointer (some p)] w fun e w' => e = .returned (.int .i64 (if above then 0 else -1)) ∧ w = w' := by
  cases above
  · go_enter Try.func92, Try.ntmps92
    go_wp2
    go_ret
    exact ⟨rfl, rfl⟩
  · go_enter Try.func92, Try.ntmps92
    go_wp2
    go_ret
    exact ⟨rfl, rfl⟩
theorem stepUp (p : Addr) (above : Bool) (w : World) (hc : w.cell? p = some (.int .i64 1)) :
    Calls Try.prog 92 #[.bool above, .pointer (some p)] w fun e w' => e = .returned (.int .i64 (if above then 1 else 0)) ∧ w = w' := by
  cases above
  · go_enter Try.func92, Try.ntmps92
    go_wp2
    go_ret
    exact ⟨rfl, rfl⟩
  · go_enter Try.func92, Try.ntmps92
    go_wp2
    go_ret
    exact ⟨rfl, rfl⟩

set_option maxHeartbeats 400000 in
theorem quotDown (a b : Int) (p : Addr) (w : World) (hc : w.cell? p = some (.int .i64 (-1))) (hb : b ≠ 0) (ha : -1000000000000000000 ≤ a ∧ a ≤ 1000000000000000000) :
    Calls Try.prog 91 #[.int .i64 a, .int .i64 b, .func (.func 92) #[] #[.pointer (some p)]] w fun e w' => e = .returned (.int .i64 (fl a b)) ∧ ∃ n, w.drewN n = w' := by
  obtain ⟨q0, q1⟩ := tdiv_bd a b hb
  have q2 : -1000000000000000000 ≤ a.tdiv b := by omega
  have q3 : a.tdiv b ≤ 1000000000000000000 := by omega
  clear q0 q1
  by_cases h : a.tmod b = 0
  · have H := Lib.hid (fl_whole hb h).1
    have h' : (a.tmod b == 0) = true := by simp [h]
    clear h
    go_enter Try.func91, Try.ntmps91
    go_wp2
    go_quiet (fail)
    go_wp2_with fail
    go_ret
    exact ⟨by rw [H.out]; rfl, _, rfl⟩
  · have h' : (a.tmod b == 0) = false := by simp [h]
    by_cases hs : (a.tmod b < 0) ↔ (b < 0)
    · have H := Lib.hid (fl_above hb h hs).1
      have h2 : (decide (a.tmod b < 0) == decide (b < 0)) = true := by simp [hs]
      clear h hs
      go_enter Try.func91, Try.ntmps91
      go_wp2
      go_quiet (fail)
      go_wp2_with fail
      refine (stepDown p _ _ (by simpa using hc)).mono ?_
      rintro e w' ⟨rfl, rfl⟩
      go_wp2_with fail
      go_ret
      exact ⟨by rw [H.out]; rfl, _, rfl⟩
    · have H := Lib.hid (fl_below hb h hs).1
      have h2 : (decide (a.tmod b < 0) == decide (b < 0)) = false := by simp; exact hs
      clear h hs
      go_enter Try.func91, Try.ntmps91
      go_wp2
      go_quiet (fail)
      go_wp2_with fail
      refine (stepDown p _ _ (by simpa using hc)).mono ?_
      rintro e w' ⟨rfl, rfl⟩
      go_wp2_with fail
      go_ret
      exact ⟨by rw [H.out]; rfl, _, rfl⟩
set_option maxHeartbeats 400000 in
theorem quotUp (a b : Int) (p : Addr) (w : World) (hc : w.cell? p = some (.int .i64 1)) (hb : b ≠ 0) (ha : -1000000000000000000 ≤ a ∧ a ≤ 1000000000000000000) :
    Calls Try.prog 91 #[.int .i64 a, .int .i64 b, .func (.func 92) #[] #[.pointer (some p)]] w fun e w' => e = .returned (.int .i64 (ce a b)) ∧ ∃ n, w.drewN n = w' := by
  obtain ⟨q0, q1⟩ := tdiv_bd a b hb
  have q2 : -1000000000000000000 ≤ a.tdiv b := by omega
  have q3 : a.tdiv b ≤ 1000000000000000000 := by omega
  clear q0 q1
  by_cases h : a.tmod b = 0
  · have H := Lib.hid (fl_whole hb h).2
    have h' : (a.tmod b == 0) = true := by simp [h]
    clear h
    go_enter Try.func91, Try.ntmps91
    go_wp2
    go_quiet (fail)
    go_wp2_with fail
    go_ret
    exact ⟨by rw [H.out]; rfl, _, rfl⟩
  · have h' : (a.tmod b == 0) = false := by simp [h]
    by_cases hs : (a.tmod b < 0) ↔ (b < 0)
    · have H := Lib.hid (fl_above hb h hs).2
      have h2 : (decide (a.tmod b < 0) == decide (b < 0)) = true := by simp [hs]
      clear h hs
      go_enter Try.func91, Try.ntmps91
      go_wp2
      go_quiet (fail)
      go_wp2_with fail
      refine (stepUp p _ _ (by simpa using hc)).mono ?_
      rintro e w' ⟨rfl, rfl⟩
      go_wp2_with fail
      go_ret
      exact ⟨by rw [H.out]; rfl, _, rfl⟩
    · have H := Lib.hid (fl_below hb h hs).2
      have h2 : (decide (a.tmod b < 0) == decide (b < 0)) = false := by simp; exact hs
      clear h hs
      go_enter Try.func91, Try.ntmps91
      go_wp2
      go_quiet (fail)
      go_wp2_with fail
      refine (stepUp p _ _ (by simpa using hc)).mono ?_
      rintro e w' ⟨rfl, rfl⟩
      go_wp2_with fail
      go_ret
      exact ⟨by rw [H.out]; rfl, _, rfl⟩

/-! ### Floor and Ceil -/
/-- What Floor and Ceil take. -/
def Dv (a b : Int) : Prop := (-1000000000000 ≤ a ∧ a ≤ 1000000000000) ∧ (-1000000000000 ≤ b ∧ b ≤ 1000000000000) ∧ b ≠ 0
theorem divDown_ok (a b : Int) (p : Addr) (w : World) (hc : w.cell? p = some (.int .i64 (-1))) (h : Dv a b) :
    Calls Try.prog 80 #[.int .i64 a, .int .i64 b, .func (.func 92) #[] #[.pointer (some p)]] w fun e w' => e = .returned (.tuple #[.int .i64 (fl a b), .int .i64 0]) ∧ ∃ n, w.drewN n = w' := by
  obtain ⟨⟨a0, a1⟩, ⟨b0, b1⟩, hb⟩ := h
  have hb' : (b == 0) = false := by simp [hb]
  have Hb := Lib.hid hb
  clear hb
  go_enter Try.func80, Try.ntmps80
  go_wp2_with fail
  refine (isSpanned_yes _ a0 a1 _).mono ?_
  rintro e w' ⟨rfl, rfl⟩
  go_wp2_with fail
  refine (isSpanned_yes _ b0 b1 _).mono ?_
  rintro e w' ⟨rfl, rfl⟩
  go_wp2_with fail
  refine (quotDown _ _ _ _ hc Hb.out (by omega)).mono ?_
  rintro e w' ⟨rfl, n, rfl⟩
  go_wp2_with fail
  go_ret2
  exact ⟨rfl, n, rfl⟩
theorem divUp_ok (a b : Int) (p : Addr) (w : World) (hc : w.cell? p = some (.int .i64 1)) (h : Dv a b) :
    Calls Try.prog 80 #[.int .i64 a, .int .i64 b, .func (.func 92) #[] #[.pointer (some p)]] w fun e w' => e = .returned (.tuple #[.int .i64 (ce a b), .int .i64 0]) ∧ ∃ n, w.drewN n = w' := by
  obtain ⟨⟨a0, a1⟩, ⟨b0, b1⟩, hb⟩ := h
  have hb' : (b == 0) = false := by simp [hb]
  have Hb := Lib.hid hb
  clear hb
  go_enter Try.func80, Try.ntmps80
  go_wp2_with fail
  refine (isSpanned_yes _ a0 a1 _).mono ?_
  rintro e w' ⟨rfl, rfl⟩
  go_wp2_with fail
  refine (isSpanned_yes _ b0 b1 _).mono ?_
  rintro e w' ⟨rfl, rfl⟩
  go_wp2_with fail
  refine (quotUp _ _ _ _ hc Hb.out (by omega)).mono ?_
  rintro e w' ⟨rfl, n, rfl⟩
  go_wp2_with fail
  go_ret2
  exact ⟨rfl, n, rfl⟩
theorem Grown.drewN {W w : World} (h : Grown W w) (n : Nat) : Grown W (w.drewN n) := h
end Ex
end Go.Proofs.Ytpiajdahmcelnaa
namespace Go.Proofs.Ytpiajdahmcelnaa
open Go.RowKit
namespace Ex

theorem Grown.cell {W w : World} (h : Grown W w) {b o : Nat} (hb : b < W.heap.size) : w.cell? ⟨b, o, none⟩ = W.cell? ⟨b, o, none⟩ :=
  World.keptBut.cell h.1 hb (fun f => f)

end Ex
end Go.Proofs.Ytpiajdahmcelnaa
namespace Go.Proofs.Ytpiajdahmcelnaa
open Go.RowKit
namespace Ex

set_option maxHeartbeats 400000 in
theorem down_any (a b : Int) (w : World) (hb : b ≠ 0) (ha : -1000000000000000000 ≤ a ∧ a ≤ 1000000000000000000) :
    Calls Try.prog 40 #[.int .i64 a, .int .i64 b] w fun e w' => e = .returned (.int .i64 (fl a b)) ∧ w = w' := by
  obtain ⟨q0, q1⟩ := tdiv_bd a b hb
  have q2 : -1000000000000000000 ≤ a.tdiv b := by omega
  have q3 : a.tdiv b ≤ 1000000000000000000 := by omega
  clear q0 q1
  obtain ⟨⟨r0, r1⟩, r2, r3⟩ := rest_bd hb ha
  have e := rest_is a b
  have hb' : (b == 0) = false := by simp [hb]
  by_cases h : a.tmod b = 0
  · have H := Lib.hid (fl_whole hb h).1
    have h' : (a - a.tdiv b * b != 0) = false := by rw [e]; simp [h]
    clear h e
    go_enter Try.func40, Try.ntmps40
    go_wp2_with fail
    go_ret
    exact ⟨by rw [H.out]; rfl, rfl⟩
  · have h' : (a - a.tdiv b * b != 0) = true := by rw [e]; simp [h]
    by_cases hs : (a.tmod b < 0) ↔ (b < 0)
    · have H := Lib.hid (fl_above hb h hs).1
      have h2 : (decide (a - a.tdiv b * b < 0) == decide (b < 0)) = true := by rw [e]; simp [hs]
      clear h hs e
      go_enter Try.func40, Try.ntmps40
      go_wp2_with fail
      go_ret
      exact ⟨by rw [H.out]; rfl, rfl⟩
    · have H := Lib.hid (fl_below hb h hs).1
      have h2 : (decide (a - a.tdiv b * b < 0) == decide (b < 0)) = false := by rw [e]; simp; exact hs
      clear h hs e
      go_enter Try.func40, Try.ntmps40
      go_wp2_with fail
      go_ret
      exact ⟨by rw [H.out]; rfl, rfl⟩

end Ex
end Go.Proofs.Ytpiajdahmcelnaa
