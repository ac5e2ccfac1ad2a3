/-
  The functions of package exact, one contract each: what each returns, in a world that has at most new blocks.
-/
import Derived.Test.YtibjemalggjcgaaRows
import Derived.Test.YtibjemalggjcgaaExactPlain
import Derived.WalkKit
import Derived.WalkSpells
import Derived.WalkLawsBesides
import Derived.RowKit3
import Derived.Lib.Hide
import Derived.Deep.QuietTactic
import Derived.BigQuiet
namespace Go.Proofs.Ytibjemalggjcgaa
open Go.RowKit
namespace Ex

/-! ### Worlds -/
theorem Grown.trans {a b c : World} (h : Grown a b) (k : Grown b c) : Grown a c := by
  refine ⟨?_, fun x => (k.2.1 x).trans (h.2.1 x), Nat.le_trans h.2.2 k.2.2⟩
  exact World.keptBut_trans h.1 (World.keptBut_mono (fun _ f => f.elim) k.1)

/-! ### Small tests -/
theorem isFrom_yes (n lo hi : Int) (h0 : lo ≤ n) (h1 : n ≤ hi) (w : World) :
    Calls Try.prog 26 #[.int .i64 n, .int .i64 lo, .int .i64 hi] w fun e w' => e = .returned (.bool true) ∧ w = w' := by
  go_enter Try.func26, Try.ntmps26
  go_wp2
  go_ret
  exact ⟨rfl, rfl⟩
theorem isFrom_no (n lo hi : Int) (h : n < lo ∨ hi < n) (w : World) :
    Calls Try.prog 26 #[.int .i64 n, .int .i64 lo, .int .i64 hi] w fun e w' => e = .returned (.bool false) ∧ w = w' := by
  by_cases h0 : n < lo
  · go_enter Try.func26, Try.ntmps26
    go_wp2
    go_ret
    exact ⟨rfl, rfl⟩
  · have h1 : hi < n := by omega
    go_enter Try.func26, Try.ntmps26
    go_wp2
    go_ret
    exact ⟨by simp; omega, rfl⟩
theorem refIn_yes (n lo hi : Int) (h0 : lo ≤ n) (h1 : n ≤ hi) (w : World) :
    Calls Try.prog 19 #[.int .i64 n, .int .i64 lo, .int .i64 hi] w fun e w' => e = .returned (.bool true) ∧ w = w' := by
  go_enter Try.func19, Try.ntmps19
  go_wp2
  go_ret
  exact ⟨rfl, rfl⟩
theorem refIn_no (n lo hi : Int) (h : n < lo ∨ hi < n) (w : World) :
    Calls Try.prog 19 #[.int .i64 n, .int .i64 lo, .int .i64 hi] w fun e w' => e = .returned (.bool false) ∧ w = w' := by
  by_cases h0 : n < lo
  · go_enter Try.func19, Try.ntmps19
    go_wp2
    go_ret
    exact ⟨rfl, rfl⟩
  · have h1 : hi < n := by omega
    go_enter Try.func19, Try.ntmps19
    go_wp2
    go_ret
    exact ⟨by simp; omega, rfl⟩
theorem isSpanned_yes (n : Int) (h0 : -1000000000000 ≤ n) (h1 : n ≤ 1000000000000) (w : World) :
    Calls Try.prog 25 #[.int .i64 n] w fun e w' => e = .returned (.bool true) ∧ w = w' := by
  go_enter Try.func25, Try.ntmps25
  go_wp2_with fail
  refine (isFrom_yes _ _ _ (by omega) (by omega) _).mono ?_
  rintro e w' ⟨rfl, rfl⟩
  go_wp2_with fail
  go_ret
  exact ⟨rfl, rfl⟩
theorem isSpanned_no (n : Int) (h : n < -1000000000000 ∨ 1000000000000 < n) (w : World) :
    Calls Try.prog 25 #[.int .i64 n] w fun e w' => e = .returned (.bool false) ∧ w = w' := by
  have H := Lib.hid h
  clear h
  go_enter Try.func25, Try.ntmps25
  go_wp2_with fail
  refine (isFrom_no _ _ _ H.out _).mono ?_
  rintro e w' ⟨rfl, rfl⟩
  go_wp2_with fail
  go_ret
  exact ⟨rfl, rfl⟩
theorem wide_yes (n : Int) (h0 : -1000000000000 ≤ n) (h1 : n ≤ 1000000000000) (w : World) :
    Calls Try.prog 22 #[.int .i64 n] w fun e w' => e = .returned (.bool true) ∧ w = w' := by
  go_enter Try.func22, Try.ntmps22
  go_wp2_with fail
  refine (refIn_yes _ _ _ (by omega) (by omega) _).mono ?_
  rintro e w' ⟨rfl, rfl⟩
  go_wp2_with fail
  go_ret
  exact ⟨rfl, rfl⟩
theorem wide_no (n : Int) (h : n < -1000000000000 ∨ 1000000000000 < n) (w : World) :
    Calls Try.prog 22 #[.int .i64 n] w fun e w' => e = .returned (.bool false) ∧ w = w' := by
  have H := Lib.hid h
  clear h
  go_enter Try.func22, Try.ntmps22
  go_wp2_with fail
  refine (refIn_no _ _ _ H.out _).mono ?_
  rintro e w' ⟨rfl, rfl⟩
  go_wp2_with fail
  go_ret
  exact ⟨rfl, rfl⟩

theorem toward_any (way : Int) (w : World) :
    Calls Try.prog 21 #[.int .i64 way] w fun e w' => e = .returned (.func (.func 31) #[] #[.pointer (some ⟨w.heap.size, 0, none⟩)]) ∧ w.alloc (.cells #[.int .i64 way] 3) = w' := by
  have hmf : ∀ (fn : Fn) (first cap : Array Value) (w : World), (Instr.makeFunc fn first cap).run Try.prog w = .ok (.func fn first cap) w := fun _ _ _ _ => rfl
  go_enter Try.func21, Try.ntmps21
  go_wp2
  go_ret
  exact ⟨rfl, rfl⟩

/-- The step that rounds down: it is called with 'above'. -/
theorem stepDown (p : Addr) (above : Bool) (w : World) (hc : w.cell? p = some (.int .i64 (-1))) :
    Calls Try.prog 31 #[.bool above, .pointer (some p)] w fun e w' => e = .returned (.int .i64 (if above then 0 else -1)) ∧ w = w' := by
  cases above
  · go_enter Try.func31, Try.ntmps31
    go_wp2
    go_ret
    exact ⟨rfl, rfl⟩
  · go_enter Try.func31, Try.ntmps31
    go_wp2
    go_ret
    exact ⟨rfl, rfl⟩
theorem stepUp (p : Addr) (above : Bool) (w : World) (hc : w.cell? p = some (.int .i64 1)) :
    Calls Try.prog 31 #[.bool above, .pointer (some p)] w fun e w' => e = .returned (.int .i64 (if above then 1 else 0)) ∧ w = w' := by
  cases above
  · go_enter Try.func31, Try.ntmps31
    go_wp2
    go_ret
    exact ⟨rfl, rfl⟩
  · go_enter Try.func31, Try.ntmps31
    go_wp2
    go_ret
    exact ⟨rfl, rfl⟩

set_option maxHeartbeats 400000 in
theorem quotDown (a b : Int) (p : Addr) (w : World) (hc : w.cell? p = some (.int .i64 (-1))) (hb : b ≠ 0) (ha : -1000000000000000000 ≤ a ∧ a ≤ 1000000000000000000) :
    Calls Try.prog 27 #[.int .i64 a, .int .i64 b, .func (.func 31) #[] #[.pointer (some p)]] w fun e w' => e = .returned (.int .i64 (fl a b)) ∧ ∃ n, w.drewN n = w' := by
  obtain ⟨q0, q1⟩ := tdiv_bd a b hb
  have q2 : -1000000000000000000 ≤ a.tdiv b := by omega
  have q3 : a.tdiv b ≤ 1000000000000000000 := by omega
  clear q0 q1
  by_cases h : a.tmod b = 0
  · have H := Lib.hid (fl_whole hb h).1
    have h' : (a.tmod b == 0) = true := by simp [h]
    clear h
    go_enter Try.func27, Try.ntmps27
    go_wp2
    go_quiet (fail)
    go_wp2_with fail
    go_ret
    exact ⟨by rw [H.out]; rfl, _, rfl⟩
  · have h' : (a.tmod b == 0) = false := by simp [h]
    by_cases hs : (a.tmod b < 0) ↔ (b < 0)
    · have H := Lib.hid (fl_above hb h hs).1
      have h2 : (decide (a.tmod b < 0) == decide (b < 0)) = true := by simp [hs]
      clear h hs
      go_enter Try.func27, Try.ntmps27
      go_wp2
      go_quiet (fail)
      go_wp2_with fail
      refine (stepDown p _ _ (by simpa using hc)).mono ?_
      rintro e w' ⟨rfl, rfl⟩
      go_wp2_with fail
      go_ret
      exact ⟨by rw [H.out]; rfl, _, rfl⟩
    · have H := Lib.hid (fl_below hb h hs).1
      have h2 : (decide (a.tmod b < 0) == decide (b < 0)) = false := by simp; exact hs
      clear h hs
      go_enter Try.func27, Try.ntmps27
      go_wp2
      go_quiet (fail)
      go_wp2_with fail
      refine (stepDown p _ _ (by simpa using hc)).mono ?_
      rintro e w' ⟨rfl, rfl⟩
      go_wp2_with fail
      go_ret
      exact ⟨by rw [H.out]; rfl, _, rfl⟩
set_option maxHeartbeats 400000 in
theorem quotUp (a b : Int) (p : Addr) (w : World) (hc : w.cell? p = some (.int .i64 1)) (hb : b ≠ 0) (ha : -1000000000000000000 ≤ a ∧ a ≤ 1000000000000000000) :
    Calls Try.prog 27 #[.int .i64 a, .int .i64 b, .func (.func 31) #[] #[.pointer (some p)]] w fun e w' => e = .returned (.int .i64 (ce a b)) ∧ ∃ n, w.drewN n = w' := by
  obtain ⟨q0, q1⟩ := tdiv_bd a b hb
  have q2 : -1000000000000000000 ≤ a.tdiv b := by omega
  have q3 : a.tdiv b ≤ 1000000000000000000 := by omega
  clear q0 q1
  by_cases h : a.tmod b = 0
  · have H := Lib.hid (fl_whole hb h).2
    have h' : (a.tmod b == 0) = true := by simp [h]
    clear h
    go_enter Try.func27, Try.ntmps27
    go_wp2
    go_quiet (fail)
    go_wp2_with fail
    go_ret
    exact ⟨by rw [H.out]; rfl, _, rfl⟩
  · have h' : (a.tmod b == 0) = false := by simp [h]
    by_cases hs : (a.tmod b < 0) ↔ (b < 0)
    · have H := Lib.hid (fl_above hb h hs).2
      have h2 : (decide (a.tmod b < 0) == decide (b < 0)) = true := by simp [hs]
      clear h hs
      go_enter Try.func27, Try.ntmps27
      go_wp2
      go_quiet (fail)
      go_wp2_with fail
      refine (stepUp p _ _ (by simpa using hc)).mono ?_
      rintro e w' ⟨rfl, rfl⟩
      go_wp2_with fail
      go_ret
      exact ⟨by rw [H.out]; rfl, _, rfl⟩
    · have H := Lib.hid (fl_below hb h hs).2
      have h2 : (decide (a.tmod b < 0) == decide (b < 0)) = false := by simp; exact hs
      clear h hs
      go_enter Try.func27, Try.ntmps27
      go_wp2
      go_quiet (fail)
      go_wp2_with fail
      refine (stepUp p _ _ (by simpa using hc)).mono ?_
      rintro e w' ⟨rfl, rfl⟩
      go_wp2_with fail
      go_ret
      exact ⟨by rw [H.out]; rfl, _, rfl⟩

/-! ### Floor and Ceil -/
/-- What Floor and Ceil take. -/
def Dv (a b : Int) : Prop := (-1000000000000 ≤ a ∧ a ≤ 1000000000000) ∧ (-1000000000000 ≤ b ∧ b ≤ 1000000000000) ∧ b ≠ 0
theorem divDown_ok (a b : Int) (p : Addr) (w : World) (hc : w.cell? p = some (.int .i64 (-1))) (h : Dv a b) :
    Calls Try.prog 20 #[.int .i64 a, .int .i64 b, .func (.func 31) #[] #[.pointer (some p)]] w fun e w' => e = .returned (.tuple #[.int .i64 (fl a b), .int .i64 0]) ∧ ∃ n, w.drewN n = w' := by
  obtain ⟨⟨a0, a1⟩, ⟨b0, b1⟩, hb⟩ := h
  have hb' : (b == 0) = false := by simp [hb]
  have Hb := Lib.hid hb
  clear hb
  go_enter Try.func20, Try.ntmps20
  go_wp2_with fail
  refine (isSpanned_yes _ a0 a1 _).mono ?_
  rintro e w' ⟨rfl, rfl⟩
  go_wp2_with fail
  refine (isSpanned_yes _ b0 b1 _).mono ?_
  rintro e w' ⟨rfl, rfl⟩
  go_wp2_with fail
  refine (quotDown _ _ _ _ hc Hb.out (by omega)).mono ?_
  rintro e w' ⟨rfl, n, rfl⟩
  go_wp2_with fail
  go_ret2
  exact ⟨rfl, n, rfl⟩
theorem divUp_ok (a b : Int) (p : Addr) (w : World) (hc : w.cell? p = some (.int .i64 1)) (h : Dv a b) :
    Calls Try.prog 20 #[.int .i64 a, .int .i64 b, .func (.func 31) #[] #[.pointer (some p)]] w fun e w' => e = .returned (.tuple #[.int .i64 (ce a b), .int .i64 0]) ∧ ∃ n, w.drewN n = w' := by
  obtain ⟨⟨a0, a1⟩, ⟨b0, b1⟩, hb⟩ := h
  have hb' : (b == 0) = false := by simp [hb]
  have Hb := Lib.hid hb
  clear hb
  go_enter Try.func20, Try.ntmps20
  go_wp2_with fail
  refine (isSpanned_yes _ a0 a1 _).mono ?_
  rintro e w' ⟨rfl, rfl⟩
  go_wp2_with fail
  refine (isSpanned_yes _ b0 b1 _).mono ?_
  rintro e w' ⟨rfl, rfl⟩
  go_wp2_with fail
  refine (quotUp _ _ _ _ hc Hb.out (by omega)).mono ?_
  rintro e w' ⟨rfl, n, rfl⟩
  go_wp2_with fail
  go_ret2
  exact ⟨rfl, n, rfl⟩
theorem div_bad (a b : Int) (f : Value) (w : World) (h : ¬ Dv a b) :
    Calls Try.prog 20 #[.int .i64 a, .int .i64 b, f] w fun e w' => e = .returned (.tuple #[.int .i64 0, .int .i64 1]) ∧ w = w' := by
  by_cases ha : -1000000000000 ≤ a ∧ a ≤ 1000000000000
  · by_cases hb : -1000000000000 ≤ b ∧ b ≤ 1000000000000
    · obtain rfl : b = 0 := by
        by_cases h0 : b = 0
        · exact h0
        · exact absurd ⟨ha, hb, h0⟩ h
      obtain ⟨a0, a1⟩ := ha
      clear h hb
      go_enter Try.func20, Try.ntmps20
      go_wp2_with fail
      refine (isSpanned_yes _ a0 a1 _).mono ?_
      rintro e w' ⟨rfl, rfl⟩
      go_wp2_with fail
      refine (isSpanned_yes 0 (by omega) (by omega) _).mono ?_
      rintro e w' ⟨rfl, rfl⟩
      go_wp2_with fail
      go_ret2
      exact ⟨rfl, rfl⟩
    · obtain ⟨a0, a1⟩ := ha
      have H : Hid (b < -1000000000000 ∨ 1000000000000 < b) := Lib.hid (by omega)
      clear h hb
      go_enter Try.func20, Try.ntmps20
      go_wp2_with fail
      refine (isSpanned_yes _ a0 a1 _).mono ?_
      rintro e w' ⟨rfl, rfl⟩
      go_wp2_with fail
      refine (isSpanned_no _ H.out _).mono ?_
      rintro e w' ⟨rfl, rfl⟩
      go_wp2_with fail
      go_ret2
      exact ⟨rfl, rfl⟩
  · have H : Hid (a < -1000000000000 ∨ 1000000000000 < a) := Lib.hid (by omega)
    clear h ha
    go_enter Try.func20, Try.ntmps20
    go_wp2_with fail
    refine (isSpanned_no _ H.out _).mono ?_
    rintro e w' ⟨rfl, rfl⟩
    go_wp2_with fail
    go_ret2
    exact ⟨rfl, rfl⟩
theorem Grown.drewN {W w : World} (h : Grown W w) (n : Nat) : Grown W (w.drewN n) := h
theorem floor_ok (a b : Int) (w : World) (h : Dv a b) :
    Calls Try.prog 11 #[.int .i64 a, .int .i64 b] w fun e w' => e = .returned (.tuple #[.int .i64 (fl a b), .int .i64 0]) ∧ Grown w w' := by
  have H := Lib.hid h
  clear h
  go_enter Try.func11, Try.ntmps11
  go_wp2_with fail
  refine (toward_any _ _).mono ?_
  rintro e w' ⟨rfl, rfl⟩
  go_wp2_with fail
  refine (divDown_ok _ _ _ _ (by simp [go_sem]) H.out).mono ?_
  rintro e w' ⟨rfl, n, rfl⟩
  go_wp2_with fail
  go_ret2
  exact ⟨rfl, Grown.drewN ((Grown.refl _).alloc _ _) n⟩
theorem floor_bad (a b : Int) (w : World) (h : ¬ Dv a b) :
    Calls Try.prog 11 #[.int .i64 a, .int .i64 b] w fun e w' => e = .returned (.tuple #[.int .i64 0, .int .i64 1]) ∧ Grown w w' := by
  have H := Lib.hid h
  clear h
  go_enter Try.func11, Try.ntmps11
  go_wp2_with fail
  refine (toward_any _ _).mono ?_
  rintro e w' ⟨rfl, rfl⟩
  go_wp2_with fail
  refine (div_bad _ _ _ _ H.out).mono ?_
  rintro e w' ⟨rfl, rfl⟩
  go_wp2_with fail
  go_ret2
  exact ⟨rfl, (Grown.refl _).alloc _ _⟩
theorem ceil_ok (a b : Int) (w : World) (h : Dv a b) :
    Calls Try.prog 13 #[.int .i64 a, .int .i64 b] w fun e w' => e = .returned (.tuple #[.int .i64 (ce a b), .int .i64 0]) ∧ Grown w w' := by
  have H := Lib.hid h
  clear h
  go_enter Try.func13, Try.ntmps13
  go_wp2_with fail
  refine (toward_any _ _).mono ?_
  rintro e w' ⟨rfl, rfl⟩
  go_wp2_with fail
  refine (divUp_ok _ _ _ _ (by simp [go_sem]) H.out).mono ?_
  rintro e w' ⟨rfl, n, rfl⟩
  go_wp2_with fail
  go_ret2
  exact ⟨rfl, Grown.drewN ((Grown.refl _).alloc _ _) n⟩
theorem ceil_bad (a b : Int) (w : World) (h : ¬ Dv a b) :
    Calls Try.prog 13 #[.int .i64 a, .int .i64 b] w fun e w' => e = .returned (.tuple #[.int .i64 0, .int .i64 1]) ∧ Grown w w' := by
  have H := Lib.hid h
  clear h
  go_enter Try.func13, Try.ntmps13
  go_wp2_with fail
  refine (toward_any _ _).mono ?_
  rintro e w' ⟨rfl, rfl⟩
  go_wp2_with fail
  refine (div_bad _ _ _ _ H.out).mono ?_
  rintro e w' ⟨rfl, rfl⟩
  go_wp2_with fail
  go_ret2
  exact ⟨rfl, (Grown.refl _).alloc _ _⟩
end Ex
end Go.Proofs.Ytibjemalggjcgaa
