/-
  The reference implementation of layer 1: one contract each.
-/
import Derived.Test.YtibjemalggjcgaaExactRoot
namespace Go.Proofs.Ytibjemalggjcgaa
open Go.RowKit
namespace Ex

set_option maxHeartbeats 400000 in
theorem down_any (a b : Int) (w : World) (hb : b ≠ 0) (ha : -1000000000000000000 ≤ a ∧ a ≤ 1000000000000000000) :
    Calls Try.prog 23 #[.int .i64 a, .int .i64 b] w fun e w' => e = .returned (.int .i64 (fl a b)) ∧ w = w' := by
  obtain ⟨q0, q1⟩ := tdiv_bd a b hb
  have q2 : -1000000000000000000 ≤ a.tdiv b := by omega
  have q3 : a.tdiv b ≤ 1000000000000000000 := by omega
  clear q0 q1
  obtain ⟨⟨r0, r1⟩, r2, r3⟩ := rest_bd hb ha
  have e := rest_is a b
  have hb' : (b == 0) = false := by simp [hb]
  by_cases h : a.tmod b = 0
  · have H := Lib.hid (fl_whole hb h).1
    have h' : (a - a.tdiv b * b != 0) = false := by rw [e]; simp [h]
    clear h e
    go_enter Try.func23, Try.ntmps23
    go_wp2_with fail
    go_ret
    exact ⟨by rw [H.out]; rfl, rfl⟩
  · have h' : (a - a.tdiv b * b != 0) = true := by rw [e]; simp [h]
    by_cases hs : (a.tmod b < 0) ↔ (b < 0)
    · have H := Lib.hid (fl_above hb h hs).1
      have h2 : (decide (a - a.tdiv b * b < 0) == decide (b < 0)) = true := by rw [e]; simp [hs]
      clear h hs e
      go_enter Try.func23, Try.ntmps23
      go_wp2_with fail
      go_ret
      exact ⟨by rw [H.out]; rfl, rfl⟩
    · have H := Lib.hid (fl_below hb h hs).1
      have h2 : (decide (a - a.tdiv b * b < 0) == decide (b < 0)) = false := by rw [e]; simp; exact hs
      clear h hs e
      go_enter Try.func23, Try.ntmps23
      go_wp2_with fail
      go_ret
      exact ⟨by rw [H.out]; rfl, rfl⟩

theorem up_any (a b : Int) (w : World) (hb : b ≠ 0) (ha : -1000000000000000000 ≤ a ∧ a ≤ 1000000000000000000) :
    Calls Try.prog 24 #[.int .i64 a, .int .i64 b] w fun e w' => e = .returned (.int .i64 (ce a b)) ∧ w = w' := by
  have H : Hid (b ≠ 0) := Lib.hid hb
  obtain ⟨f0, f1⟩ := fl_bd (a := -a) (m := 1000000000000000000) hb (by omega)
  clear hb
  go_enter Try.func24, Try.ntmps24
  go_wp2_with fail
  refine (down_any _ _ _ H.out (by omega)).mono ?_
  rintro e w' ⟨rfl, rfl⟩
  go_wp2_with fail
  go_ret
  exact ⟨rfl, rfl⟩

theorem refFloor_ok (a b : Int) (w : World) (h : Dv a b) :
    Calls Try.prog 12 #[.int .i64 a, .int .i64 b] w fun e w' => e = .returned (.tuple #[.int .i64 (fl a b), .int .i64 0]) ∧ w = w' := by
  obtain ⟨⟨a0, a1⟩, ⟨b0, b1⟩, hb⟩ := h
  have hb' : (b == 0) = false := by simp [hb]
  have Hb := Lib.hid hb
  clear hb
  go_enter Try.func12, Try.ntmps12
  go_wp2_with fail
  refine (wide_yes _ a0 a1 _).mono ?_
  rintro e w' ⟨rfl, rfl⟩
  go_wp2_with fail
  refine (wide_yes _ b0 b1 _).mono ?_
  rintro e w' ⟨rfl, rfl⟩
  go_wp2_with fail
  refine (down_any _ _ _ Hb.out (by omega)).mono ?_
  rintro e w' ⟨rfl, rfl⟩
  go_wp2_with fail
  go_ret2
  exact ⟨rfl, rfl⟩
theorem refFloor_bad (a b : Int) (w : World) (h : ¬ Dv a b) :
    Calls Try.prog 12 #[.int .i64 a, .int .i64 b] w fun e w' => e = .returned (.tuple #[.int .i64 0, .int .i64 1]) ∧ w = w' := by
  by_cases ha : -1000000000000 ≤ a ∧ a ≤ 1000000000000
  · by_cases h0 : b = 0
    · subst h0
      obtain ⟨a0, a1⟩ := ha
      clear h
      go_enter Try.func12, Try.ntmps12
      go_wp2_with fail
      refine (wide_yes _ a0 a1 _).mono ?_
      rintro e w' ⟨rfl, rfl⟩
      go_wp2_with fail
      go_ret2
      exact ⟨rfl, rfl⟩
    · have H : Hid (b < -1000000000000 ∨ 1000000000000 < b) := Lib.hid (by
        by_cases hb : -1000000000000 ≤ b ∧ b ≤ 1000000000000
        · exact absurd ⟨ha, hb, h0⟩ h
        · omega)
      have hb' : (b == 0) = false := by simp [h0]
      obtain ⟨a0, a1⟩ := ha
      clear h h0
      go_enter Try.func12, Try.ntmps12
      go_wp2_with fail
      refine (wide_yes _ a0 a1 _).mono ?_
      rintro e w' ⟨rfl, rfl⟩
      go_wp2_with fail
      refine (wide_no _ H.out _).mono ?_
      rintro e w' ⟨rfl, rfl⟩
      go_wp2_with fail
      go_ret2
      exact ⟨rfl, rfl⟩
  · have H : Hid (a < -1000000000000 ∨ 1000000000000 < a) := Lib.hid (by omega)
    clear h ha
    go_enter Try.func12, Try.ntmps12
    go_wp2_with fail
    refine (wide_no _ H.out _).mono ?_
    rintro e w' ⟨rfl, rfl⟩
    go_wp2_with fail
    go_ret2
    exact ⟨rfl, rfl⟩

theorem refCeil_ok (a b : Int) (w : World) (h : Dv a b) :
    Calls Try.prog 14 #[.int .i64 a, .int .i64 b] w fun e w' => e = .returned (.tuple #[.int .i64 (ce a b), .int .i64 0]) ∧ w = w' := by
  obtain ⟨⟨a0, a1⟩, ⟨b0, b1⟩, hb⟩ := h
  have hb' : (b == 0) = false := by simp [hb]
  have Hb := Lib.hid hb
  clear hb
  go_enter Try.func14, Try.ntmps14
  go_wp2_with fail
  refine (wide_yes _ a0 a1 _).mono ?_
  rintro e w' ⟨rfl, rfl⟩
  go_wp2_with fail
  refine (wide_yes _ b0 b1 _).mono ?_
  rintro e w' ⟨rfl, rfl⟩
  go_wp2_with fail
  refine (up_any _ _ _ Hb.out (by omega)).mono ?_
  rintro e w' ⟨rfl, rfl⟩
  go_wp2_with fail
  go_ret2
  exact ⟨rfl, rfl⟩
theorem refCeil_bad (a b : Int) (w : World) (h : ¬ Dv a b) :
    Calls Try.prog 14 #[.int .i64 a, .int .i64 b] w fun e w' => e = .returned (.tuple #[.int .i64 0, .int .i64 1]) ∧ w = w' := by
  by_cases ha : -1000000000000 ≤ a ∧ a ≤ 1000000000000
  · by_cases h0 : b = 0
    · subst h0
      obtain ⟨a0, a1⟩ := ha
      clear h
      go_enter Try.func14, Try.ntmps14
      go_wp2_with fail
      refine (wide_yes _ a0 a1 _).mono ?_
      rintro e w' ⟨rfl, rfl⟩
      go_wp2_with fail
      go_ret2
      exact ⟨rfl, rfl⟩
    · have H : Hid (b < -1000000000000 ∨ 1000000000000 < b) := Lib.hid (by
        by_cases hb : -1000000000000 ≤ b ∧ b ≤ 1000000000000
        · exact absurd ⟨ha, hb, h0⟩ h
        · omega)
      have hb' : (b == 0) = false := by simp [h0]
      obtain ⟨a0, a1⟩ := ha
      clear h h0
      go_enter Try.func14, Try.ntmps14
      go_wp2_with fail
      refine (wide_yes _ a0 a1 _).mono ?_
      rintro e w' ⟨rfl, rfl⟩
      go_wp2_with fail
      refine (wide_no _ H.out _).mono ?_
      rintro e w' ⟨rfl, rfl⟩
      go_wp2_with fail
      go_ret2
      exact ⟨rfl, rfl⟩
  · have H : Hid (a < -1000000000000 ∨ 1000000000000 < a) := Lib.hid (by omega)
    clear h ha
    go_enter Try.func14, Try.ntmps14
    go_wp2_with fail
    refine (wide_no _ H.out _).mono ?_
    rintro e w' ⟨rfl, rfl⟩
    go_wp2_with fail
    go_ret2
    exact ⟨rfl, rfl⟩

theorem refScale_ok (n a b : Int) (w : World) (h : Sc n a b) (h1 : Sp (fl (n * a) b)) (h2 : Sp (ce (n * a) b)) :
    Calls Try.prog 16 #[.int .i64 n, .int .i64 a, .int .i64 b] w fun e w' => e = .returned (.tuple #[.int .i64 (fl (n * a) b), .int .i64 (ce (n * a) b), .int .i64 0]) ∧ w = w' := by
  obtain ⟨⟨n0, n1⟩, ⟨a0, a1⟩, ⟨b0, b1⟩⟩ := h
  obtain ⟨m0, m1⟩ := mul_bd ⟨n0, n1⟩ ⟨a0, a1⟩
  have Hb : Hid (b ≠ 0) := Lib.hid (by omega)
  have H1 : Hid (-1000000000000 ≤ fl (n * a) b ∧ fl (n * a) b ≤ 1000000000000) := Lib.hid h1
  have H2 : Hid (-1000000000000 ≤ ce (n * a) b ∧ ce (n * a) b ≤ 1000000000000) := Lib.hid h2
  clear h1 h2
  go_enter Try.func16, Try.ntmps16
  go_wp2_with fail
  refine (wide_yes _ n0 n1 _).mono ?_
  rintro e w' ⟨rfl, rfl⟩
  go_wp2_with fail
  refine (refIn_yes _ _ _ a0 a1 _).mono ?_
  rintro e w' ⟨rfl, rfl⟩
  go_wp2_with fail
  refine (refIn_yes _ _ _ b0 b1 _).mono ?_
  rintro e w' ⟨rfl, rfl⟩
  go_wp2_with fail
  refine (down_any _ _ _ Hb.out ⟨m0, m1⟩).mono ?_
  rintro e w' ⟨rfl, rfl⟩
  go_wp2_with fail
  refine (up_any _ _ _ Hb.out ⟨m0, m1⟩).mono ?_
  rintro e w' ⟨rfl, rfl⟩
  go_wp2_with fail
  refine (wide_yes _ H1.out.1 H1.out.2 _).mono ?_
  rintro e w' ⟨rfl, rfl⟩
  go_wp2_with fail
  refine (wide_yes _ H2.out.1 H2.out.2 _).mono ?_
  rintro e w' ⟨rfl, rfl⟩
  go_wp2_with fail
  go_ret3
  exact ⟨rfl, rfl⟩
theorem refScale_range (n a b : Int) (w : World) (h : Sc n a b) (hr : ¬ (Sp (fl (n * a) b) ∧ Sp (ce (n * a) b))) :
    Calls Try.prog 16 #[.int .i64 n, .int .i64 a, .int .i64 b] w fun e w' => e = .returned (.tuple #[.int .i64 0, .int .i64 0, .int .i64 3]) ∧ w = w' := by
  obtain ⟨⟨n0, n1⟩, ⟨a0, a1⟩, ⟨b0, b1⟩⟩ := h
  obtain ⟨m0, m1⟩ := mul_bd ⟨n0, n1⟩ ⟨a0, a1⟩
  have Hb : Hid (b ≠ 0) := Lib.hid (by omega)
  by_cases h1 : -1000000000000 ≤ fl (n * a) b ∧ fl (n * a) b ≤ 1000000000000
  · have H1 := Lib.hid h1
    have H2 : Hid (ce (n * a) b < -1000000000000 ∨ 1000000000000 < ce (n * a) b) := Lib.hid (by
      by_cases h2 : -1000000000000 ≤ ce (n * a) b ∧ ce (n * a) b ≤ 1000000000000
      · exact absurd ⟨h1, h2⟩ hr
      · omega)
    clear h1 hr
    go_enter Try.func16, Try.ntmps16
    go_wp2_with fail
    refine (wide_yes _ n0 n1 _).mono ?_
    rintro e w' ⟨rfl, rfl⟩
    go_wp2_with fail
    refine (refIn_yes _ _ _ a0 a1 _).mono ?_
    rintro e w' ⟨rfl, rfl⟩
    go_wp2_with fail
    refine (refIn_yes _ _ _ b0 b1 _).mono ?_
    rintro e w' ⟨rfl, rfl⟩
    go_wp2_with fail
    refine (down_any _ _ _ Hb.out ⟨m0, m1⟩).mono ?_
    rintro e w' ⟨rfl, rfl⟩
    go_wp2_with fail
    refine (up_any _ _ _ Hb.out ⟨m0, m1⟩).mono ?_
    rintro e w' ⟨rfl, rfl⟩
    go_wp2_with fail
    refine (wide_yes _ H1.out.1 H1.out.2 _).mono ?_
    rintro e w' ⟨rfl, rfl⟩
    go_wp2_with fail
    refine (wide_no _ H2.out _).mono ?_
    rintro e w' ⟨rfl, rfl⟩
    go_wp2_with fail
    go_ret3
    exact ⟨rfl, rfl⟩
  · have H1 : Hid (fl (n * a) b < -1000000000000 ∨ 1000000000000 < fl (n * a) b) := Lib.hid (by omega)
    clear h1 hr
    go_enter Try.func16, Try.ntmps16
    go_wp2_with fail
    refine (wide_yes _ n0 n1 _).mono ?_
    rintro e w' ⟨rfl, rfl⟩
    go_wp2_with fail
    refine (refIn_yes _ _ _ a0 a1 _).mono ?_
    rintro e w' ⟨rfl, rfl⟩
    go_wp2_with fail
    refine (refIn_yes _ _ _ b0 b1 _).mono ?_
    rintro e w' ⟨rfl, rfl⟩
    go_wp2_with fail
    refine (down_any _ _ _ Hb.out ⟨m0, m1⟩).mono ?_
    rintro e w' ⟨rfl, rfl⟩
    go_wp2_with fail
    refine (up_any _ _ _ Hb.out ⟨m0, m1⟩).mono ?_
    rintro e w' ⟨rfl, rfl⟩
    go_wp2_with fail
    refine (wide_no _ H1.out _).mono ?_
    rintro e w' ⟨rfl, rfl⟩
    go_wp2_with fail
    go_ret3
    exact ⟨rfl, rfl⟩
theorem refScale_bad (n a b : Int) (w : World) (h : ¬ Sc n a b) :
    Calls Try.prog 16 #[.int .i64 n, .int .i64 a, .int .i64 b] w fun e w' => e = .returned (.tuple #[.int .i64 0, .int .i64 0, .int .i64 1]) ∧ w = w' := by
  by_cases hn : -1000000000000 ≤ n ∧ n ≤ 1000000000000
  · by_cases ha : 0 ≤ a ∧ a ≤ 1000000
    · have H : Hid (b < 1 ∨ 1000000 < b) := Lib.hid (by
        by_cases hb : 1 ≤ b ∧ b ≤ 1000000
        · exact absurd ⟨hn, ha, hb⟩ h
        · omega)
      obtain ⟨n0, n1⟩ := hn
      obtain ⟨a0, a1⟩ := ha
      clear h
      go_enter Try.func16, Try.ntmps16
      go_wp2_with fail
      refine (wide_yes _ n0 n1 _).mono ?_
      rintro e w' ⟨rfl, rfl⟩
      go_wp2_with fail
      refine (refIn_yes _ _ _ a0 a1 _).mono ?_
      rintro e w' ⟨rfl, rfl⟩
      go_wp2_with fail
      refine (refIn_no _ _ _ H.out _).mono ?_
      rintro e w' ⟨rfl, rfl⟩
      go_wp2_with fail
      go_ret3
      exact ⟨rfl, rfl⟩
    · have H : Hid (a < 0 ∨ 1000000 < a) := Lib.hid (by omega)
      obtain ⟨n0, n1⟩ := hn
      clear h ha
      go_enter Try.func16, Try.ntmps16
      go_wp2_with fail
      refine (wide_yes _ n0 n1 _).mono ?_
      rintro e w' ⟨rfl, rfl⟩
      go_wp2_with fail
      refine (refIn_no _ _ _ H.out _).mono ?_
      rintro e w' ⟨rfl, rfl⟩
      go_wp2_with fail
      go_ret3
      exact ⟨rfl, rfl⟩
  · have H : Hid (n < -1000000000000 ∨ 1000000000000 < n) := Lib.hid (by omega)
    clear h hn
    go_enter Try.func16, Try.ntmps16
    go_wp2_with fail
    refine (wide_no _ H.out _).mono ?_
    rintro e w' ⟨rfl, rfl⟩
    go_wp2_with fail
    go_ret3
    exact ⟨rfl, rfl⟩

set_option maxHeartbeats 400000 in
theorem root0_any (n : Int) (w : World) (h0 : 0 ≤ n) (h1 : n ≤ 1000000000000000000) :
    Calls Try.prog 30 #[.int .i64 n] w fun e w' => e = .returned (.int .i64 (isq n)) ∧ w = w' := by
  go_enter Try.func30, Try.ntmps30
  go_wp2
  go_loop [3, 4] (fun l h => ∃ x y : Int, 0 ≤ x ∧ x < y ∧ y ≤ 1000000001 ∧ x * x ≤ n ∧ n < y * y ∧ l = .int .i64 x ∧ h = .int .i64 y) (fun l h => (intOf h - intOf l).toNat)
  case atStart => exact ⟨0, 1000000001, by omega, by omega, by omega, by omega, by omega, rfl, rfl⟩
  case round =>
    obtain ⟨x, y, hx, hxy, hy, hxn, hny, rfl, rfl⟩ := hrel
    by_cases hlt : 1 < y - x
    · obtain ⟨p0, p1⟩ := sq_bd (r := (x + y) / 2) (by omega) (by omega)
      by_cases ht : (x + y) / 2 * ((x + y) / 2) ≤ n
      · go_wp2
        go_round
        case rel => exact ⟨(x + y) / 2, y, by omega, by omega, hy, ht, hny, rfl, rfl⟩
        case measure => simp [intOf]; omega
      · have ht' : decide ((x + y) / 2 * ((x + y) / 2) ≤ n) = false := by simpa using ht
        have Ht := Lib.hid ht
        clear ht
        go_wp2
        go_round
        case rel => exact ⟨x, (x + y) / 2, hx, by omega, by omega, hxn, by have := Ht.out; omega, rfl, rfl⟩
        case measure => simp [intOf]; omega
    · have H : Hid (isq n = x) := Lib.hid (isq_is hx hxn (by rw [show x + 1 = y by omega]; exact hny))
      go_wp2
      go_ret
      exact ⟨by rw [H.out]; rfl, rfl⟩
theorem refRoot_ok (n : Int) (w : World) (h0 : 0 ≤ n) (h1 : n ≤ 1000000000000000000) :
    Calls Try.prog 18 #[.int .i64 n] w fun e w' => e = .returned (.tuple #[.int .i64 (isq n), .int .i64 0]) ∧ w = w' := by
  go_enter Try.func18, Try.ntmps18
  go_wp2_with fail
  refine (refIn_yes _ _ _ h0 h1 _).mono ?_
  rintro e w' ⟨rfl, rfl⟩
  go_wp2_with fail
  refine (root0_any _ _ h0 h1).mono ?_
  rintro e w' ⟨rfl, rfl⟩
  go_wp2_with fail
  go_ret2
  exact ⟨rfl, rfl⟩
theorem refRoot_bad (n : Int) (w : World) (h : n < 0 ∨ 1000000000000000000 < n) :
    Calls Try.prog 18 #[.int .i64 n] w fun e w' => e = .returned (.tuple #[.int .i64 0, .int .i64 1]) ∧ w = w' := by
  have H := Lib.hid h
  clear h
  go_enter Try.func18, Try.ntmps18
  go_wp2_with fail
  refine (refIn_no _ _ _ H.out _).mono ?_
  rintro e w' ⟨rfl, rfl⟩
  go_wp2_with fail
  go_ret2
  exact ⟨rfl, rfl⟩
end Ex
end Go.Proofs.Ytibjemalggjcgaa
