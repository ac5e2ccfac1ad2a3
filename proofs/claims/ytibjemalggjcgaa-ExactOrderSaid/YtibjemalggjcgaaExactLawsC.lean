/-
  The walks of the laws of layer 1 that speak of Scale: each returns true.
-/
import Derived.Test.YtibjemalggjcgaaExactFacts
namespace Go.Proofs.Ytibjemalggjcgaa
open Go.RowKit
namespace Ex

theorem scale_sum (n a b : Int) : ∃ x y v : Int, (∀ w, Calls Try.prog 15 #[.int .i64 n, .int .i64 a, .int .i64 b] w fun e w' => e = .returned (.tuple #[.int .i64 x, .int .i64 y, .int .i64 v]) ∧ Grown w w') ∧ ((v = 0 ∧ Sc n a b ∧ x = fl (n * a) b ∧ y = ce (n * a) b ∧ Sp x ∧ Sp y) ∨ (v = 1 ∧ ¬ Sc n a b) ∨ (v = 3 ∧ Sc n a b)) := by
  by_cases h : Sc n a b
  · by_cases hi : In n a b
    · exact ⟨_, _, _, (scale_ok n a b · h hi.1 hi.2), Or.inl ⟨rfl, h, rfl, rfl, hi.1, hi.2⟩⟩
    · exact ⟨_, _, _, (scale_range n a b · h hi), Or.inr (Or.inr ⟨rfl, h⟩)⟩
  · exact ⟨_, _, _, (scale_bad n a b · h), Or.inr (Or.inl ⟨rfl, h⟩)⟩
theorem scale_two (n a b : Int) : ∃ x y v : Int, (∀ w, Calls Try.prog 15 #[.int .i64 n, .int .i64 a, .int .i64 b] w fun e w' => e = .returned (.tuple #[.int .i64 x, .int .i64 y, .int .i64 v]) ∧ Grown w w') ∧ ((v = 0 ∧ Sc n a b ∧ x = fl (n * a) b ∧ y = ce (n * a) b ∧ Sp x ∧ Sp y) ∨ (v == 0) = false) := by
  obtain ⟨x, y, v, h, h2⟩ := scale_sum n a b
  refine ⟨x, y, v, h, ?_⟩
  rcases h2 with h2 | h2 | h2
  · exact Or.inl h2
  · exact Or.inr (by rw [h2.1]; rfl)
  · exact Or.inr (by rw [h2.1]; rfl)

set_option maxRecDepth 100000 in
set_option maxHeartbeats 800000 in
theorem law_sums (n m a b : Int) (w : World) :
    Calls Try.prog 9 #[.int .i64 n, .int .i64 m, .int .i64 a, .int .i64 b] w fun e w' => e = .returned (.bool true) ∧ Grown w w' := by
  obtain ⟨x, y, e1, C1, h1⟩ := scale_two n a b
  have C1 := Lib.hid C1
  rcases h1 with ⟨rfl, s1, hx, hy, b1, b2⟩ | h1
  · obtain ⟨p, q, e2, C2, h2⟩ := scale_two m a b
    have C2 := Lib.hid C2
    rcases h2 with ⟨rfl, s2, hp, hq, b3, b4⟩ | h2
    · obtain ⟨s, t, e3, C3, h3⟩ := scale_two (n + m) a b
      have C3 := Lib.hid C3
      obtain ⟨⟨n0, n1⟩, _, ⟨hb0, _⟩⟩ := s1
      obtain ⟨⟨m0, m1⟩, _, _⟩ := s2
      rcases h3 with ⟨rfl, s3, hs, ht, b5, b6⟩ | h3
      · have f := fl_sum (n * a) (m * a) (show 0 < b by omega)
        have g := ce_sum (n * a) (m * a) (show 0 < b by omega)
        rw [← Int.add_mul, ← hs, ← hx, ← hp] at f
        rw [← Int.add_mul, ← ht, ← hy, ← hq] at g
        obtain ⟨f1, f2⟩ := f
        obtain ⟨g1, g2⟩ := g
        obtain ⟨b10, b11⟩ := b1
        obtain ⟨b20, b21⟩ := b2
        obtain ⟨b30, b31⟩ := b3
        obtain ⟨b40, b41⟩ := b4
        clear hs hx hp ht hy hq s3 b5 b6
        go_enter Try.func9, Try.ntmps9
        go_wp2_with fail
        refine (head_any _).mono ?_
        rintro e w1 ⟨rfl, k1⟩
        go_wp2_with fail
        refine (C1.out _).mono ?_
        rintro e w2 ⟨rfl, k2⟩
        go_wp2_with fail
        refine (C2.out _).mono ?_
        rintro e w3 ⟨rfl, k3⟩
        go_wp2_with fail
        refine (C3.out _).mono ?_
        rintro e w4 ⟨rfl, k4⟩
        go_wp2_with fail
        go_ret
        exact ⟨rfl, Grown.trans k1 (Grown.trans k2 (Grown.trans k3 k4))⟩
      · clear hx hp hy hq b1 b2 b3 b4
        go_enter Try.func9, Try.ntmps9
        go_wp2_with fail
        refine (head_any _).mono ?_
        rintro e w1 ⟨rfl, k1⟩
        go_wp2_with fail
        refine (C1.out _).mono ?_
        rintro e w2 ⟨rfl, k2⟩
        go_wp2_with fail
        refine (C2.out _).mono ?_
        rintro e w3 ⟨rfl, k3⟩
        go_wp2_with fail
        refine (C3.out _).mono ?_
        rintro e w4 ⟨rfl, k4⟩
        go_wp2_with fail
        go_ret
        exact ⟨rfl, Grown.trans k1 (Grown.trans k2 (Grown.trans k3 k4))⟩
    · clear hx hy b1 b2 s1
      go_enter Try.func9, Try.ntmps9
      go_wp2_with fail
      refine (head_any _).mono ?_
      rintro e w1 ⟨rfl, k1⟩
      go_wp2_with fail
      refine (C1.out _).mono ?_
      rintro e w2 ⟨rfl, k2⟩
      go_wp2_with fail
      refine (C2.out _).mono ?_
      rintro e w3 ⟨rfl, k3⟩
      go_wp2_with fail
      go_ret
      exact ⟨rfl, Grown.trans k1 (Grown.trans k2 k3)⟩
  · obtain ⟨p, q, e2, C2, -⟩ := scale_two m a b
    have C2 := Lib.hid C2
    go_enter Try.func9, Try.ntmps9
    go_wp2_with fail
    refine (head_any _).mono ?_
    rintro e w1 ⟨rfl, k1⟩
    go_wp2_with fail
    refine (C1.out _).mono ?_
    rintro e w2 ⟨rfl, k2⟩
    go_wp2_with fail
    refine (C2.out _).mono ?_
    rintro e w3 ⟨rfl, k3⟩
    go_wp2_with fail
    go_ret
    exact ⟨rfl, Grown.trans k1 (Grown.trans k2 k3)⟩

/-! ### Back -/
theorem back_down {n a b : Int} (ha : 0 < a) (hb : 0 < b) : fl (fl (n * a) b * b) a ≤ n ∧ n - fl (fl (n * a) b * b) a ≤ b / a + 1 := by
  obtain ⟨l1, l2⟩ := fl_spec (n * a) hb
  obtain ⟨x1, x2⟩ := fl_spec (fl (n * a) b * b) ha
  rw [Int.mul_comm (fl (n * a) b) b] at *
  have hn : n * a = a * n := Int.mul_comm _ _
  have hd := Int.mul_ediv_add_emod b a
  have hm := Int.emod_lt_of_pos b ha
  refine ⟨le_of_mul ha (by omega), ?_⟩
  have h : n ≤ fl (b * fl (n * a) b) a + (b / a + 1) := le_of_mul ha (by rw [Int.mul_add, Int.mul_add, Int.mul_one]; omega)
  omega
theorem back_up {n a b : Int} (ha : 0 < a) (hb : 0 < b) : n ≤ ce (ce (n * a) b * b) a ∧ ce (ce (n * a) b * b) a - n ≤ b / a + 1 := by
  obtain ⟨l1, l2⟩ := ce_spec (n * a) hb
  obtain ⟨x1, x2⟩ := ce_spec (ce (n * a) b * b) ha
  rw [Int.mul_comm (ce (n * a) b) b] at *
  have hn : n * a = a * n := Int.mul_comm _ _
  have hd := Int.mul_ediv_add_emod b a
  have hm := Int.emod_lt_of_pos b ha
  refine ⟨le_of_mul ha (by omega), ?_⟩
  have h : ce (b * ce (n * a) b) a ≤ n + (b / a + 1) := le_of_mul ha (by rw [Int.mul_add, Int.mul_add, Int.mul_one]; omega)
  omega

set_option maxRecDepth 100000 in
set_option maxHeartbeats 800000 in
theorem law_back (n a b : Int) (w : World) :
    Calls Try.prog 7 #[.int .i64 n, .int .i64 a, .int .i64 b] w fun e w' => e = .returned (.bool true) ∧ Grown w w' := by
  by_cases ha : a < 1
  · go_enter Try.func7, Try.ntmps7
    go_wp2_with fail
    refine (head_any _).mono ?_
    rintro e w1 ⟨rfl, k1⟩
    go_wp2_with fail
    go_ret
    exact ⟨rfl, k1⟩
  · have ha' : 1 ≤ a := by omega
    clear ha
    obtain ⟨lo, hi, e1, C1, h1⟩ := scale_two n a b
    have C1 := Lib.hid C1
    rcases h1 with ⟨rfl, s1, hlo, hhi, b1, b2⟩ | h1
    · obtain ⟨⟨n0, n1⟩, ⟨a0, a1⟩, ⟨b0, b3⟩⟩ := s1
      obtain ⟨x, x', e2, C2, h2⟩ := scale_sum lo b a
      obtain ⟨y', y, e3, C3, h3⟩ := scale_sum hi b a
      have C2 := Lib.hid C2
      have C3 := Lib.hid C3
      have sl : Sc lo b a := ⟨b1, ⟨by omega, by omega⟩, ⟨by omega, by omega⟩⟩
      have sh : Sc hi b a := ⟨b2, ⟨by omega, by omega⟩, ⟨by omega, by omega⟩⟩
      rcases h2 with ⟨rfl, -, hx, -, b4, -⟩ | ⟨-, hc⟩ | ⟨rfl, -⟩
      · rcases h3 with ⟨rfl, -, -, hy, -, b5⟩ | ⟨-, hc⟩ | ⟨rfl, -⟩
        · have d := back_down (n := n) (a := a) (b := b) (by omega) (by omega)
          have u := back_up (n := n) (a := a) (b := b) (by omega) (by omega)
          rw [← hlo, ← hx] at d
          rw [← hhi, ← hy] at u
          obtain ⟨d1, d2⟩ := d
          obtain ⟨u1, u2⟩ := u
          obtain ⟨b40, b41⟩ := b4
          obtain ⟨b50, b51⟩ := b5
          obtain ⟨t0, t1⟩ := IntWalk.tdiv_le b a (by omega) ha'
          have ha2 : (a == 0) = false := by rw [beq_eq_false_iff_ne]; omega
          clear hlo hhi hx hy sl sh b1 b2
          go_enter Try.func7, Try.ntmps7
          go_wp2_with fail
          refine (head_any _).mono ?_
          rintro e w1 ⟨rfl, k1⟩
          go_wp2_with fail
          refine (C1.out _).mono ?_
          rintro e w2 ⟨rfl, k2⟩
          go_wp2_with fail
          refine (C2.out _).mono ?_
          rintro e w3 ⟨rfl, k3⟩
          go_wp2_with fail
          refine (C3.out _).mono ?_
          rintro e w4 ⟨rfl, k4⟩
          go_wp2_with fail
          go_ret
          exact ⟨rfl, Grown.trans k1 (Grown.trans k2 (Grown.trans k3 k4))⟩
        · exact absurd sh hc
        · clear hlo hhi hx sl sh b1 b2
          go_enter Try.func7, Try.ntmps7
          go_wp2_with fail
          refine (head_any _).mono ?_
          rintro e w1 ⟨rfl, k1⟩
          go_wp2_with fail
          refine (C1.out _).mono ?_
          rintro e w2 ⟨rfl, k2⟩
          go_wp2_with fail
          refine (C2.out _).mono ?_
          rintro e w3 ⟨rfl, k3⟩
          go_wp2_with fail
          refine (C3.out _).mono ?_
          rintro e w4 ⟨rfl, k4⟩
          go_wp2_with fail
          go_ret
          exact ⟨rfl, Grown.trans k1 (Grown.trans k2 (Grown.trans k3 k4))⟩
      · exact absurd sl hc
      · rcases h3 with ⟨rfl, -, -, hy, -, b5⟩ | ⟨-, hc⟩ | ⟨rfl, -⟩
        · clear hlo hhi hy sl sh b1 b2
          go_enter Try.func7, Try.ntmps7
          go_wp2_with fail
          refine (head_any _).mono ?_
          rintro e w1 ⟨rfl, k1⟩
          go_wp2_with fail
          refine (C1.out _).mono ?_
          rintro e w2 ⟨rfl, k2⟩
          go_wp2_with fail
          refine (C2.out _).mono ?_
          rintro e w3 ⟨rfl, k3⟩
          go_wp2_with fail
          refine (C3.out _).mono ?_
          rintro e w4 ⟨rfl, k4⟩
          go_wp2_with fail
          go_ret
          exact ⟨rfl, Grown.trans k1 (Grown.trans k2 (Grown.trans k3 k4))⟩
        · exact absurd sh hc
        · clear hlo hhi sl sh b1 b2
          go_enter Try.func7, Try.ntmps7
          go_wp2_with fail
          refine (head_any _).mono ?_
          rintro e w1 ⟨rfl, k1⟩
          go_wp2_with fail
          refine (C1.out _).mono ?_
          rintro e w2 ⟨rfl, k2⟩
          go_wp2_with fail
          refine (C2.out _).mono ?_
          rintro e w3 ⟨rfl, k3⟩
          go_wp2_with fail
          refine (C3.out _).mono ?_
          rintro e w4 ⟨rfl, k4⟩
          go_wp2_with fail
          go_ret
          exact ⟨rfl, Grown.trans k1 (Grown.trans k2 (Grown.trans k3 k4))⟩
    · go_enter Try.func7, Try.ntmps7
      go_wp2_with fail
      refine (head_any _).mono ?_
      rintro e w1 ⟨rfl, k1⟩
      go_wp2_with fail
      refine (C1.out _).mono ?_
      rintro e w2 ⟨rfl, k2⟩
      go_wp2_with fail
      go_ret
      exact ⟨rfl, Grown.trans k1 k2⟩
end Ex
end Go.Proofs.Ytibjemalggjcgaa
