/-
  The walk of the law ExactOrder, part A.
-/
import Derived.Test.YtibjemalggjcgaaExactLawsC
namespace Go.Proofs.Ytibjemalggjcgaa
open Go.RowKit
namespace Ex

set_option maxRecDepth 100000 in
set_option maxHeartbeats 4000000 in
theorem order_lt_lt (n m a c b : Int) (w : World) (hn : n < m) (hc : a < c) :
    Calls Try.prog 6 #[.int .i64 n, .int .i64 m, .int .i64 a, .int .i64 c, .int .i64 b] w fun e w' => e = .returned (.bool true) ∧ Grown w w' := by
  obtain ⟨x, y, v, Cn, h1⟩ := scale_two n a b
  have Dn := Lib.hid Cn
  clear Cn
  obtain ⟨p, q, u, Cm, h2⟩ := scale_two m a b
  have Dm := Lib.hid Cm
  clear Cm
  obtain ⟨s, t, z, Cc, h3⟩ := scale_two n c b
  have Dc := Lib.hid Cc
  clear Cc
  rcases h1 with ⟨rfl, Sv, Xv, Yv, -, -⟩ | h1
  · rcases h2 with ⟨rfl, Su, Xu, Yu, -, -⟩ | h2
    · rcases h3 with ⟨rfl, Sz, Xz, Yz, -, -⟩ | h3
      · have A1 : x ≤ p ∧ y ≤ q ∧ x ≤ y := by
          obtain ⟨_, ⟨a0, _⟩, ⟨b0, _⟩⟩ := Sv
          have hm : n * a ≤ m * a := Int.mul_le_mul_of_nonneg_right (by omega) a0
          have := fl_mono (show 0 < b by omega) hm
          have := ce_mono (show 0 < b by omega) hm
          have := fl_le_ce (n * a) (show 0 < b by omega)
          omega
        obtain ⟨i1, i2, i3⟩ := A1
        have A2 : 0 ≤ n → x ≤ s ∧ y ≤ t := by
          intro hn0
          obtain ⟨_, _, ⟨b0, _⟩⟩ := Sv
          have hm : n * a ≤ n * c := Int.mul_le_mul_of_nonneg_left (by omega) hn0
          have := fl_mono (show 0 < b by omega) hm
          have := ce_mono (show 0 < b by omega) hm
          omega
        clear Sv Xv Yv Su Xu Yu Sz Xz Yz
        rcases Int.lt_or_le n 0 with h0 | h0
        · clear A2
          go_enter Try.func6, Try.ntmps6
          go_wp2_with fail
          refine (head_any _).mono ?_
          rintro e w1 ⟨rfl, k1⟩
          go_wp2_with fail
          refine (Dn.out _).mono ?_
          rintro e w2 ⟨rfl, k2⟩
          go_wp2_with fail
          refine (Dm.out _).mono ?_
          rintro e w3 ⟨rfl, k3⟩
          go_wp2_with fail
          refine (Dn.out _).mono ?_
          rintro e w4 ⟨rfl, k4⟩
          go_wp2_with fail
          refine (Dc.out _).mono ?_
          rintro e w5 ⟨rfl, k5⟩
          go_wp2_with fail
          go_ret
          exact ⟨by first | rfl | (simp; omega), Grown.trans k1 (Grown.trans k2 (Grown.trans k3 (Grown.trans k4 k5)))⟩
        · obtain ⟨i4, i5⟩ := A2 h0
          clear A2
          go_enter Try.func6, Try.ntmps6
          go_wp2_with fail
          refine (head_any _).mono ?_
          rintro e w1 ⟨rfl, k1⟩
          go_wp2_with fail
          refine (Dn.out _).mono ?_
          rintro e w2 ⟨rfl, k2⟩
          go_wp2_with fail
          refine (Dm.out _).mono ?_
          rintro e w3 ⟨rfl, k3⟩
          go_wp2_with fail
          refine (Dn.out _).mono ?_
          rintro e w4 ⟨rfl, k4⟩
          go_wp2_with fail
          refine (Dc.out _).mono ?_
          rintro e w5 ⟨rfl, k5⟩
          go_wp2_with fail
          go_ret
          exact ⟨by first | rfl | (simp; omega), Grown.trans k1 (Grown.trans k2 (Grown.trans k3 (Grown.trans k4 k5)))⟩
      · have h3' : (z != 0) = true := by rw [bne, h3]; rfl
        have A1 : x ≤ p ∧ y ≤ q ∧ x ≤ y := by
          obtain ⟨_, ⟨a0, _⟩, ⟨b0, _⟩⟩ := Sv
          have hm : n * a ≤ m * a := Int.mul_le_mul_of_nonneg_right (by omega) a0
          have := fl_mono (show 0 < b by omega) hm
          have := ce_mono (show 0 < b by omega) hm
          have := fl_le_ce (n * a) (show 0 < b by omega)
          omega
        obtain ⟨i1, i2, i3⟩ := A1
        clear Sv Xv Yv Su Xu Yu
        go_enter Try.func6, Try.ntmps6
        go_wp2_with fail
        refine (head_any _).mono ?_
        rintro e w1 ⟨rfl, k1⟩
        go_wp2_with fail
        refine (Dn.out _).mono ?_
        rintro e w2 ⟨rfl, k2⟩
        go_wp2_with fail
        refine (Dm.out _).mono ?_
        rintro e w3 ⟨rfl, k3⟩
        go_wp2_with fail
        refine (Dn.out _).mono ?_
        rintro e w4 ⟨rfl, k4⟩
        go_wp2_with fail
        refine (Dc.out _).mono ?_
        rintro e w5 ⟨rfl, k5⟩
        go_wp2_with fail
        go_ret
        exact ⟨by first | rfl | (simp; omega), Grown.trans k1 (Grown.trans k2 (Grown.trans k3 (Grown.trans k4 k5)))⟩
    · have h2' : (u != 0) = true := by rw [bne, h2]; rfl
      rcases h3 with ⟨rfl, Sz, Xz, Yz, -, -⟩ | h3
      · have A2 : 0 ≤ n → x ≤ s ∧ y ≤ t := by
          intro hn0
          obtain ⟨_, _, ⟨b0, _⟩⟩ := Sv
          have hm : n * a ≤ n * c := Int.mul_le_mul_of_nonneg_left (by omega) hn0
          have := fl_mono (show 0 < b by omega) hm
          have := ce_mono (show 0 < b by omega) hm
          omega
        clear Sv Xv Yv Sz Xz Yz
        rcases Int.lt_or_le n 0 with h0 | h0
        · clear A2
          go_enter Try.func6, Try.ntmps6
          go_wp2_with fail
          refine (head_any _).mono ?_
          rintro e w1 ⟨rfl, k1⟩
          go_wp2_with fail
          refine (Dn.out _).mono ?_
          rintro e w2 ⟨rfl, k2⟩
          go_wp2_with fail
          refine (Dm.out _).mono ?_
          rintro e w3 ⟨rfl, k3⟩
          go_wp2_with fail
          refine (Dn.out _).mono ?_
          rintro e w4 ⟨rfl, k4⟩
          go_wp2_with fail
          refine (Dc.out _).mono ?_
          rintro e w5 ⟨rfl, k5⟩
          go_wp2_with fail
          go_ret
          exact ⟨by first | rfl | (simp; omega), Grown.trans k1 (Grown.trans k2 (Grown.trans k3 (Grown.trans k4 k5)))⟩
        · obtain ⟨i4, i5⟩ := A2 h0
          clear A2
          go_enter Try.func6, Try.ntmps6
          go_wp2_with fail
          refine (head_any _).mono ?_
          rintro e w1 ⟨rfl, k1⟩
          go_wp2_with fail
          refine (Dn.out _).mono ?_
          rintro e w2 ⟨rfl, k2⟩
          go_wp2_with fail
          refine (Dm.out _).mono ?_
          rintro e w3 ⟨rfl, k3⟩
          go_wp2_with fail
          refine (Dn.out _).mono ?_
          rintro e w4 ⟨rfl, k4⟩
          go_wp2_with fail
          refine (Dc.out _).mono ?_
          rintro e w5 ⟨rfl, k5⟩
          go_wp2_with fail
          go_ret
          exact ⟨by first | rfl | (simp; omega), Grown.trans k1 (Grown.trans k2 (Grown.trans k3 (Grown.trans k4 k5)))⟩
      · have h3' : (z != 0) = true := by rw [bne, h3]; rfl
        clear Sv Xv Yv
        go_enter Try.func6, Try.ntmps6
        go_wp2_with fail
        refine (head_any _).mono ?_
        rintro e w1 ⟨rfl, k1⟩
        go_wp2_with fail
        refine (Dn.out _).mono ?_
        rintro e w2 ⟨rfl, k2⟩
        go_wp2_with fail
        refine (Dm.out _).mono ?_
        rintro e w3 ⟨rfl, k3⟩
        go_wp2_with fail
        refine (Dn.out _).mono ?_
        rintro e w4 ⟨rfl, k4⟩
        go_wp2_with fail
        refine (Dc.out _).mono ?_
        rintro e w5 ⟨rfl, k5⟩
        go_wp2_with fail
        go_ret
        exact ⟨by first | rfl | (simp; omega), Grown.trans k1 (Grown.trans k2 (Grown.trans k3 (Grown.trans k4 k5)))⟩
  · have h1' : (v != 0) = true := by rw [bne, h1]; rfl
    rcases h2 with ⟨rfl, Su, Xu, Yu, -, -⟩ | h2
    · rcases h3 with ⟨rfl, Sz, Xz, Yz, -, -⟩ | h3
      · clear Su Xu Yu Sz Xz Yz
        go_enter Try.func6, Try.ntmps6
        go_wp2_with fail
        refine (head_any _).mono ?_
        rintro e w1 ⟨rfl, k1⟩
        go_wp2_with fail
        refine (Dn.out _).mono ?_
        rintro e w2 ⟨rfl, k2⟩
        go_wp2_with fail
        refine (Dm.out _).mono ?_
        rintro e w3 ⟨rfl, k3⟩
        go_wp2_with fail
        refine (Dn.out _).mono ?_
        rintro e w4 ⟨rfl, k4⟩
        go_wp2_with fail
        refine (Dc.out _).mono ?_
        rintro e w5 ⟨rfl, k5⟩
        go_wp2_with fail
        go_ret
        exact ⟨by first | rfl | (simp; omega), Grown.trans k1 (Grown.trans k2 (Grown.trans k3 (Grown.trans k4 k5)))⟩
      · have h3' : (z != 0) = true := by rw [bne, h3]; rfl
        clear Su Xu Yu
        go_enter Try.func6, Try.ntmps6
        go_wp2_with fail
        refine (head_any _).mono ?_
        rintro e w1 ⟨rfl, k1⟩
        go_wp2_with fail
        refine (Dn.out _).mono ?_
        rintro e w2 ⟨rfl, k2⟩
        go_wp2_with fail
        refine (Dm.out _).mono ?_
        rintro e w3 ⟨rfl, k3⟩
        go_wp2_with fail
        refine (Dn.out _).mono ?_
        rintro e w4 ⟨rfl, k4⟩
        go_wp2_with fail
        refine (Dc.out _).mono ?_
        rintro e w5 ⟨rfl, k5⟩
        go_wp2_with fail
        go_ret
        exact ⟨by first | rfl | (simp; omega), Grown.trans k1 (Grown.trans k2 (Grown.trans k3 (Grown.trans k4 k5)))⟩
    · have h2' : (u != 0) = true := by rw [bne, h2]; rfl
      rcases h3 with ⟨rfl, Sz, Xz, Yz, -, -⟩ | h3
      · clear Sz Xz Yz
        go_enter Try.func6, Try.ntmps6
        go_wp2_with fail
        refine (head_any _).mono ?_
        rintro e w1 ⟨rfl, k1⟩
        go_wp2_with fail
        refine (Dn.out _).mono ?_
        rintro e w2 ⟨rfl, k2⟩
        go_wp2_with fail
        refine (Dm.out _).mono ?_
        rintro e w3 ⟨rfl, k3⟩
        go_wp2_with fail
        refine (Dn.out _).mono ?_
        rintro e w4 ⟨rfl, k4⟩
        go_wp2_with fail
        refine (Dc.out _).mono ?_
        rintro e w5 ⟨rfl, k5⟩
        go_wp2_with fail
        go_ret
        exact ⟨by first | rfl | (simp; omega), Grown.trans k1 (Grown.trans k2 (Grown.trans k3 (Grown.trans k4 k5)))⟩
      · have h3' : (z != 0) = true := by rw [bne, h3]; rfl
        go_enter Try.func6, Try.ntmps6
        go_wp2_with fail
        refine (head_any _).mono ?_
        rintro e w1 ⟨rfl, k1⟩
        go_wp2_with fail
        refine (Dn.out _).mono ?_
        rintro e w2 ⟨rfl, k2⟩
        go_wp2_with fail
        refine (Dm.out _).mono ?_
        rintro e w3 ⟨rfl, k3⟩
        go_wp2_with fail
        refine (Dn.out _).mono ?_
        rintro e w4 ⟨rfl, k4⟩
        go_wp2_with fail
        refine (Dc.out _).mono ?_
        rintro e w5 ⟨rfl, k5⟩
        go_wp2_with fail
        go_ret
        exact ⟨by first | rfl | (simp; omega), Grown.trans k1 (Grown.trans k2 (Grown.trans k3 (Grown.trans k4 k5)))⟩

set_option maxRecDepth 100000 in
set_option maxHeartbeats 4000000 in
theorem order_lt_eq (n m a b : Int) (w : World) (hn : n < m) :
    Calls Try.prog 6 #[.int .i64 n, .int .i64 m, .int .i64 a, .int .i64 a, .int .i64 b] w fun e w' => e = .returned (.bool true) ∧ Grown w w' := by
  obtain ⟨x, y, v, Cn, h1⟩ := scale_two n a b
  have Dn := Lib.hid Cn
  clear Cn
  obtain ⟨p, q, u, Cm, h2⟩ := scale_two m a b
  have Dm := Lib.hid Cm
  clear Cm
  rcases h1 with ⟨rfl, Sv, Xv, Yv, -, -⟩ | h1
  · rcases h2 with ⟨rfl, Su, Xu, Yu, -, -⟩ | h2
    · have A1 : x ≤ p ∧ y ≤ q ∧ x ≤ y := by
        obtain ⟨_, ⟨a0, _⟩, ⟨b0, _⟩⟩ := Sv
        have hm : n * a ≤ m * a := Int.mul_le_mul_of_nonneg_right (by omega) a0
        have := fl_mono (show 0 < b by omega) hm
        have := ce_mono (show 0 < b by omega) hm
        have := fl_le_ce (n * a) (show 0 < b by omega)
        omega
      obtain ⟨i1, i2, i3⟩ := A1
      have A2 : 0 ≤ n → x ≤ x ∧ y ≤ y := by
        intro hn0
        obtain ⟨_, _, ⟨b0, _⟩⟩ := Sv
        have hm : n * a ≤ n * a := Int.mul_le_mul_of_nonneg_left (by omega) hn0
        have := fl_mono (show 0 < b by omega) hm
        have := ce_mono (show 0 < b by omega) hm
        omega
      clear Sv Xv Yv Su Xu Yu
      rcases Int.lt_or_le n 0 with h0 | h0
      · clear A2
        go_enter Try.func6, Try.ntmps6
        go_wp2_with fail
        refine (head_any _).mono ?_
        rintro e w1 ⟨rfl, k1⟩
        go_wp2_with fail
        refine (Dn.out _).mono ?_
        rintro e w2 ⟨rfl, k2⟩
        go_wp2_with fail
        refine (Dm.out _).mono ?_
        rintro e w3 ⟨rfl, k3⟩
        go_wp2_with fail
        refine (Dn.out _).mono ?_
        rintro e w4 ⟨rfl, k4⟩
        go_wp2_with fail
        refine (Dn.out _).mono ?_
        rintro e w5 ⟨rfl, k5⟩
        go_wp2_with fail
        go_ret
        exact ⟨by first | rfl | (simp; omega), Grown.trans k1 (Grown.trans k2 (Grown.trans k3 (Grown.trans k4 k5)))⟩
      · obtain ⟨i4, i5⟩ := A2 h0
        clear A2
        go_enter Try.func6, Try.ntmps6
        go_wp2_with fail
        refine (head_any _).mono ?_
        rintro e w1 ⟨rfl, k1⟩
        go_wp2_with fail
        refine (Dn.out _).mono ?_
        rintro e w2 ⟨rfl, k2⟩
        go_wp2_with fail
        refine (Dm.out _).mono ?_
        rintro e w3 ⟨rfl, k3⟩
        go_wp2_with fail
        refine (Dn.out _).mono ?_
        rintro e w4 ⟨rfl, k4⟩
        go_wp2_with fail
        refine (Dn.out _).mono ?_
        rintro e w5 ⟨rfl, k5⟩
        go_wp2_with fail
        go_ret
        exact ⟨by first | rfl | (simp; omega), Grown.trans k1 (Grown.trans k2 (Grown.trans k3 (Grown.trans k4 k5)))⟩
    · have h2' : (u != 0) = true := by rw [bne, h2]; rfl
      have A2 : 0 ≤ n → x ≤ x ∧ y ≤ y := by
        intro hn0
        obtain ⟨_, _, ⟨b0, _⟩⟩ := Sv
        have hm : n * a ≤ n * a := Int.mul_le_mul_of_nonneg_left (by omega) hn0
        have := fl_mono (show 0 < b by omega) hm
        have := ce_mono (show 0 < b by omega) hm
        omega
      clear Sv Xv Yv
      rcases Int.lt_or_le n 0 with h0 | h0
      · clear A2
        go_enter Try.func6, Try.ntmps6
        go_wp2_with fail
        refine (head_any _).mono ?_
        rintro e w1 ⟨rfl, k1⟩
        go_wp2_with fail
        refine (Dn.out _).mono ?_
        rintro e w2 ⟨rfl, k2⟩
        go_wp2_with fail
        refine (Dm.out _).mono ?_
        rintro e w3 ⟨rfl, k3⟩
        go_wp2_with fail
        refine (Dn.out _).mono ?_
        rintro e w4 ⟨rfl, k4⟩
        go_wp2_with fail
        refine (Dn.out _).mono ?_
        rintro e w5 ⟨rfl, k5⟩
        go_wp2_with fail
        go_ret
        exact ⟨by first | rfl | (simp; omega), Grown.trans k1 (Grown.trans k2 (Grown.trans k3 (Grown.trans k4 k5)))⟩
      · obtain ⟨i4, i5⟩ := A2 h0
        clear A2
        go_enter Try.func6, Try.ntmps6
        go_wp2_with fail
        refine (head_any _).mono ?_
        rintro e w1 ⟨rfl, k1⟩
        go_wp2_with fail
        refine (Dn.out _).mono ?_
        rintro e w2 ⟨rfl, k2⟩
        go_wp2_with fail
        refine (Dm.out _).mono ?_
        rintro e w3 ⟨rfl, k3⟩
        go_wp2_with fail
        refine (Dn.out _).mono ?_
        rintro e w4 ⟨rfl, k4⟩
        go_wp2_with fail
        refine (Dn.out _).mono ?_
        rintro e w5 ⟨rfl, k5⟩
        go_wp2_with fail
        go_ret
        exact ⟨by first | rfl | (simp; omega), Grown.trans k1 (Grown.trans k2 (Grown.trans k3 (Grown.trans k4 k5)))⟩
  · have h1' : (v != 0) = true := by rw [bne, h1]; rfl
    rcases h2 with ⟨rfl, Su, Xu, Yu, -, -⟩ | h2
    · clear Su Xu Yu
      go_enter Try.func6, Try.ntmps6
      go_wp2_with fail
      refine (head_any _).mono ?_
      rintro e w1 ⟨rfl, k1⟩
      go_wp2_with fail
      refine (Dn.out _).mono ?_
      rintro e w2 ⟨rfl, k2⟩
      go_wp2_with fail
      refine (Dm.out _).mono ?_
      rintro e w3 ⟨rfl, k3⟩
      go_wp2_with fail
      refine (Dn.out _).mono ?_
      rintro e w4 ⟨rfl, k4⟩
      go_wp2_with fail
      refine (Dn.out _).mono ?_
      rintro e w5 ⟨rfl, k5⟩
      go_wp2_with fail
      go_ret
      exact ⟨by first | rfl | (simp; omega), Grown.trans k1 (Grown.trans k2 (Grown.trans k3 (Grown.trans k4 k5)))⟩
    · have h2' : (u != 0) = true := by rw [bne, h2]; rfl
      go_enter Try.func6, Try.ntmps6
      go_wp2_with fail
      refine (head_any _).mono ?_
      rintro e w1 ⟨rfl, k1⟩
      go_wp2_with fail
      refine (Dn.out _).mono ?_
      rintro e w2 ⟨rfl, k2⟩
      go_wp2_with fail
      refine (Dm.out _).mono ?_
      rintro e w3 ⟨rfl, k3⟩
      go_wp2_with fail
      refine (Dn.out _).mono ?_
      rintro e w4 ⟨rfl, k4⟩
      go_wp2_with fail
      refine (Dn.out _).mono ?_
      rintro e w5 ⟨rfl, k5⟩
      go_wp2_with fail
      go_ret
      exact ⟨by first | rfl | (simp; omega), Grown.trans k1 (Grown.trans k2 (Grown.trans k3 (Grown.trans k4 k5)))⟩

set_option maxRecDepth 100000 in
set_option maxHeartbeats 4000000 in
theorem order_lt_gt (n m a c b : Int) (w : World) (hn : n < m) (hc : c < a) :
    Calls Try.prog 6 #[.int .i64 n, .int .i64 m, .int .i64 a, .int .i64 c, .int .i64 b] w fun e w' => e = .returned (.bool true) ∧ Grown w w' := by
  obtain ⟨x, y, v, Cn, h1⟩ := scale_two n a b
  have Dn := Lib.hid Cn
  clear Cn
  obtain ⟨p, q, u, Cm, h2⟩ := scale_two m a b
  have Dm := Lib.hid Cm
  clear Cm
  obtain ⟨s, t, z, Cc, h3⟩ := scale_two n c b
  have Dc := Lib.hid Cc
  clear Cc
  rcases h1 with ⟨rfl, Sv, Xv, Yv, -, -⟩ | h1
  · rcases h2 with ⟨rfl, Su, Xu, Yu, -, -⟩ | h2
    · rcases h3 with ⟨rfl, Sz, Xz, Yz, -, -⟩ | h3
      · have A1 : x ≤ p ∧ y ≤ q ∧ x ≤ y := by
          obtain ⟨_, ⟨a0, _⟩, ⟨b0, _⟩⟩ := Sv
          have hm : n * a ≤ m * a := Int.mul_le_mul_of_nonneg_right (by omega) a0
          have := fl_mono (show 0 < b by omega) hm
          have := ce_mono (show 0 < b by omega) hm
          have := fl_le_ce (n * a) (show 0 < b by omega)
          omega
        obtain ⟨i1, i2, i3⟩ := A1
        have A2 : 0 ≤ n → s ≤ x ∧ t ≤ y := by
          intro hn0
          obtain ⟨_, _, ⟨b0, _⟩⟩ := Sz
          have hm : n * c ≤ n * a := Int.mul_le_mul_of_nonneg_left (by omega) hn0
          have := fl_mono (show 0 < b by omega) hm
          have := ce_mono (show 0 < b by omega) hm
          omega
        clear Sv Xv Yv Su Xu Yu Sz Xz Yz
        rcases Int.lt_or_le n 0 with h0 | h0
        · clear A2
          go_enter Try.func6, Try.ntmps6
          go_wp2_with fail
          refine (head_any _).mono ?_
          rintro e w1 ⟨rfl, k1⟩
          go_wp2_with fail
          refine (Dn.out _).mono ?_
          rintro e w2 ⟨rfl, k2⟩
          go_wp2_with fail
          refine (Dm.out _).mono ?_
          rintro e w3 ⟨rfl, k3⟩
          go_wp2_with fail
          refine (Dc.out _).mono ?_
          rintro e w4 ⟨rfl, k4⟩
          go_wp2_with fail
          refine (Dn.out _).mono ?_
          rintro e w5 ⟨rfl, k5⟩
          go_wp2_with fail
          go_ret
          exact ⟨by first | rfl | (simp; omega), Grown.trans k1 (Grown.trans k2 (Grown.trans k3 (Grown.trans k4 k5)))⟩
        · obtain ⟨i4, i5⟩ := A2 h0
          clear A2
          go_enter Try.func6, Try.ntmps6
          go_wp2_with fail
          refine (head_any _).mono ?_
          rintro e w1 ⟨rfl, k1⟩
          go_wp2_with fail
          refine (Dn.out _).mono ?_
          rintro e w2 ⟨rfl, k2⟩
          go_wp2_with fail
          refine (Dm.out _).mono ?_
          rintro e w3 ⟨rfl, k3⟩
          go_wp2_with fail
          refine (Dc.out _).mono ?_
          rintro e w4 ⟨rfl, k4⟩
          go_wp2_with fail
          refine (Dn.out _).mono ?_
          rintro e w5 ⟨rfl, k5⟩
          go_wp2_with fail
          go_ret
          exact ⟨by first | rfl | (simp; omega), Grown.trans k1 (Grown.trans k2 (Grown.trans k3 (Grown.trans k4 k5)))⟩
      · have h3' : (z != 0) = true := by rw [bne, h3]; rfl
        have A1 : x ≤ p ∧ y ≤ q ∧ x ≤ y := by
          obtain ⟨_, ⟨a0, _⟩, ⟨b0, _⟩⟩ := Sv
          have hm : n * a ≤ m * a := Int.mul_le_mul_of_nonneg_right (by omega) a0
          have := fl_mono (show 0 < b by omega) hm
          have := ce_mono (show 0 < b by omega) hm
          have := fl_le_ce (n * a) (show 0 < b by omega)
          omega
        obtain ⟨i1, i2, i3⟩ := A1
        clear Sv Xv Yv Su Xu Yu
        go_enter Try.func6, Try.ntmps6
        go_wp2_with fail
        refine (head_any _).mono ?_
        rintro e w1 ⟨rfl, k1⟩
        go_wp2_with fail
        refine (Dn.out _).mono ?_
        rintro e w2 ⟨rfl, k2⟩
        go_wp2_with fail
        refine (Dm.out _).mono ?_
        rintro e w3 ⟨rfl, k3⟩
        go_wp2_with fail
        refine (Dc.out _).mono ?_
        rintro e w4 ⟨rfl, k4⟩
        go_wp2_with fail
        refine (Dn.out _).mono ?_
        rintro e w5 ⟨rfl, k5⟩
        go_wp2_with fail
        go_ret
        exact ⟨by first | rfl | (simp; omega), Grown.trans k1 (Grown.trans k2 (Grown.trans k3 (Grown.trans k4 k5)))⟩
    · have h2' : (u != 0) = true := by rw [bne, h2]; rfl
      rcases h3 with ⟨rfl, Sz, Xz, Yz, -, -⟩ | h3
      · have A2 : 0 ≤ n → s ≤ x ∧ t ≤ y := by
          intro hn0
          obtain ⟨_, _, ⟨b0, _⟩⟩ := Sz
          have hm : n * c ≤ n * a := Int.mul_le_mul_of_nonneg_left (by omega) hn0
          have := fl_mono (show 0 < b by omega) hm
          have := ce_mono (show 0 < b by omega) hm
          omega
        clear Sv Xv Yv Sz Xz Yz
        rcases Int.lt_or_le n 0 with h0 | h0
        · clear A2
          go_enter Try.func6, Try.ntmps6
          go_wp2_with fail
          refine (head_any _).mono ?_
          rintro e w1 ⟨rfl, k1⟩
          go_wp2_with fail
          refine (Dn.out _).mono ?_
          rintro e w2 ⟨rfl, k2⟩
          go_wp2_with fail
          refine (Dm.out _).mono ?_
          rintro e w3 ⟨rfl, k3⟩
          go_wp2_with fail
          refine (Dc.out _).mono ?_
          rintro e w4 ⟨rfl, k4⟩
          go_wp2_with fail
          refine (Dn.out _).mono ?_
          rintro e w5 ⟨rfl, k5⟩
          go_wp2_with fail
          go_ret
          exact ⟨by first | rfl | (simp; omega), Grown.trans k1 (Grown.trans k2 (Grown.trans k3 (Grown.trans k4 k5)))⟩
        · obtain ⟨i4, i5⟩ := A2 h0
          clear A2
          go_enter Try.func6, Try.ntmps6
          go_wp2_with fail
          refine (head_any _).mono ?_
          rintro e w1 ⟨rfl, k1⟩
          go_wp2_with fail
          refine (Dn.out _).mono ?_
          rintro e w2 ⟨rfl, k2⟩
          go_wp2_with fail
          refine (Dm.out _).mono ?_
          rintro e w3 ⟨rfl, k3⟩
          go_wp2_with fail
          refine (Dc.out _).mono ?_
          rintro e w4 ⟨rfl, k4⟩
          go_wp2_with fail
          refine (Dn.out _).mono ?_
          rintro e w5 ⟨rfl, k5⟩
          go_wp2_with fail
          go_ret
          exact ⟨by first | rfl | (simp; omega), Grown.trans k1 (Grown.trans k2 (Grown.trans k3 (Grown.trans k4 k5)))⟩
      · have h3' : (z != 0) = true := by rw [bne, h3]; rfl
        clear Sv Xv Yv
        go_enter Try.func6, Try.ntmps6
        go_wp2_with fail
        refine (head_any _).mono ?_
        rintro e w1 ⟨rfl, k1⟩
        go_wp2_with fail
        refine (Dn.out _).mono ?_
        rintro e w2 ⟨rfl, k2⟩
        go_wp2_with fail
        refine (Dm.out _).mono ?_
        rintro e w3 ⟨rfl, k3⟩
        go_wp2_with fail
        refine (Dc.out _).mono ?_
        rintro e w4 ⟨rfl, k4⟩
        go_wp2_with fail
        refine (Dn.out _).mono ?_
        rintro e w5 ⟨rfl, k5⟩
        go_wp2_with fail
        go_ret
        exact ⟨by first | rfl | (simp; omega), Grown.trans k1 (Grown.trans k2 (Grown.trans k3 (Grown.trans k4 k5)))⟩
  · have h1' : (v != 0) = true := by rw [bne, h1]; rfl
    rcases h2 with ⟨rfl, Su, Xu, Yu, -, -⟩ | h2
    · rcases h3 with ⟨rfl, Sz, Xz, Yz, -, -⟩ | h3
      · clear Su Xu Yu Sz Xz Yz
        go_enter Try.func6, Try.ntmps6
        go_wp2_with fail
        refine (head_any _).mono ?_
        rintro e w1 ⟨rfl, k1⟩
        go_wp2_with fail
        refine (Dn.out _).mono ?_
        rintro e w2 ⟨rfl, k2⟩
        go_wp2_with fail
        refine (Dm.out _).mono ?_
        rintro e w3 ⟨rfl, k3⟩
        go_wp2_with fail
        refine (Dc.out _).mono ?_
        rintro e w4 ⟨rfl, k4⟩
        go_wp2_with fail
        refine (Dn.out _).mono ?_
        rintro e w5 ⟨rfl, k5⟩
        go_wp2_with fail
        go_ret
        exact ⟨by first | rfl | (simp; omega), Grown.trans k1 (Grown.trans k2 (Grown.trans k3 (Grown.trans k4 k5)))⟩
      · have h3' : (z != 0) = true := by rw [bne, h3]; rfl
        clear Su Xu Yu
        go_enter Try.func6, Try.ntmps6
        go_wp2_with fail
        refine (head_any _).mono ?_
        rintro e w1 ⟨rfl, k1⟩
        go_wp2_with fail
        refine (Dn.out _).mono ?_
        rintro e w2 ⟨rfl, k2⟩
        go_wp2_with fail
        refine (Dm.out _).mono ?_
        rintro e w3 ⟨rfl, k3⟩
        go_wp2_with fail
        refine (Dc.out _).mono ?_
        rintro e w4 ⟨rfl, k4⟩
        go_wp2_with fail
        refine (Dn.out _).mono ?_
        rintro e w5 ⟨rfl, k5⟩
        go_wp2_with fail
        go_ret
        exact ⟨by first | rfl | (simp; omega), Grown.trans k1 (Grown.trans k2 (Grown.trans k3 (Grown.trans k4 k5)))⟩
    · have h2' : (u != 0) = true := by rw [bne, h2]; rfl
      rcases h3 with ⟨rfl, Sz, Xz, Yz, -, -⟩ | h3
      · clear Sz Xz Yz
        go_enter Try.func6, Try.ntmps6
        go_wp2_with fail
        refine (head_any _).mono ?_
        rintro e w1 ⟨rfl, k1⟩
        go_wp2_with fail
        refine (Dn.out _).mono ?_
        rintro e w2 ⟨rfl, k2⟩
        go_wp2_with fail
        refine (Dm.out _).mono ?_
        rintro e w3 ⟨rfl, k3⟩
        go_wp2_with fail
        refine (Dc.out _).mono ?_
        rintro e w4 ⟨rfl, k4⟩
        go_wp2_with fail
        refine (Dn.out _).mono ?_
        rintro e w5 ⟨rfl, k5⟩
        go_wp2_with fail
        go_ret
        exact ⟨by first | rfl | (simp; omega), Grown.trans k1 (Grown.trans k2 (Grown.trans k3 (Grown.trans k4 k5)))⟩
      · have h3' : (z != 0) = true := by rw [bne, h3]; rfl
        go_enter Try.func6, Try.ntmps6
        go_wp2_with fail
        refine (head_any _).mono ?_
        rintro e w1 ⟨rfl, k1⟩
        go_wp2_with fail
        refine (Dn.out _).mono ?_
        rintro e w2 ⟨rfl, k2⟩
        go_wp2_with fail
        refine (Dm.out _).mono ?_
        rintro e w3 ⟨rfl, k3⟩
        go_wp2_with fail
        refine (Dc.out _).mono ?_
        rintro e w4 ⟨rfl, k4⟩
        go_wp2_with fail
        refine (Dn.out _).mono ?_
        rintro e w5 ⟨rfl, k5⟩
        go_wp2_with fail
        go_ret
        exact ⟨by first | rfl | (simp; omega), Grown.trans k1 (Grown.trans k2 (Grown.trans k3 (Grown.trans k4 k5)))⟩

end Ex
end Go.Proofs.Ytibjemalggjcgaa
