/-
  Powers modulo P as the landed package sign reckons them, with a closure, and as the reference does.
-/
import Derived.Test.YtfnnmkadmpflhaaDoorWorld
import Derived.Test.YtfnnmkadmpflhaaDoorSgGroup
import Derived.Laws.EntriesVeiled
import Derived.Laws.BitsLemmas
namespace Go.Proofs.YtfnnmkadmpflhaaDoor
open Go.RowKit Wd
namespace Sg
set_option maxRecDepth 100000

theorem and_bit (x n : Nat) (hx : x < 2 ^ 30) (hn : n < 30) : bits .and .i64 (x : Int) ((2 ^ n : Nat) : Int) = if x / 2 ^ n % 2 = 1 then ((2 ^ n : Nat) : Int) else 0 := by
  have h2 : 2 ^ n < 2 ^ 30 := Nat.pow_lt_pow_right (by decide) hn
  rw [(bits_nat .i64 30 (by decide) (fun n h0 h1 => by rw [IntKind.wrap_i64]; omega) x (2 ^ n) hx h2).1]
  have e : x &&& 2 ^ n = if x / 2 ^ n % 2 = 1 then 2 ^ n else 0 := by
    have t : x.testBit n = decide (x / 2 ^ n % 2 = 1) := Nat.testBit_eq_decide_div_mod_eq
    by_cases h : x / 2 ^ n % 2 = 1
    · rw [if_pos h]
      refine Nat.eq_of_testBit_eq fun i => ?_
      rw [Nat.testBit_and, Nat.testBit_two_pow]
      by_cases k : n = i
      · subst k; rw [t]; simp [h]
      · simp [k]
    · rw [if_neg h]
      refine Nat.eq_of_testBit_eq fun i => ?_
      rw [Nat.testBit_and, Nat.testBit_two_pow, Nat.zero_testBit]
      by_cases k : n = i
      · subst k; rw [t]; simp [h]
      · simp [k]
  rw [e]
  split <;> rfl
set_option maxHeartbeats 1000000 in
/-- The closure: what the cell holds is multiplied. -/
theorem mul_c (B m b : Nat) (w : World) (hc : w.cell? ⟨B, 0, none⟩ = some (.int .i64 m)) (hf : w.frozen? ⟨B, 0, none⟩ = false) (hm : m < 2147483579) (hb : b < 2147483579) :
    Calls Tryd.prog 34 #[.int .i64 b, .pointer (some ⟨B, 0, none⟩)] w fun e w' => e = .returned (.tuple #[]) ∧ w' = w.setCell ⟨B, 0, none⟩ (.int .i64 ((m * b % 2147483579 : Nat) : Int)) := by
  have h0 : m * b ≤ 2147483579 * 2147483579 := Nat.mul_le_mul (by omega) (by omega)
  have h1 : (0 : Int) ≤ (m : Int) * b := by rw [← Int.natCast_mul]; omega
  have h2 : (m : Int) * b ≤ 4611685786067249241 := by rw [← Int.natCast_mul]; omega
  go_enter Tryd.func34, Tryd.ntmps34
  go_wp2_with fail
  go_end0
  exact ⟨rfl, by simp⟩
set_option maxHeartbeats 4000000 in
theorem power_c (a x : Nat) (w : World) (ha : a < 2147483579) (hx : x < 1073741824) : Calls Tryd.prog 26 #[.int .i64 a, .int .i64 x] w fun e w' => e = .returned (.int .i64 ((pw a x 2147483579 : Nat) : Int)) ∧ Grew w w' := by
  have hmf : ∀ (fn : Fn) (first cap : Array Value) (w : World), (Instr.makeFunc fn first cap).run Tryd.prog w = .ok (.func fn first cap) w := fun _ _ _ _ => rfl
  have S0 : Hid (1 = pw a (x / 2 ^ 30) 2147483579) := Lib.hid (by rw [Nat.div_eq_of_lt hx, pw_zero a (by omega)])
  have MC := Lib.hid (fun B m b W h1 h2 h3 h4 => mul_c B m b W h1 h2 h3 h4)
  go_enter Tryd.func26, Tryd.ntmps26
  go_wp2_with fail
  go_loopw [7] (fun i wr => ∃ n : Nat, n ≤ 30 ∧ i = .int .i64 ((2 ^ n / 2 : Nat) : Int) ∧ Grew w wr ∧ w.heap.size < wr.heap.size ∧ wr.cell? ⟨w.heap.size, 0, none⟩ = some (.int .i64 ((pw a (x / 2 ^ n) 2147483579 : Nat) : Int)) ∧ wr.frozen? ⟨w.heap.size, 0, none⟩ = false) (fun i _ => (intOf i).toNat)
  case atStart => exact ⟨30, by omega, by rfl, (Grew.refl w).alloc _ _, by simp, by rw [← S0.out]; simp [go_sem], by simp [go_sem]⟩
  case round =>
    obtain ⟨n, hn, rfl, G, lt, c0, f0⟩ := hrel
    cases n with
    | zero =>
      have e0 : (2 ^ 0 / 2 : Nat) = 0 := rfl
      rw [Nat.pow_zero, Nat.div_one] at c0
      rw [e0]
      obtain ⟨r, hr⟩ : ∃ r, r = pw a x 2147483579 := ⟨_, rfl⟩
      rw [← hr] at c0
      have HR := Lib.hid hr
      clear hr
      go_wp2_with fail
      go_ret
      exact ⟨by rw [HR.out]; rfl, G⟩
    | succ n =>
      have e0 : 2 ^ (n + 1) / 2 = 2 ^ n := by rw [Nat.pow_succ, Nat.mul_div_cancel _ (by omega)]
      have ST := pw_down a x 2147483579 n
      have AB := and_bit x n hx (by omega)
      have b1 : 1 ≤ 2 ^ n := Nat.one_le_two_pow
      have b2 : 2 ^ n ≤ 2 ^ 29 := Nat.pow_le_pow_right (by omega) (by omega)
      have mlt := pw_lt a (x / 2 ^ (n + 1)) (show 0 < 2147483579 by omega)
      rw [e0]
      generalize pw a (x / 2 ^ (n + 1)) 2147483579 = m at *
      obtain ⟨b, hb⟩ : ∃ b, b = 2 ^ n := ⟨_, rfl⟩
      have HB := Lib.hid hb
      rw [← hb] at ST AB b1 ⊢
      have b3 : b ≤ 536870912 := by rw [hb]; exact b2
      clear b2 hb
      have zlt := Nat.mod_lt (m * m) (show 2147483579 > 0 by omega)
      have M1 := Lib.hid (MC.out w.heap.size m m wr c0 f0 mlt mlt)
      generalize m * m % 2147483579 = z at *
      have BK := Lib.hid lt
      have c1 : (wr.setCell ⟨w.heap.size, 0, none⟩ (.int .i64 (z : Int))).cell? ⟨w.heap.size, 0, none⟩ = some (.int .i64 (z : Int)) := World.cell?_setCell_same _ _ _ c0
      have f1 : (wr.setCell ⟨w.heap.size, 0, none⟩ (.int .i64 (z : Int))).frozen? ⟨w.heap.size, 0, none⟩ = false := by rw [World.frozen?_setCell]; exact f0
      have l1 : w.heap.size < (wr.setCell ⟨w.heap.size, 0, none⟩ (.int .i64 (z : Int))).heap.size := by rw [World.size_setCell]; exact lt
      have G1 : Grew w (wr.setCell ⟨w.heap.size, 0, none⟩ (.int .i64 (z : Int))) := Grew.setCell G (Nat.le_refl _) _
      have M2 := Lib.hid (MC.out w.heap.size z a _ c1 f1 zlt ha)
      by_cases hbit : x / b % 2 = 1
      · rw [if_pos hbit] at AB ST
        have nb : ((b : Int) != 0) = true := by simp; omega
        have NX := Lib.hid ST
        clear hbit ST
        go_wp2_with fail
        refine (M1.out).mono ?_
        rintro e w1 ⟨rfl, rfl⟩
        go_wp2_with fail
        refine (M2.out).mono ?_
        rintro e w2 ⟨rfl, rfl⟩
        go_wp2_with fail
        go_roundw
        case rel => exact ⟨n, by omega, by rw [← HB.out]; rfl, Grew.setCell G1 (Nat.le_refl _) _, by rw [World.size_setCell]; exact l1, by rw [World.cell?_setCell_same (h := c1), ← HB.out, NX.out]; rfl, by rw [World.frozen?_setCell]; exact f1⟩
        case measure => simp [intOf]; omega
      · rw [if_neg hbit] at AB ST
        have NX := Lib.hid ST
        clear hbit ST
        go_wp2_with fail
        refine (M1.out).mono ?_
        rintro e w1 ⟨rfl, rfl⟩
        go_wp2_with fail
        go_roundw
        case rel => exact ⟨n, by omega, by rw [← HB.out]; rfl, G1, l1, by rw [c1, ← HB.out, NX.out], f1⟩
        case measure => simp [intOf]; omega
set_option maxHeartbeats 4000000 in
/-- The reference's power. -/
theorem rpower_c (a x m : Nat) (w : World) (ha : a < m) (hm : 1 < m) (hm2 : m < 2147483648) (hx : x < 2147483648) : Calls Tryd.prog 24 #[.int .i64 a, .int .i64 x, .int .i64 m] w fun e w' => e = .returned (.int .i64 ((pw a x m : Nat) : Int)) ∧ Grew w w' := by
  obtain ⟨r, hr⟩ : ∃ r, r = pw a x m := ⟨_, rfl⟩
  have S0 : Hid (1 * a ^ x % m = r) := Lib.hid (by rw [hr, Nat.one_mul]; rfl)
  rw [← hr]
  clear hr
  have hm0 : (m : Int) ≠ 0 := by omega
  go_enter Tryd.func24, Tryd.ntmps24
  go_wp2_with fail
  go_loopw [0, 1, 7] (fun u0 u1 u7 wr => ∃ A X O : Nat, A < m ∧ X ≤ x ∧ O < m ∧ u0 = .int .i64 A ∧ u1 = .int .i64 X ∧ u7 = .int .i64 O ∧ Hid (O * A ^ X % m = r) ∧ w = wr) (fun _ u1 _ _ => (intOf u1).toNat)
  case atStart => exact ⟨a, x, 1, ha, Nat.le_refl _, hm, rfl, rfl, rfl, S0, rfl⟩
  case round =>
    obtain ⟨A, X, O, hA, hX, hO, rfl, rfl, rfl, I, rfl⟩ := hrel
    clear S0
    by_cases hz : X = 0
    · subst hz
      have e : Hid (r = O) := Lib.hid (by rw [← I.out, Nat.pow_zero, Nat.mul_one, Nat.mod_eq_of_lt hO])
      go_wp2_with fail
      go_ret
      exact ⟨by rw [e.out]; rfl, Grew.refl _⟩
    · have p0 : 0 < X := by omega
      clear hz
      have k0 : O * A ≤ 2147483648 * 2147483648 := Nat.mul_le_mul (by omega) (by omega)
      have k1 : A * A ≤ 2147483648 * 2147483648 := Nat.mul_le_mul (by omega) (by omega)
      have h0 : (0 : Int) ≤ (O : Int) * A := by rw [← Int.natCast_mul]; omega
      have h1 : (O : Int) * A ≤ 4611686018427387904 := by rw [← Int.natCast_mul]; omega
      have h2 : (0 : Int) ≤ (A : Int) * A := by rw [← Int.natCast_mul]; omega
      have h3 : (A : Int) * A ≤ 4611686018427387904 := by rw [← Int.natCast_mul]; omega
      clear k0 k1
      by_cases hodd : X % 2 = 1
      · have I2 := Lib.hid (up_odd I.out hodd)
        go_wp2_with fail
        go_roundw
        case rel => exact ⟨A * A % m, X / 2, O * A % m, Nat.mod_lt _ (by omega), by omega, Nat.mod_lt _ (by omega), by rw [Int.natCast_emod, Int.natCast_mul], by go_num, by rw [Int.natCast_emod, Int.natCast_mul], I2, trivial⟩
        case measure => simp [intOf]; omega
      · have I2 := Lib.hid (up_even I.out hodd)
        go_wp2_with fail
        go_roundw
        case rel => exact ⟨A * A % m, X / 2, O, Nat.mod_lt _ (by omega), by omega, hO, by rw [Int.natCast_emod, Int.natCast_mul], by go_num, rfl, I2, trivial⟩
        case measure => simp [intOf]; omega
end Sg
end Go.Proofs.YtfnnmkadmpflhaaDoor
