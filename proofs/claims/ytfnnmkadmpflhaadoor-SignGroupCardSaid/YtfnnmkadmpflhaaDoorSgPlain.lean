/-
  Plain facts of powers modulo a number: how they are reckoned bit by bit, Fermat's little theorem, the prime Q, and the group of G modulo P. No program.
-/
import Derived.Lib.Hide
namespace Go.Proofs.YtfnnmkadmpflhaaDoor
namespace Sg

/-- a to the power of x, modulo m. -/
def pw (a x m : Nat) : Nat := a ^ x % m
theorem pw_def (a x m : Nat) : pw a x m = a ^ x % m := rfl
theorem pw_lt (a x : Nat) {m : Nat} (h : 0 < m) : pw a x m < m := Nat.mod_lt _ h
theorem pw_zero (a : Nat) {m : Nat} (h : 1 < m) : pw a 0 m = 1 := by unfold pw; rw [Nat.pow_zero]; exact Nat.mod_eq_of_lt h
theorem pw_base (a x m : Nat) : pw (a % m) x m = pw a x m := (Nat.pow_mod a x m).symm
theorem pw_add (a x y m : Nat) : pw a (x + y) m = pw a x m * pw a y m % m := by unfold pw; rw [Nat.pow_add, Nat.mul_mod]
theorem pw_pw (a x y m : Nat) : pw (pw a x m) y m = pw a (x * y) m := by
  show pw (a ^ x % m) y m = _
  rw [pw_base]; unfold pw; rw [← Nat.pow_mul]
theorem pw_one {x m : Nat} (h : 1 < m) : pw 1 x m = 1 := by unfold pw; rw [Nat.one_pow]; exact Nat.mod_eq_of_lt h
/-- One step of a power that is reckoned from the highest bit down. -/
theorem pw_down (a x m n : Nat) : pw a (x / 2 ^ n) m = if x / 2 ^ n % 2 = 1 then pw a (x / 2 ^ (n + 1)) m * pw a (x / 2 ^ (n + 1)) m % m * a % m else pw a (x / 2 ^ (n + 1)) m * pw a (x / 2 ^ (n + 1)) m % m := by
  have e : x / 2 ^ (n + 1) = x / 2 ^ n / 2 := by rw [Nat.pow_succ, Nat.div_div_eq_div_mul]
  rw [e]
  generalize x / 2 ^ n = y
  rw [← pw_add]
  split
  · rename_i h
    conv => lhs; rw [show y = (y / 2 + y / 2) + 1 by omega]
    rw [pw_add a (y / 2 + y / 2) 1]
    rw [show pw a 1 m = a % m from by unfold pw; rw [Nat.pow_one], Nat.mul_mod_mod]
  · rename_i h
    conv => lhs; rw [show y = y / 2 + y / 2 by omega]
/-- One step of a power that is reckoned from the lowest bit up. -/
theorem up_odd {o a x m c : Nat} (h : o * a ^ x % m = c) (hx : x % 2 = 1) : o * a % m * (a * a % m) ^ (x / 2) % m = c := by
  rw [← h, Nat.mul_mod, Nat.mod_mod, ← Nat.pow_mod, ← Nat.mul_mod]
  conv => rhs; rw [show x = 2 * (x / 2) + 1 by omega]
  rw [Nat.pow_succ, Nat.pow_mul, Nat.pow_two, Nat.mul_assoc o a, Nat.mul_comm a]
theorem up_even {o a x m c : Nat} (h : o * a ^ x % m = c) (hx : ¬ x % 2 = 1) : o * (a * a % m) ^ (x / 2) % m = c := by
  rw [← h, Nat.mul_mod, ← Nat.pow_mod, ← Nat.mul_mod]
  conv => rhs; rw [show x = 2 * (x / 2) by omega]
  rw [Nat.pow_mul, Nat.pow_two]

/-! ### A power of numbers that are known -/
def pm : Nat → Nat → Nat → Nat → Nat → Nat
  | 0, o, _, _, _ => o
  | n + 1, o, a, x, m => pm n (if x % 2 = 1 then o * a % m else o) (a * a % m) (x / 2) m
theorem pm_is : ∀ (n o a x m : Nat), x < 2 ^ n → o < m → pm n o a x m = o * a ^ x % m
  | 0, o, a, x, m, hx, ho => by
    obtain rfl : x = 0 := by rw [Nat.pow_zero] at hx; omega
    rw [Nat.pow_zero, Nat.mul_one, Nat.mod_eq_of_lt ho]; rfl
  | n + 1, o, a, x, m, hx, ho => by
    have h2 : x / 2 < 2 ^ n := by rw [Nat.pow_succ] at hx; omega
    unfold pm
    split
    · rename_i h
      rw [pm_is n _ _ _ m h2 (Nat.mod_lt _ (by omega)), up_odd rfl h]
    · rename_i h
      rw [pm_is n _ _ _ m h2 ho, up_even rfl h]
theorem pw_pm {a x m : Nat} (hx : x < 2 ^ 31) (hm : 1 < m) : pw a x m = pm 31 1 a x m := by rw [pm_is 31 1 a x m hx hm, Nat.one_mul]; rfl

/-! ### Fermat's little theorem -/
def ch : Nat → Nat → Nat
  | _, 0 => 1
  | 0, _ + 1 => 0
  | n + 1, k + 1 => ch n k + ch n (k + 1)
theorem ch_zero (n : Nat) : ch n 0 = 1 := by cases n <;> rfl
theorem ch_high : ∀ (n k : Nat), n < k → ch n k = 0
  | 0, k + 1, _ => rfl
  | n + 1, k + 1, h => by show ch n k + ch n (k + 1) = 0; rw [ch_high n k (by omega), ch_high n (k + 1) (by omega)]
theorem ch_self : ∀ n, ch n n = 1
  | 0 => rfl
  | n + 1 => by show ch n n + ch n (n + 1) = 1; rw [ch_self n, ch_high n (n + 1) (by omega)]
theorem ch_mul : ∀ (n k : Nat), ch (n + 1) (k + 1) * (k + 1) = (n + 1) * ch n k
  | 0, 0 => rfl
  | 0, k + 1 => by rw [ch_high 1 (k + 2) (by omega), ch_high 0 (k + 1) (by omega), Nat.zero_mul, Nat.mul_zero]
  | n + 1, 0 => by
    have h := ch_mul n 0
    show (ch (n + 1) 0 + ch (n + 1) 1) * 1 = (n + 2) * ch (n + 1) 0
    rw [ch_zero] at h ⊢
    rw [Nat.zero_add] at h
    omega
  | n + 1, k + 1 => by
    have h1 := ch_mul n k
    have h2 := ch_mul n (k + 1)
    show (ch (n + 1) (k + 1) + ch (n + 1) (k + 2)) * (k + 2) = (n + 2) * ch (n + 1) (k + 1)
    have e : ch (n + 1) (k + 1) = ch n k + ch n (k + 1) := rfl
    have e2 : (n + 1) * ch (n + 1) (k + 1) = (n + 1) * ch n k + (n + 1) * ch n (k + 1) := by rw [e, Nat.mul_add]
    rw [Nat.add_mul, h2, Nat.mul_succ, h1, Nat.succ_mul (n + 1), e2]
    omega
/-- The first m terms of (a + 1) ^ n. -/
def tm (a n : Nat) : Nat → Nat
  | 0 => 0
  | m + 1 => tm a n m + ch n m * a ^ m
theorem tm_next (a n : Nat) : ∀ m, tm a (n + 1) (m + 1) = a * tm a n m + tm a n (m + 1)
  | 0 => by simp [tm, ch_zero]
  | m + 1 => by
    have h := tm_next a n m
    have e1 : tm a (n + 1) (m + 2) = tm a (n + 1) (m + 1) + ch (n + 1) (m + 1) * a ^ (m + 1) := rfl
    have e2 : tm a n (m + 2) = tm a n (m + 1) + ch n (m + 1) * a ^ (m + 1) := rfl
    have e3 : a * tm a n (m + 1) = a * tm a n m + ch n m * a ^ (m + 1) := by
      show a * (tm a n m + ch n m * a ^ m) = _
      rw [Nat.mul_add, Nat.pow_succ, Nat.mul_left_comm, Nat.mul_comm a (a ^ m)]
    have e4 : ch (n + 1) (m + 1) = ch n m + ch n (m + 1) := rfl
    rw [e1, h, e2, e3, e4, Nat.add_mul]
    omega
theorem tm_pow (a : Nat) : ∀ n, (a + 1) ^ n = tm a n (n + 1)
  | 0 => by simp [tm, ch_zero]
  | n + 1 => by
    have e : tm a n (n + 2) = tm a n (n + 1) := by
      show tm a n (n + 1) + ch n (n + 1) * a ^ (n + 1) = _
      rw [ch_high n (n + 1) (by omega), Nat.zero_mul, Nat.add_zero]
    rw [Nat.pow_succ, tm_pow a n, tm_next, e, Nat.mul_add, Nat.mul_one, Nat.mul_comm]
/-- A prime number. -/
def Pr (q : Nat) : Prop := 1 < q ∧ ∀ d, 0 < d → d < q → Nat.Coprime q d
theorem ch_pr {q : Nat} (h : Pr q) {k : Nat} (h0 : 0 < k) (h1 : k < q) : ch q k % q = 0 := by
  obtain ⟨n, rfl⟩ : ∃ n, q = n + 1 := ⟨q - 1, by omega⟩
  obtain ⟨j, rfl⟩ : ∃ j, k = j + 1 := ⟨k - 1, by omega⟩
  have e := ch_mul n j
  have d : (n + 1) ∣ ch (n + 1) (j + 1) * (j + 1) := ⟨_, e⟩
  exact Nat.mod_eq_zero_of_dvd ((h.2 (j + 1) h0 h1).dvd_of_dvd_mul_right d)
theorem tm_pr {q : Nat} (h : Pr q) (a : Nat) : ∀ m, m < q → tm a q (m + 1) % q = 1
  | 0, _ => by
    show (0 + ch q 0 * a ^ 0) % q = 1
    rw [ch_zero, Nat.pow_zero, Nat.mul_one, Nat.zero_add]
    exact Nat.mod_eq_of_lt h.1
  | m + 1, hm => by
    show (tm a q (m + 1) + ch q (m + 1) * a ^ (m + 1)) % q = 1
    rw [Nat.add_mod, tm_pr h a m (by omega), Nat.mul_mod, ch_pr h (by omega) hm, Nat.zero_mul, Nat.zero_mod, Nat.add_zero]
    exact Nat.mod_eq_of_lt h.1
theorem fer {q : Nat} (h : Pr q) : ∀ a, a ^ q % q = a % q
  | 0 => by rw [Nat.zero_pow (by have := h.1; omega)]
  | a + 1 => by
    have hq := h.1
    have e : tm a q (q + 1) = tm a q (q - 1 + 1) + ch q q * a ^ q := by rw [show q - 1 + 1 = q by omega]; rfl
    rw [tm_pow, e, ch_self, Nat.one_mul, Nat.add_mod, tm_pr h a (q - 1) (by omega), fer h a, Nat.add_mod_mod, Nat.add_comm]
/-- Of what is no multiple of a prime q, the power q - 2 is what times it is 1. -/
theorem inv {q : Nat} (h : Pr q) (hq : 2 < q) {d : Nat} (h0 : 0 < d) (h1 : d < q) : d * d ^ (q - 2) % q = 1 := by
  have e := fer h d
  have e2 : d ^ q = d * (d * d ^ (q - 2)) := by
    conv => lhs; rw [show q = q - 2 + 1 + 1 by omega]
    rw [Nat.pow_succ, Nat.pow_succ, Nat.mul_comm _ d, Nat.mul_comm _ d]
  have e3 : (d * (d * d ^ (q - 2))) % q = (d * 1) % q := by rw [← e2, e, Nat.mul_one]
  have hc : Nat.Coprime q d := h.2 d h0 h1
  generalize d * d ^ (q - 2) = z at *
  have z0 : z ≠ 0 := by
    intro hz
    rw [hz, Nat.mul_zero, Nat.zero_mod, Nat.mul_one, Nat.mod_eq_of_lt h1] at e3
    omega
  have hdv : q ∣ d * (z - 1) := by
    rw [Nat.mul_sub]
    exact Nat.dvd_of_mod_eq_zero (Nat.sub_mod_eq_zero_of_mod_eq e3)
  have hz := Nat.mod_eq_zero_of_dvd (hc.dvd_of_dvd_mul_left hdv)
  have : z = z - 1 + 1 := by omega
  rw [this, Nat.add_mod, hz, Nat.zero_add, Nat.mod_mod, Nat.mod_eq_of_lt h.1]

/-! ### The prime Q -/
/-- None of the n numbers from k on divides q. -/
def nod (q k : Nat) : Nat → Bool
  | 0 => true
  | n + 1 => if q % k = 0 then false else nod q (k + 1) n
theorem nod_is {q : Nat} : ∀ (n k : Nat), nod q k n = true → ∀ d, k ≤ d → d < k + n → ¬ q % d = 0
  | 0, k, _, d, h0, h1 => by omega
  | n + 1, k, h, d, h0, h1 => by
    unfold nod at h
    split at h
    · cases h
    · rename_i hk
      by_cases e : d = k
      · rw [e]; exact hk
      · exact nod_is n (k + 1) h d (by omega) (by omega)
/-- None of the 256 n numbers from 2 on divides q. -/
def nods (q : Nat) : Nat → Bool
  | 0 => true
  | n + 1 => if nod q (2 + 256 * n) 256 then nods q n else false
theorem nods_is {q : Nat} : ∀ (n : Nat), nods q n = true → ∀ d, 2 ≤ d → d < 2 + 256 * n → ¬ q % d = 0
  | 0, _, d, h0, h1 => by omega
  | n + 1, h, d, h0, h1 => by
    unfold nods at h
    split at h
    · rename_i hk
      by_cases e : d < 2 + 256 * n
      · exact nods_is n h d h0 e
      · exact nod_is 256 _ hk d (Nat.le_of_not_lt e) (by rw [Nat.mul_succ, ← Nat.add_assoc] at h1; exact h1)
    · cases h
theorem pr_of {q b : Nat} (h1 : 1 < q) (hb : q < b * b) (h : ∀ d, 2 ≤ d → d < b → ¬ q % d = 0) : Pr q := by
  refine ⟨h1, fun d d0 d1 => ?_⟩
  have g0 : Nat.gcd q d ∣ q := Nat.gcd_dvd_left q d
  have g1 : Nat.gcd q d ≤ d := Nat.le_of_dvd d0 (Nat.gcd_dvd_right q d)
  obtain ⟨c, hc⟩ := g0
  show Nat.gcd q d = 1
  generalize Nat.gcd q d = g at *
  have hg : g ≠ 0 := by intro e; rw [e, Nat.zero_mul] at hc; omega
  have hc1 : 1 < c := by
    rcases Nat.lt_or_ge 1 c with h | h
    · exact h
    · have := Nat.mul_le_mul_left g h
      omega
  rcases Nat.lt_or_ge 1 g with k | k
  · exfalso
    rcases Nat.lt_or_ge g b with e | e
    · exact h g (by omega) e (by rw [hc, Nat.mul_mod_right])
    · rcases Nat.lt_or_ge c b with f | f
      · exact h c (by omega) f (by rw [hc, Nat.mul_mod_left])
      · have := Nat.mul_le_mul e f
        omega
  · omega
set_option maxRecDepth 100000 in
theorem q_pr : Pr 1073741789 := pr_of (b := 32770) (by omega) (by omega) (fun d h0 h1 => nods_is 128 (by decide +kernel) d h0 (by omega))
end Sg
end Go.Proofs.YtfnnmkadmpflhaaDoor
