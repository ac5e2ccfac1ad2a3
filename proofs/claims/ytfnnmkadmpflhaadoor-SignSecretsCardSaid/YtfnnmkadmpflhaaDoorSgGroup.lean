/-
  Plain facts of the group of a number modulo P: powers of powers, right signatures, what two signatures with one number show, and that powers of G are different. No program.
-/
import Derived.Test.YtfnnmkadmpflhaaDoorSgPlain
namespace Go.Proofs.YtfnnmkadmpflhaaDoor
namespace Sg

/-- Powers of an element are elements. -/
theorem mem_pow {a q p : Nat} (hp : 1 < p) (h : pw a q p = 1) (x : Nat) : pw (pw a x p) q p = 1 := by
  rw [pw_pw, Nat.mul_comm, ← pw_pw, h, pw_one hp]
theorem pw_mul {a q p : Nat} (hp : 1 < p) (h : pw a q p = 1) (t : Nat) : pw a (q * t) p = 1 := by rw [← pw_pw, h, pw_one hp]
theorem pw_more {a q p : Nat} (hp : 1 < p) (h : pw a q p = 1) (x t : Nat) : pw a (x + q * t) p = pw a x p := by
  rw [pw_add, pw_mul hp h, Nat.mul_one]
  exact Nat.mod_eq_of_lt (pw_lt _ _ (by omega))
/-- The exponent counts modulo q. -/
theorem pw_modq {a q p : Nat} (hp : 1 < p) (h : pw a q p = 1) (x : Nat) : pw a (x % q) p = pw a x p := by
  conv => rhs; rw [← Nat.mod_add_div x q]
  rw [pw_more hp h]
theorem exp_exp {a q p : Nat} (hp : 1 < p) (h : pw a q p = 1) (x y : Nat) : pw (pw a x p) y p = pw a (x * y % q) p := by
  rw [pw_modq hp h, pw_pw]
/-- What Verify gets back of a signature that was made with o by the secret s. -/
theorem back {g q p : Nat} (hp : 1 < p) (hg : pw g q p = 1) (o s E : Nat) (hE : E < q) : pw g ((o + E * s) % q) p * pw (pw g s p) ((q - E) % q) p % p = pw g o p := by
  rw [pw_modq hp hg, pw_modq hp (mem_pow hp hg s), pw_pw, ← pw_add]
  have e : o + E * s + s * (q - E) = o + q * s := by
    rw [Nat.mul_sub, Nat.mul_comm E s, Nat.mul_comm q s]
    have : s * E ≤ s * q := Nat.mul_le_mul_left s (by omega)
    omega
  rw [e, pw_more hp hg]
/-- Two signatures with one number and different challenges show the secret. -/
theorem once {q : Nat} (hq : Pr q) (h2 : 2 < q) {o s E F : Nat} (hs : s < q) (hE : E < q) (hF : F < q) (hn : E ≠ F) :
    ((o + E * s) % q + q - (o + F * s) % q) % q * pw ((E + q - F) % q) (q - 2) q % q = s := by
  have hS := Nat.mod_lt (o + E * s) (show q > 0 by omega)
  have hT := Nat.mod_lt (o + F * s) (show q > 0 by omega)
  have eS := Nat.mod_add_div (o + E * s) q
  have eT := Nat.mod_add_div (o + F * s) q
  have eD := Nat.mod_add_div (E + q - F) q
  have hD := Nat.mod_lt (E + q - F) (show q > 0 by omega)
  have hD0 : (E + q - F) % q ≠ 0 := by
    intro e
    rcases Nat.lt_or_ge (E + q - F) q with k | k
    · rw [Nat.mod_eq_of_lt k] at e; omega
    · rw [Nat.mod_eq_sub_mod k, Nat.mod_eq_of_lt (by omega)] at e; omega
  generalize (E + q - F) % q = d at *
  generalize (o + E * s) % q = S at *
  generalize (o + F * s) % q = T at *
  generalize (o + E * s) / q = x at *
  generalize (o + F * s) / q = y at *
  generalize (E + q - F) / q = z at *
  have key : (S + q - T) % q = d * s % q := by
    have e1 : (((S + q - T : Nat) : Int)) = (d : Int) * s + q * (z * s - s + 1 - x + y) := by
      have a1 : (S : Int) = o + E * s - q * x := by have := congrArg Int.ofNat eS; simp at this; omega
      have a2 : (T : Int) = o + F * s - q * y := by have := congrArg Int.ofNat eT; simp at this; omega
      have a3 : (E : Int) = d + q * z - q + F := by have := congrArg Int.ofNat eD; simp at this; omega
      have a4 : (((S + q - T : Nat) : Int)) = S + q - T := by omega
      rw [a4, a1, a2, a3]
      grind
    have e2 : (((S + q - T) % q : Nat) : Int) = ((d * s % q : Nat) : Int) := by
      rw [Int.natCast_emod, Int.natCast_emod, e1, Int.add_mul_emod_self_left, Int.natCast_mul]
    exact Int.ofNat.inj e2
  rw [key, pw_def, ← Nat.mul_mod, Nat.mul_comm d s, Nat.mul_assoc, Nat.mul_mod, inv hq h2 (Nat.pos_of_ne_zero hD0) hD, Nat.mul_one, Nat.mod_mod, Nat.mod_eq_of_lt hs]
/-- Powers of g with different exponents are different. -/
theorem differ_lt {g q p : Nat} (hp : 1 < p) (hq : Pr q) (h2 : 2 < q) (hg : pw g q p = 1) (h1 : pw g 1 p ≠ 1) {x y : Nat} (hxy : x < y) (hy : y < q) : pw g x p ≠ pw g y p := by
  intro e
  have e1 : pw g (q - x) p * pw g x p % p = pw g (q - x) p * pw g y p % p := by rw [e]
  rw [← pw_add, ← pw_add, show q - x + x = 0 + q * 1 by omega, show q - x + y = (y - x) + q * 1 by omega, pw_more hp hg, pw_more hp hg, pw_zero g hp] at e1
  have d0 : 0 < y - x := by omega
  have d1 : y - x < q := by omega
  generalize y - x = d at *
  have i := inv hq h2 d0 d1
  have c := Nat.mod_add_div (d * d ^ (q - 2)) q
  rw [i] at c
  apply h1
  rw [← pw_more hp hg 1 (d * d ^ (q - 2) / q), c, ← pw_pw, ← e1, pw_one hp]
theorem differ {g q p : Nat} (hp : 1 < p) (hq : Pr q) (h2 : 2 < q) (hg : pw g q p = 1) (h1 : pw g 1 p ≠ 1) {x y : Nat} (hx : x < q) (hy : y < q) : pw g x p = pw g y p ↔ x = y := by
  refine ⟨fun e => ?_, fun e => by rw [e]⟩
  rcases Nat.lt_trichotomy x y with h | h | h
  · exact absurd e (differ_lt hp hq h2 hg h1 h hy)
  · exact h
  · exact absurd e.symm (differ_lt hp hq h2 hg h1 h hx)

/-! ### The group of the program -/
theorem g_in : pw 4 1073741789 2147483579 = 1 := by rw [pw_pm (by omega) (by omega)]; decide +kernel
theorem g_one : pw 4 1 2147483579 ≠ 1 := by rw [pw_pm (by omega) (by omega)]; decide +kernel
theorem nine_in : pw 9 1073741789 2147483579 = 1 := by rw [pw_pm (by omega) (by omega)]; decide +kernel
theorem two_out : pw 2 1073741789 2147483579 ≠ 1 := by rw [pw_pm (by omega) (by omega)]; decide +kernel
theorem g_three : pw 4 3 2147483579 = 64 := by rw [pw_pm (by omega) (by omega)]; decide +kernel
theorem g_five : pw 4 5 2147483579 = 1024 := by rw [pw_pm (by omega) (by omega)]; decide +kernel
end Sg
end Go.Proofs.YtfnnmkadmpflhaaDoor
