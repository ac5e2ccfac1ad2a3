/-
  The answers of layer 1 as functions of the arguments, valid or not, and what the laws need of them.
-/
import Derived.Test.YtibjemalggjcgaaExactHead
namespace Go.Proofs.Ytibjemalggjcgaa
open Go.RowKit
namespace Ex

instance (a b : Int) : Decidable (Dv a b) := by unfold Dv; infer_instance
instance (n a b : Int) : Decidable (Sc n a b) := by unfold Sc; infer_instance
instance (n : Int) : Decidable (Sp n) := by unfold Sp; infer_instance

def FV (a b : Int) : Int := if Dv a b then fl a b else 0
def CV (a b : Int) : Int := if Dv a b then ce a b else 0
def DE (a b : Int) : Int := if Dv a b then 0 else 1
def In (n a b : Int) : Prop := Sp (fl (n * a) b) ∧ Sp (ce (n * a) b)
instance (n a b : Int) : Decidable (In n a b) := by unfold In; infer_instance
def SE (n a b : Int) : Int := if Sc n a b then (if In n a b then 0 else 3) else 1
def SL (n a b : Int) : Int := if SE n a b = 0 then fl (n * a) b else 0
def SH (n a b : Int) : Int := if SE n a b = 0 then ce (n * a) b else 0
def Rt (n : Int) : Prop := 0 ≤ n ∧ n ≤ 1000000000000000000
instance (n : Int) : Decidable (Rt n) := by unfold Rt; infer_instance
def RV (n : Int) : Int := if Rt n then isq n else 0
def RE (n : Int) : Int := if Rt n then 0 else 1

theorem se_ok {n a b : Int} (h : Sc n a b) (hi : In n a b) : SE n a b = 0 := by unfold SE; rw [if_pos h, if_pos hi]
theorem se_range {n a b : Int} (h : Sc n a b) (hi : ¬ In n a b) : SE n a b = 3 := by unfold SE; rw [if_pos h, if_neg hi]
theorem se_bad {n a b : Int} (h : ¬ Sc n a b) : SE n a b = 1 := by unfold SE; rw [if_neg h]
theorem se_zero {n a b : Int} (h : SE n a b = 0) : Sc n a b ∧ In n a b := by
  by_cases hs : Sc n a b
  · by_cases hi : In n a b
    · exact ⟨hs, hi⟩
    · rw [se_range hs hi] at h; omega
  · rw [se_bad hs] at h; omega
theorem sl_ok {n a b : Int} (h : SE n a b = 0) : SL n a b = fl (n * a) b := if_pos h
theorem sh_ok {n a b : Int} (h : SE n a b = 0) : SH n a b = ce (n * a) b := if_pos h

theorem scale_any (n a b : Int) (w : World) :
    Calls Try.prog 15 #[.int .i64 n, .int .i64 a, .int .i64 b] w fun e w' => e = .returned (.tuple #[.int .i64 (SL n a b), .int .i64 (SH n a b), .int .i64 (SE n a b)]) ∧ Grown w w' := by
  unfold SL SH
  by_cases h : Sc n a b
  · by_cases hi : In n a b
    · rw [se_ok h hi, if_pos rfl, if_pos rfl]; exact scale_ok n a b w h hi.1 hi.2
    · rw [se_range h hi, if_neg (by omega), if_neg (by omega)]; exact scale_range n a b w h hi
  · rw [se_bad h, if_neg (by omega), if_neg (by omega)]; exact scale_bad n a b w h
theorem refScale_any (n a b : Int) (w : World) :
    Calls Try.prog 16 #[.int .i64 n, .int .i64 a, .int .i64 b] w fun e w' => e = .returned (.tuple #[.int .i64 (SL n a b), .int .i64 (SH n a b), .int .i64 (SE n a b)]) ∧ w = w' := by
  unfold SL SH
  by_cases h : Sc n a b
  · by_cases hi : In n a b
    · rw [se_ok h hi, if_pos rfl, if_pos rfl]; exact refScale_ok n a b w h hi.1 hi.2
    · rw [se_range h hi, if_neg (by omega), if_neg (by omega)]; exact refScale_range n a b w h hi
  · rw [se_bad h, if_neg (by omega), if_neg (by omega)]; exact refScale_bad n a b w h
theorem floor_any (a b : Int) (w : World) :
    Calls Try.prog 11 #[.int .i64 a, .int .i64 b] w fun e w' => e = .returned (.tuple #[.int .i64 (FV a b), .int .i64 (DE a b)]) ∧ Grown w w' := by
  unfold FV DE
  by_cases h : Dv a b
  · rw [if_pos h, if_pos h]; exact floor_ok a b w h
  · rw [if_neg h, if_neg h]; exact floor_bad a b w h
theorem refFloor_any (a b : Int) (w : World) :
    Calls Try.prog 12 #[.int .i64 a, .int .i64 b] w fun e w' => e = .returned (.tuple #[.int .i64 (FV a b), .int .i64 (DE a b)]) ∧ w = w' := by
  unfold FV DE
  by_cases h : Dv a b
  · rw [if_pos h, if_pos h]; exact refFloor_ok a b w h
  · rw [if_neg h, if_neg h]; exact refFloor_bad a b w h
theorem ceil_any (a b : Int) (w : World) :
    Calls Try.prog 13 #[.int .i64 a, .int .i64 b] w fun e w' => e = .returned (.tuple #[.int .i64 (CV a b), .int .i64 (DE a b)]) ∧ Grown w w' := by
  unfold CV DE
  by_cases h : Dv a b
  · rw [if_pos h, if_pos h]; exact ceil_ok a b w h
  · rw [if_neg h, if_neg h]; exact ceil_bad a b w h
theorem refCeil_any (a b : Int) (w : World) :
    Calls Try.prog 14 #[.int .i64 a, .int .i64 b] w fun e w' => e = .returned (.tuple #[.int .i64 (CV a b), .int .i64 (DE a b)]) ∧ w = w' := by
  unfold CV DE
  by_cases h : Dv a b
  · rw [if_pos h, if_pos h]; exact refCeil_ok a b w h
  · rw [if_neg h, if_neg h]; exact refCeil_bad a b w h
theorem root_any (n : Int) (w : World) :
    Calls Try.prog 17 #[.int .i64 n] w fun e w' => e = .returned (.tuple #[.int .i64 (RV n), .int .i64 (RE n)]) ∧ Grown w w' := by
  unfold RV RE
  by_cases h : Rt n
  · rw [if_pos h, if_pos h]; exact root_ok n w h.1 h.2
  · rw [if_neg h, if_neg h]; exact root_bad n w (by unfold Rt at h; omega)
theorem refRoot_any (n : Int) (w : World) :
    Calls Try.prog 18 #[.int .i64 n] w fun e w' => e = .returned (.tuple #[.int .i64 (RV n), .int .i64 (RE n)]) ∧ w = w' := by
  unfold RV RE
  by_cases h : Rt n
  · rw [if_pos h, if_pos h]; exact refRoot_ok n w h.1 h.2
  · rw [if_neg h, if_neg h]; exact refRoot_bad n w (by unfold Rt at h; omega)

/-! ### Facts of quotients -/
theorem between (a : Int) {b : Int} (hb : 0 < b) : fl a b * b ≤ a ∧ a ≤ ce a b * b ∧ a - fl a b * b < b ∧ ce a b * b - a < b := by
  obtain ⟨h1, h2⟩ := fl_spec a hb
  obtain ⟨h3, h4⟩ := ce_spec a hb
  rw [Int.mul_comm (fl a b), Int.mul_comm (ce a b)]; omega
theorem whole_iff (a b : Int) (hb : b ≠ 0) : fl a b = ce a b ↔ a.tmod b = 0 := by
  by_cases h0 : a.tmod b = 0
  · obtain ⟨e1, e2⟩ := fl_whole hb h0; rw [e1, e2]; simp [h0]
  · by_cases hs : (a.tmod b < 0) ↔ (b < 0)
    · obtain ⟨e1, e2⟩ := fl_above hb h0 hs; omega
    · obtain ⟨e1, e2⟩ := fl_below hb h0 hs; omega
theorem whole_beq (a b : Int) (hb : b ≠ 0) : ((fl a b == ce a b) == (a.tmod b == 0)) = true := by
  have := whole_iff a b hb
  by_cases h : a.tmod b = 0
  · simp [h, this.2 h]
  · have h2 : ¬ fl a b = ce a b := fun e => h (this.1 e)
    rw [beq_eq_false_iff_ne.2 h2, beq_eq_false_iff_ne.2 h]; rfl
theorem ce_neg (a b : Int) : ce (-a) b = -(fl a b) := by unfold ce; rw [Int.neg_neg]
theorem ce_neg' (a b : Int) (hb : b ≠ 0) : ce a (-b) = -(fl a b) := by
  have h := ce_neg_neg (-a) b hb
  rw [Int.neg_neg] at h
  rw [h, ce_neg]
theorem fl_mono {a c b : Int} (hb : 0 < b) (h : a ≤ c) : fl a b ≤ fl c b := by
  obtain ⟨h1, _⟩ := fl_spec a hb
  obtain ⟨_, h4⟩ := fl_spec c hb
  by_cases hlt : fl c b < fl a b
  · have h5 : b * (fl c b + 1) ≤ b * fl a b := Int.mul_le_mul_of_nonneg_left (by omega) (by omega)
    rw [Int.mul_add, Int.mul_one] at h5; omega
  · omega
theorem ce_mono {a c b : Int} (hb : 0 < b) (h : a ≤ c) : ce a b ≤ ce c b := by
  have := fl_mono hb (show -c ≤ -a by omega)
  unfold ce; omega
theorem fl_le_ce (a : Int) {b : Int} (hb : 0 < b) : fl a b ≤ ce a b := by
  obtain ⟨h1, _⟩ := fl_spec a hb
  obtain ⟨h3, _⟩ := ce_spec a hb
  by_cases hlt : ce a b < fl a b
  · have h5 : b * (ce a b + 1) ≤ b * fl a b := Int.mul_le_mul_of_nonneg_left (by omega) (by omega)
    rw [Int.mul_add, Int.mul_one] at h5; omega
  · omega
/-- From b times x to x. -/
theorem le_of_mul {b x y : Int} (hb : 0 < b) (h : b * x < b * y + b) : x ≤ y := by
  by_cases hlt : y < x
  · have h5 : b * (y + 1) ≤ b * x := Int.mul_le_mul_of_nonneg_left (by omega) (by omega)
    rw [Int.mul_add, Int.mul_one] at h5; omega
  · omega
theorem fl_sum (x y : Int) {b : Int} (hb : 0 < b) : fl x b + fl y b ≤ fl (x + y) b ∧ fl (x + y) b ≤ fl x b + fl y b + 1 := by
  obtain ⟨a1, a2⟩ := fl_spec x hb
  obtain ⟨b1, b2⟩ := fl_spec y hb
  obtain ⟨c1, c2⟩ := fl_spec (x + y) hb
  constructor
  · exact le_of_mul hb (by rw [Int.mul_add]; omega)
  · exact le_of_mul hb (by rw [Int.mul_add, Int.mul_add, Int.mul_one]; omega)
theorem ce_sum (x y : Int) {b : Int} (hb : 0 < b) : ce (x + y) b ≤ ce x b + ce y b ∧ ce x b + ce y b - 1 ≤ ce (x + y) b := by
  have h := fl_sum (-x) (-y) hb
  rw [← Int.neg_add] at h
  unfold ce; omega
end Ex
end Go.Proofs.Ytibjemalggjcgaa
