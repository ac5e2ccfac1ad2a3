/-
  Plain numbers of layer 14: how far a clock goes wrong, the ends of the span of the true time, where they reach a time.
-/
import Derived.Test.YtndabfpinkakbaaSpanCodeD
namespace Go.Proofs.Ytndabfpinkakbaa
namespace Ck
open Sn

/-! ### Clocks -/
def Rd (r : Int) : Prop := 0 ≤ r ∧ r ≤ 1000000000
instance (r : Int) : Decidable (Rd r) := by unfold Rd; infer_instance
def Of (l h : Int) : Prop := -1000000 ≤ l ∧ l ≤ h ∧ h ≤ 1000000
instance (l h : Int) : Decidable (Of l h) := by unfold Of; infer_instance
def Df (d : Int) : Prop := 0 ≤ d ∧ d ≤ 1000
instance (d : Int) : Decidable (Df d) := by unfold Df; infer_instance
def Cv (a l h d : Int) : Prop := Rd a ∧ Of l h ∧ Df d
instance (a l h d : Int) : Decidable (Cv a l h d) := by unfold Cv; infer_instance

/-! ### How far it goes wrong -/
def ds (a r : Int) : Int := mx (r - a) (a - r)
def wg (a d r : Int) : Int := (d * ds a r + 999999) / 1000000
def tl (a l d r : Int) : Int := l + (r - wg a d r)
def th (a h d r : Int) : Int := h + (r + wg a d r)
theorem ds_max (a r : Int) : ds a r = max (r - a) (a - r) := mx_max _ _
theorem ds_bd {a r : Int} (ha : Rd a) (hr : Rd r) : 0 ≤ ds a r ∧ ds a r ≤ 1000000000 := by
  rw [ds_max]
  unfold Rd at *
  omega
theorem dd_bd {a d r : Int} (ha : Rd a) (hd : Df d) (hr : Rd r) : 0 ≤ d * ds a r ∧ d * ds a r ≤ 1000000000000 := by
  obtain ⟨h0, h1⟩ := ds_bd ha hr
  obtain ⟨d0, d1⟩ := hd
  have k : d * ds a r ≤ 1000 * 1000000000 := Int.mul_le_mul d1 h1 h0 (by omega)
  exact ⟨Int.mul_nonneg d0 h0, by omega⟩
theorem wg_bd {a d r : Int} (ha : Rd a) (hd : Df d) (hr : Rd r) : 0 ≤ wg a d r ∧ wg a d r ≤ 1000000 := by
  obtain ⟨h0, h1⟩ := dd_bd ha hd hr
  unfold wg
  omega
theorem wg_self (a d : Int) : wg a d a = 0 := by
  have : ds a a = 0 := by rw [ds_max]; omega
  unfold wg
  rw [this]
  omega
/-- From a reading to a later one it changes by no more than is gone by. -/
theorem wg_step {a d r r' : Int} (hd : Df d) (h : r ≤ r') : wg a d r' ≤ wg a d r + (r' - r) ∧ wg a d r ≤ wg a d r' + (r' - r) := by
  obtain ⟨d0, d1⟩ := hd
  have e1 : ds a r' ≤ ds a r + (r' - r) := by rw [ds_max, ds_max]; omega
  have e2 : ds a r ≤ ds a r' + (r' - r) := by rw [ds_max, ds_max]; omega
  have m1 := Int.mul_le_mul_of_nonneg_left e1 d0
  have m2 := Int.mul_le_mul_of_nonneg_left e2 d0
  have m3 : d * (r' - r) ≤ 1000 * (r' - r) := Int.mul_le_mul_of_nonneg_right d1 (by omega)
  rw [Int.mul_add] at m1 m2
  unfold wg
  omega
theorem wg_less {a d d' r : Int} (ha : Rd a) (hr : Rd r) (h : d ≤ d') : wg a d r ≤ wg a d' r := by
  have m := Int.mul_le_mul_of_nonneg_right h (ds_bd ha hr).1
  unfold wg
  omega
theorem tl_mono {a l d r r' : Int} (hd : Df d) (h : r ≤ r') : tl a l d r ≤ tl a l d r' := by
  have := (wg_step (a := a) hd h).1
  unfold tl
  omega
theorem th_mono {a k d r r' : Int} (hd : Df d) (h : r ≤ r') : th a k d r ≤ th a k d r' := by
  have := (wg_step (a := a) hd h).2
  unfold th
  omega
theorem t_bd {a l h d r : Int} (hc : Cv a l h d) (hr : Rd r) : -2000000 ≤ tl a l d r ∧ tl a l d r ≤ th a h d r ∧ th a h d r ≤ 1002000000 := by
  obtain ⟨ha, ho, hd⟩ := hc
  obtain ⟨w0, w1⟩ := wg_bd ha hd hr
  unfold tl th
  unfold Of Rd at *
  omega
theorem t_vd {a l h d r : Int} (hc : Cv a l h d) (hr : Rd r) : Vd (tl a l d r) (th a h d r) := by
  obtain ⟨h0, h1, h2⟩ := t_bd hc hr
  exact ⟨by omega, h1, by omega⟩

/-! ### Where something that never falls reaches a value -/
def Ct (f : Nat → Int) (t : Int) (k : Nat) : Prop := k ≤ 1000000001 ∧ (∀ i, i < k → f i < t) ∧ ∀ i, k ≤ i → i < 1000000001 → t ≤ f i
theorem bound_mono (n : Nat) (d : Nat → Bool) (h : ∀ i j, i ≤ j → j < n → d i = true → d j = true) : ∃ k, k ≤ n ∧ (∀ i, i < k → d i = false) ∧ ∀ i, k ≤ i → i < n → d i = true := by
  induction n with
  | zero => exact ⟨0, Nat.le_refl _, fun i hi => absurd hi (Nat.not_lt_zero i), fun i _ hi => absurd hi (Nat.not_lt_zero i)⟩
  | succ n ih =>
    obtain ⟨k, hk, h0, h1⟩ := ih (fun i j a b c => h i j a (by omega) c)
    by_cases e : k = n
    · cases hd : d n with
      | false => exact ⟨n + 1, Nat.le_refl _, fun i hi => by
          by_cases e2 : i = n
          · rw [e2]; exact hd
          · exact h0 i (by omega), fun i h2 h3 => by omega⟩
      | true => exact ⟨n, by omega, fun i hi => h0 i (by omega), fun i h2 h3 => by
          obtain rfl : i = n := by omega
          exact hd⟩
    · exact ⟨k, by omega, h0, fun i h2 h3 => by
        by_cases e2 : i = n
        · rw [e2]; exact h (n - 1) n (by omega) (by omega) (h1 (n - 1) (by omega) (by omega))
        · exact h1 i h2 (by omega)⟩
theorem ct_of (n : Nat) (hn : n = 1000000001) (f : Nat → Int) (t : Int) (hf : ∀ i j, i ≤ j → f i ≤ f j) : ∃ k, Ct f t k := by
  obtain ⟨k, hk, h0, h1⟩ := bound_mono n (fun i => decide (t ≤ f i)) (fun i j hij _ h => by
    simp only [decide_eq_true_eq] at h ⊢
    have := hf i j hij
    omega)
  refine ⟨k, by omega, fun i hi => ?_, fun i h2 h3 => ?_⟩
  · have := h0 i hi
    simp only [decide_eq_false_iff_not] at this
    omega
  · have := h1 i h2 (by omega)
    simpa using this
theorem ct_some (f : Nat → Int) (t : Int) (hf : ∀ i j, i ≤ j → f i ≤ f j) : ∃ k, Ct f t k := ct_of _ rfl f t hf
/-- The first reading at which the true time can be at least a time; the first one at which it must be more than one. -/
def Fi (a h d t : Int) (k : Nat) : Prop := Ct (fun i => th a h d i) t k
def La (a l d t : Int) (k : Nat) : Prop := Ct (fun i => tl a l d i) (t + 1) k
theorem fi_some (a h t : Int) {d : Int} (hd : Df d) : ∃ k, Fi a h d t k := ct_some _ _ (fun _ _ h => th_mono hd (by omega))
theorem la_some (a l t : Int) {d : Int} (hd : Df d) : ∃ k, La a l d t k := ct_some _ _ (fun _ _ h => tl_mono hd (by omega))
/-- A reading is between both exactly if the time is in the span at it. -/
theorem fi_la {a l h d t r : Int} {k j : Nat} (hk : Fi a h d t k) (hj : La a l d t j) (hr : Rd r) : ((k : Int) ≤ r ∧ r ≤ (j : Int) - 1) ↔ (tl a l d r ≤ t ∧ t ≤ th a h d r) := by
  obtain ⟨r0, r1⟩ := hr
  obtain ⟨n, rfl⟩ := Int.eq_ofNat_of_zero_le r0
  obtain ⟨_, k1, k2⟩ := hk
  obtain ⟨_, j1, j2⟩ := hj
  constructor
  · rintro ⟨x, y⟩
    have p := k2 n (by omega) (by omega)
    have q := j1 n (by omega)
    exact ⟨by have q' : tl a l d n < t + 1 := q; omega, p⟩
  · rintro ⟨x, y⟩
    constructor
    · by_cases c : (k : Int) ≤ n
      · exact c
      · have p : th a h d n < t := k1 n (by omega)
        omega
    · by_cases c : (n : Int) ≤ (j : Int) - 1
      · exact c
      · have p : t + 1 ≤ tl a l d n := j2 n (by omega) (by omega)
        omega

/-! ### What follows from a place in the span -/
def nr (n most : Int) : Int := n % (2 * most + 1) - most
theorem nr_bd (n : Int) {m : Int} (h : 0 ≤ m) : -m ≤ nr n m ∧ nr n m ≤ m := by
  unfold nr
  have h1 := Int.emod_nonneg n (b := 2 * m + 1) (by omega)
  have h2 := Int.emod_lt_of_pos n (b := 2 * m + 1) (by omega)
  omega
def ms (d a r : Int) : Int := d * ds a r / 1000000
theorem ms_bd {a d r : Int} (ha : Rd a) (hd : Df d) (hr : Rd r) : 0 ≤ ms d a r ∧ ms d a r ≤ 1000000 ∧ ms d a r ≤ wg a d r := by
  obtain ⟨h0, h1⟩ := dd_bd ha hd hr
  unfold ms wg
  omega
/-- The true time of a clock that was off by something in its offset is in its span. -/
theorem true_in {a l h d r f : Int} (by' : Int) (hc : Cv a l h d) (hr : Rd r) (h0 : l ≤ f) (h1 : f ≤ h) : tl a l d r ≤ r + f + nr by' (ms d a r) ∧ r + f + nr by' (ms d a r) ≤ th a h d r := by
  obtain ⟨m0, _, m2⟩ := ms_bd hc.1 hc.2.2 hr
  obtain ⟨n0, n1⟩ := nr_bd by' m0
  unfold tl th
  omega

/-! ### What was seen -/
/-- The ends of the meeting of the span at a reading with what was seen. -/
def ml (a l d r x : Int) : Int := mx (tl a l d r) x
def mh (a h d r y : Int) : Int := mn (th a h d r) y
end Ck
end Go.Proofs.Ytndabfpinkakbaa
