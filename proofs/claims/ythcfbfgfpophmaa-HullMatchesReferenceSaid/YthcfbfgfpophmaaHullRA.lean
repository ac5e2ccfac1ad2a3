/-
  The reference's Area.
-/
import Derived.Test.YthcfbfgfpophmaaHullRH
import Derived.Test.YthcfbfgfpophmaaHullLawAreas
namespace Go.Proofs.Ythcfbfgfpophmaa
open Go.RowKit
namespace Hl
def gF (p : List Pt) (i : Nat) : Int := cr (at' p 0) (at' p (i + 1)) (at' p (i + 2))
theorem fan_bd {p : List Pt} (h : Vl p) : ∀ k, k ≤ p.length - 2 → -128000000000000 ≤ sumN (gF p) k ∧ sumN (gF p) k ≤ 128000000000000 := by
  have key : ∀ k, k ≤ p.length - 2 → -(2000000000000 * (k : Int)) ≤ sumN (gF p) k ∧ sumN (gF p) k ≤ 2000000000000 * (k : Int) := by
    intro k
    induction k with
    | zero => intro _; simp [sumN]
    | succ k ih =>
      intro hk
      obtain ⟨a, b⟩ := ih (by omega)
      have e : sumN (gF p) (k + 1) = sumN (gF p) k + gF p k := rfl
      have := cr_abs (h.2.1 0 (by omega)) (h.2.1 (k + 1) (by omega)) (h.2.1 (k + 2) (by omega))
      rw [e]
      unfold gF at a b ⊢
      omega
  intro k hk
  obtain ⟨a, b⟩ := key k hk
  have := h.1.2
  omega
set_option maxRecDepth 100000 in
set_option maxHeartbeats 2000000 in
theorem r_area_ok (p : List Pt) (v : Value) (w : World) (hs : Sl w v p) (hv : Vl p) : Calls Try.prog 24 #[v] w fun e w' => e = .returned (.tuple #[.int .i64 (area p.length (at' p)), .int .i64 0]) ∧ Grew w w' := by
  obtain ⟨b, o, c, rfl, hr⟩ := hs.row (fun e => by rw [e] at hv; exact absurd hv.1.1 (by decide))
  have V := Lib.hid hv
  have HR := Lib.hid hr
  have P64 : Hid (p.length ≤ 80) := Lib.hid (by have := hv.1.2; omega)
  have l64 : (p.length : Int) ≤ 64 := by have := hv.1.2; omega
  have l1 : (1 : Int) ≤ (p.length : Int) := by have := hv.1.1; omega
  have AR : Hid (area p.length (at' p) = sumN (gF p) (p.length - 2)) := Lib.hid rfl
  clear hs hv hr
  go_enter Try.func24, Try.ntmps24
  go_wp2_with fail
  refine (rvalid_yes p _ _ (Sl.of (c := c) HR.out) P64.out V.out).mono ?_
  rintro e w1 ⟨rfl, G1⟩
  go_wp2_with fail
  go_loopw [4, 5] (fun s i wr => ∃ k : Nat, k ≤ p.length - 2 ∧ i = .int .i64 ((k : Int) + 1) ∧ s = .int .i64 (sumN (gF p) k) ∧ Grew w wr) (fun _ i _ => p.length - (intOf i).toNat)
  case atStart => exact ⟨0, Nat.zero_le _, rfl, rfl, G1⟩
  case round =>
    clear G1
    obtain ⟨k, hk, rfl, rfl, G⟩ := hrel
    obtain ⟨t0, t1⟩ := fan_bd V.out k hk
    by_cases hlt : k + 2 < p.length
    · have E : Hid (sumN (gF p) (k + 1) = sumN (gF p) k + cr (at' p 0) (at' p (k + 1)) (at' p (k + 2))) := Lib.hid rfl
      obtain ⟨s0, s1⟩ := (HR.out.grown G).2 0 (by omega)
      rw [Nat.zero_mul, Nat.add_zero] at s0 s1
      obtain ⟨s2, s3⟩ := (HR.out.grown G).2 (k + 1) (by omega)
      obtain ⟨s4, s5⟩ := (HR.out.grown G).2 (k + 2) (by omega)
      have hb := (HR.out.grown G).1
      have hb1 : b < wr.heap.size + 1 := by omega
      have hb2 : b < wr.heap.size + 1 + 1 := by omega
      have e1 : ((k : Int) + 1).toNat = k + 1 := by omega
      have e2 : ((k : Int) + 1 + 1).toNat = k + 2 := by omega
      have i0 : (0 : Int) < (p.length : Int) := by omega
      have i5 : 0 < p.length := by omega
      have i1 : (0 : Int) ≤ (k : Int) + 1 := by omega
      have i2 : (k : Int) + 1 < (p.length : Int) := by omega
      have i3 : (0 : Int) ≤ (k : Int) + 1 + 1 := by omega
      have i4 : (k : Int) + 1 + 1 < (p.length : Int) := by omega
      obtain ⟨c0, c1⟩ := cr_abs (V.out.2.1 0 (by omega)) (V.out.2.1 (k + 1) (by omega)) (V.out.2.1 (k + 2) (by omega))
      obtain ⟨t, ht⟩ : ∃ t, sumN (gF p) k = t := ⟨_, rfl⟩
      obtain ⟨z, hz⟩ : ∃ z, cr (at' p 0) (at' p (k + 1)) (at' p (k + 2)) = z := ⟨_, rfl⟩
      have CX : Hid (∀ w, Calls Try.prog 29 #[.agg #[.int .i64 (at' p 0).1, .int .i64 (at' p 0).2], .agg #[.int .i64 (at' p (k + 1)).1, .int .i64 (at' p (k + 1)).2], .agg #[.int .i64 (at' p (k + 2)).1, .int .i64 (at' p (k + 2)).2]] w fun e w' => e = .returned (.int .i64 z) ∧ ((w.alloc (.cells #[.int .i64 (at' p 0).1, .int .i64 (at' p 0).2] 24)).alloc (.cells #[.int .i64 (at' p (k + 1)).1, .int .i64 (at' p (k + 1)).2] 24)).alloc (.cells #[.int .i64 (at' p (k + 2)).1, .int .i64 (at' p (k + 2)).2] 24) = w') := Lib.hid (fun w => by rw [← hz]; exact cross_x _ _ _ w (V.out.2.1 0 (by omega)) (V.out.2.1 (k + 1) (by omega)) (V.out.2.1 (k + 2) (by omega)))
      rw [ht] at t0 t1 E ⊢
      rw [hz] at c0 c1 E
      clear ht hz
      have WS : IntKind.i64.wrap (t + z) = t + z := IntWalk.i64_in _ ⟨by omega, by omega⟩
      have WK : IntKind.i64.wrap ((k : Int) + 1 + 1) = (k : Int) + 1 + 1 := IntWalk.i64_in _ ⟨by omega, by omega⟩
      go_wp2_with fail
      go_region_held3 (fun w' => w'.cell? ⟨b, o, none⟩ = some (.int .i64 (at' p 0).1) ∧ w'.cell? ⟨b, o + 1, none⟩ = some (.int .i64 (at' p 0).2) ∧ w'.cell? ⟨b, o + (k + 1) * 2, none⟩ = some (.int .i64 (at' p (k + 1)).1) ∧ w'.cell? ⟨b, o + (k + 1) * 2 + 1, none⟩ = some (.int .i64 (at' p (k + 1)).2) ∧ w'.cell? ⟨b, o + (k + 2) * 2, none⟩ = some (.int .i64 (at' p (k + 2)).1) ∧ w'.cell? ⟨b, o + (k + 2) * 2 + 1, none⟩ = some (.int .i64 (at' p (k + 2)).2)) (simp [go_sem, hb, hb1, hb2, s0, s1, s2, s3, s4, s5])
        (first | (go_at_call 29; refine (CX.out _).mono ?_; rintro e w' ⟨rfl, rfl⟩))
      clear WS WK e1 e2
      go_wp2_with fail
      go_roundw
      case rel => exact ⟨k + 1, by omega, by go_num, by rw [E.out], by (repeat' (first | (with_reducible exact Grew.refl _) | (with_reducible assumption) | (with_reducible refine Grew.alloc ?_ _ _) | (with_reducible refine Grew.drew ?_) | (with_reducible refine Grew.drewN ?_ _) | (with_reducible refine Grew.setCell ?_ ?_ _) | go_size))⟩
      case measure => simp [intOf]; omega
    · have ek : k = p.length - 2 := by omega
      subst ek
      have x1 : (p.length : Int) ≤ ((p.length - 2 : Nat) : Int) + 1 + 1 := by omega
      go_wp2_with fail
      go_ret2
      exact ⟨by rw [AR.out]; rfl, G⟩
theorem r_area_bad (p : List Pt) (v : Value) (w : World) (hs : Sl w v p) (h2 : p.length ≤ 9223372036854775807) (hv : ¬ Vl p) : Calls Try.prog 24 #[v] w fun e w' => e = .returned (.tuple #[.int .i64 0, .int .i64 1]) ∧ Grew w w' := by
  have V := Lib.hid hv
  have HS := Lib.hid hs
  have L2 := Lib.hid h2
  clear hs hv h2
  go_enter Try.func24, Try.ntmps24
  go_wp2_with fail
  refine ((rvalid_any p v _ HS.out L2.out).mono fun _ _ t => t.un V.out).mono ?_
  rintro e w1 ⟨rfl, G1⟩
  go_wp2_with fail
  go_ret2
  exact ⟨rfl, G1⟩
end Hl
end Go.Proofs.Ythcfbfgfpophmaa
