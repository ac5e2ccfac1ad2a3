/-
  Bounds of integer arguments.
  The bounds of a polygon in wider directions.
-/
import Derived.Test.YteglefjnbkocgaaMinkOne
import Derived.Test.YteglefjnbkocgaaHullRB
namespace Go.Proofs.Yteglefjnbkocgaa
open Go.RowKit Hl
namespace Mk
theorem i8_bd {z : Int} (h : (Lit.int .i8 z).wf = true) : -128 ≤ z ∧ z ≤ 127 := by
  simpa [Lit.wf, IntKind.min, IntKind.max, IntKind.signed, IntKind.bits] using h
theorem i64_bd {z : Int} (h : (Lit.int .i64 z).wf = true) : -9223372036854775808 ≤ z ∧ z ≤ 9223372036854775807 := by
  simpa [Lit.wf, IntKind.min, IntKind.max, IntKind.signed, IntKind.bits] using h
theorem u16_bd {z : Int} (h : (Lit.int .u16 z).wf = true) : 0 ≤ z ∧ z ≤ 65535 := by
  simpa [Lit.wf, IntKind.min, IntKind.max, IntKind.signed, IntKind.bits] using h
end Mk
end Go.Proofs.Yteglefjnbkocgaa
namespace Go.Proofs.Yteglefjnbkocgaa
open Go.RowKit Hl
namespace Mk
theorem wide_bd {u x : Int} (hu : -128 ≤ u ∧ u ≤ 128) (hx : -500000 ≤ x ∧ x ≤ 500000) : -64000000 ≤ u * x ∧ u * x ≤ 64000000 := by
  have key : ∀ a b : Int, 0 ≤ a → a ≤ 128 → -500000 ≤ b → b ≤ 500000 → -64000000 ≤ a * b ∧ a * b ≤ 64000000 := fun a b h1 h2 h3 h4 => by
    have k1 : a * b ≤ a * 500000 := Int.mul_le_mul_of_nonneg_left h4 h1
    have k2 : a * (-500000) ≤ a * b := Int.mul_le_mul_of_nonneg_left h3 h1
    omega
  rcases Int.le_total 0 u with h | h
  · exact key u x h hu.2 hx.1 hx.2
  · have := key (-u) (-x) (by omega) (by omega) (by omega) (by omega)
    rwa [Int.neg_mul_neg] at this
set_option maxRecDepth 100000 in
set_option maxHeartbeats 2000000 in
theorem bounds_w (p : List Pt) (u v : Int) (hu : -128 ≤ u ∧ u ≤ 128) (hv : -128 ≤ v ∧ v ≤ 128) (b o c : Nat) (w : World) (hr : Row w b o p) (hp : Plcs p) (h1 : 1 ≤ p.length) (h2 : p.length ≤ 9223372036854775807) : Calls Try.prog 26 #[.slice (some ⟨b, o, none⟩) p.length c, .int .i64 u, .int .i64 v] w (BoundsSays p u v w) := by
  have HR := Lib.hid hr
  have PL := Lib.hid hp
  have MIN := Lib.hid (bounds_min (u := u) (v := v) h1)
  obtain ⟨s0, s1⟩ := hr.2 0 (by omega)
  rw [Nat.zero_mul, Nat.add_zero] at s0 s1
  have p0 : (0 : Int) < (p.length : Int) := by omega
  have p1 : 0 < p.length := by omega
  have HU := Lib.hid hu
  have HV := Lib.hid hv
  obtain ⟨m0, m1⟩ := wide_bd hu (PL.out 0 (by omega)).1
  obtain ⟨m2, m3⟩ := wide_bd hv (PL.out 0 (by omega)).2
  have W1 : IntKind.i64.wrap (u * (at' p 0).1) = u * (at' p 0).1 := IntWalk.i64_in _ ⟨by omega, by omega⟩
  have W2 : IntKind.i64.wrap (v * (at' p 0).2) = v * (at' p 0).2 := IntWalk.i64_in _ ⟨by omega, by omega⟩
  have W3 : IntKind.i64.wrap (u * (at' p 0).1 + v * (at' p 0).2) = u * (at' p 0).1 + v * (at' p 0).2 := IntWalk.i64_in _ ⟨by omega, by omega⟩
  have hbd : ∀ k, k < p.length → -128000000 ≤ gL p u v k ∧ gL p u v k ≤ 128000000 := fun k hk => by
    obtain ⟨_, _⟩ := wide_bd hu (hp k hk).1
    obtain ⟨_, _⟩ := wide_bd hv (hp k hk).2
    unfold gL
    omega
  have BD := Lib.hid hbd
  clear hr hp hu hv m0 m1 m2 m3 hbd
  go_enter Try.func26, Try.ntmps26
  go_wp2_with fail
  go_quiet (fail)
  clear W1 W2 W3
  go_wp2_with fail
  go_loopw [8, 9, 10] (fun lo hi i wr => ∃ k : Nat, k < p.length ∧ lo = .int .i64 (bl (gL p u v) k) ∧ hi = .int .i64 (bh (gL p u v) k) ∧ i = .int .i64 ((k : Int) + 1) ∧ Grew w wr) (fun _ _ i _ => p.length - (intOf i).toNat)
  case atStart => exact ⟨0, p1, rfl, rfl, rfl, by (repeat' (first | (with_reducible exact Grew.refl _) | (with_reducible assumption) | (with_reducible refine Grew.alloc ?_ _ _) | (with_reducible refine Grew.drew ?_) | (with_reducible refine Grew.drewN ?_ _) | (with_reducible refine Grew.setCell ?_ ?_ _) | go_size))⟩
  case round =>
    clear s0 s1
    obtain ⟨k, hk, rfl, rfl, rfl, G⟩ := hrel
    by_cases hlt : k + 1 < p.length
    · have E1 : Hid (bl (gL p u v) (k + 1) = mnI (bl (gL p u v) k) (gL p u v (k + 1))) := Lib.hid rfl
      have E2 : Hid (bh (gL p u v) (k + 1) = mxI (bh (gL p u v) k) (gL p u v (k + 1))) := Lib.hid rfl
      have hu := HU.out
      have hv := HV.out
      obtain ⟨m0, m1⟩ := wide_bd hu (PL.out (k + 1) (by omega)).1
      obtain ⟨m2, m3⟩ := wide_bd hv (PL.out (k + 1) (by omega)).2
      have W1 : IntKind.i64.wrap (u * (at' p (k + 1)).1) = u * (at' p (k + 1)).1 := IntWalk.i64_in _ ⟨by omega, by omega⟩
      have W2 : IntKind.i64.wrap (v * (at' p (k + 1)).2) = v * (at' p (k + 1)).2 := IntWalk.i64_in _ ⟨by omega, by omega⟩
      have W3 : IntKind.i64.wrap (u * (at' p (k + 1)).1 + v * (at' p (k + 1)).2) = u * (at' p (k + 1)).1 + v * (at' p (k + 1)).2 := IntWalk.i64_in _ ⟨by omega, by omega⟩
      clear hu hv m0 m1 m2 m3
      obtain ⟨s0, s1⟩ := (HR.out.grown G).2 (k + 1) hlt
      have e1 : ((k : Int) + 1).toNat = k + 1 := by omega
      have i1 : (0 : Int) ≤ (k : Int) + 1 := by omega
      have i2 : (k : Int) + 1 < (p.length : Int) := by omega
      obtain ⟨L, hL⟩ : ∃ L, bl (gL p u v) k = L := ⟨_, rfl⟩
      obtain ⟨M, hM⟩ : ∃ M, bh (gL p u v) k = M := ⟨_, rfl⟩
      have eg : gL p u v (k + 1) = u * (at' p (k + 1)).1 + v * (at' p (k + 1)).2 := rfl
      rw [hL, eg] at E1
      rw [hM, eg] at E2
      rw [hL, hM]
      clear hL hM eg
      have c1 : (u * (at' p (k + 1)).1 + v * (at' p (k + 1)).2 < L ∧ Hid (bl (gL p u v) (k + 1) = u * (at' p (k + 1)).1 + v * (at' p (k + 1)).2)) ∨ (L ≤ u * (at' p (k + 1)).1 + v * (at' p (k + 1)).2 ∧ Hid (bl (gL p u v) (k + 1) = L)) := by
        by_cases h : u * (at' p (k + 1)).1 + v * (at' p (k + 1)).2 < L
        · exact Or.inl ⟨h, Lib.hid (by rw [E1.out]; exact if_pos h)⟩
        · exact Or.inr ⟨by omega, Lib.hid (by rw [E1.out]; exact if_neg h)⟩
      have c2 : (M < u * (at' p (k + 1)).1 + v * (at' p (k + 1)).2 ∧ Hid (bh (gL p u v) (k + 1) = u * (at' p (k + 1)).1 + v * (at' p (k + 1)).2)) ∨ (u * (at' p (k + 1)).1 + v * (at' p (k + 1)).2 ≤ M ∧ Hid (bh (gL p u v) (k + 1) = M)) := by
        by_cases h : M < u * (at' p (k + 1)).1 + v * (at' p (k + 1)).2
        · exact Or.inl ⟨h, Lib.hid (by rw [E2.out]; exact if_pos h)⟩
        · exact Or.inr ⟨by omega, Lib.hid (by rw [E2.out]; exact if_neg h)⟩
      clear E1 E2
      rcases c1 with ⟨c1, F1⟩ | ⟨c1, F1⟩ <;> rcases c2 with ⟨c2, F2⟩ | ⟨c2, F2⟩
      all_goals
        go_wp2_with fail
        go_quiet (fail)
        go_wp2_with fail
        go_quiet (fail)
        clear W1 W2 W3 e1
        go_wp2_with fail
        go_roundw
        case rel => exact ⟨k + 1, hlt, by rw [F1.out], by rw [F2.out], by go_num, by (repeat' (first | (with_reducible exact Grew.refl _) | (with_reducible assumption) | (with_reducible refine Grew.alloc ?_ _ _) | (with_reducible refine Grew.drew ?_) | (with_reducible refine Grew.drewN ?_ _) | (with_reducible refine Grew.setCell ?_ ?_ _) | go_size))⟩
        case measure => simp [intOf]; omega
    · have ek : p.length - 1 = k := by omega
      have x1 : (p.length : Int) ≤ (k : Int) + 1 := by omega
      have mi := MIN.out
      rw [ek] at mi
      have MI := Lib.hid mi
      clear mi
      go_wp2_with fail
      go_ret2
      exact ⟨_, _, MI.out.1, MI.out.2, rfl, G⟩
end Mk
end Go.Proofs.Yteglefjnbkocgaa
