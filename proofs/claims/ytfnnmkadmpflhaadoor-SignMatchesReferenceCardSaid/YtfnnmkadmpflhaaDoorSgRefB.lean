/-
  The reference functions of layer 11: signatures, what is got back of them, and whether they are right.
-/
import Derived.Test.YtfnnmkadmpflhaaDoorSgRefA
namespace Go.Proofs.YtfnnmkadmpflhaaDoor
open Go.RowKit Wd
namespace Sg
namespace R
set_option maxRecDepth 100000

set_option maxHeartbeats 4000000 in
theorem back_c (a E S : Nat) (w : World) (ha : a < 2147483579) (hE : E < 1073741789) (hS : S < 1073741789) :
    Calls Tryd.prog 23 #[.int .i64 a, .agg #[.int .i64 E, .int .i64 S]] w fun e w' => e = .returned (.int .i64 (bk a E S : Nat)) ∧ Grew w w' := by
  have B1 : pw 4 S 2147483579 < 2147483579 := pw_lt _ _ (by omega)
  have B2 : pw a ((1073741789 - E) % 1073741789) 2147483579 < 2147483579 := pw_lt _ _ (by omega)
  have BK : bk a E S = pw 4 S 2147483579 * pw a ((1073741789 - E) % 1073741789) 2147483579 % 2147483579 := rfl
  have P1 := fun W => rpower_c 4 S 2147483579 W (by omega) (by omega) (by omega) (by omega)
  have P2 := fun W => rpower_c a ((1073741789 - E) % 1073741789) 2147483579 W (by omega) (by omega) (by omega) (by have := Nat.mod_lt (1073741789 - E) (show 1073741789 > 0 by omega); omega)
  generalize bk a E S = r at *
  generalize pw 4 S 2147483579 = p at *
  generalize hd : (1073741789 - E) % 1073741789 = d at *
  generalize pw a d 2147483579 = q at *
  have W1 : IntKind.i64.wrap (1073741789 - (E : Int)) = 1073741789 - (E : Int) := wrap_in (by omega) (by omega)
  have W2 : (1073741789 - (E : Int)).tmod 1073741789 = (d : Int) := by rw [Int.tmod_eq_emod_of_nonneg (by omega), ← hd]; omega
  have k0 : p * q ≤ 2147483579 * 2147483579 := Nat.mul_le_mul (by omega) (by omega)
  have W3 : IntKind.i64.wrap ((p : Int) * q) = (p : Int) * q := by rw [← Int.natCast_mul]; exact wrap_in (by omega) (by omega)
  have W4 : ((p : Int) * q).tmod 2147483579 = (r : Int) := by rw [← Int.natCast_mul, BK, Int.tmod_eq_emod_of_nonneg (by omega), Int.natCast_emod]; rfl
  have T0 := Two.new w E S 23
  have A0 : Grew w (w.alloc (.cells #[.int .i64 E, .int .i64 S] 23)) := (Grew.refl w).alloc _ _
  clear k0 hd BK B1 B2 ha hE hS
  obtain ⟨w1, hw1⟩ : ∃ w1, w1 = w.alloc (.cells #[.int .i64 E, .int .i64 S] 23) := ⟨_, rfl⟩
  have HW := Lib.hid hw1
  rw [← hw1] at T0 A0
  clear hw1
  have Q1 : Hid (∀ W, ((W.cell? ⟨w.heap.size, 0, none⟩ = some (.int .i64 E) ∧ W.cell? ⟨w.heap.size, 1, none⟩ = some (.int .i64 S)) ∧ Grew w1 W) → Calls Tryd.prog 24 #[.int .i64 4, .int .i64 S, .int .i64 2147483579] W fun e w' => e = .returned (.int .i64 p) ∧ ((w'.cell? ⟨w.heap.size, 0, none⟩ = some (.int .i64 E) ∧ w'.cell? ⟨w.heap.size, 1, none⟩ = some (.int .i64 S)) ∧ Grew w1 w')) :=
    Lib.hid (fun W h => (P1 W).mono (by rintro e w' ⟨rfl, g⟩; exact ⟨rfl, Two.grew h (Two.lt h) g⟩))
  have Q2 : Hid (∀ W, ((W.cell? ⟨w.heap.size, 0, none⟩ = some (.int .i64 E) ∧ W.cell? ⟨w.heap.size, 1, none⟩ = some (.int .i64 S)) ∧ Grew w1 W) → Calls Tryd.prog 24 #[.int .i64 a, .int .i64 d, .int .i64 2147483579] W fun e w' => e = .returned (.int .i64 q) ∧ ((w'.cell? ⟨w.heap.size, 0, none⟩ = some (.int .i64 E) ∧ w'.cell? ⟨w.heap.size, 1, none⟩ = some (.int .i64 S)) ∧ Grew w1 w')) :=
    Lib.hid (fun W h => (P2 W).mono (by rintro e w' ⟨rfl, g⟩; exact ⟨rfl, Two.grew h (Two.lt h) g⟩))
  have S0 : (w1.cell? ⟨w.heap.size, 0, none⟩ = some (.int .i64 E) ∧ w1.cell? ⟨w.heap.size, 1, none⟩ = some (.int .i64 S)) ∧ Grew w1 w1 := ⟨T0.1, Grew.refl _⟩
  clear P1 P2 T0
  go_enter Tryd.func23, Tryd.ntmps23
  go_wp2_with fail
  rw [← HW.out]
  go_region_held3 (fun W => (W.cell? ⟨w.heap.size, 0, none⟩ = some (.int .i64 E) ∧ W.cell? ⟨w.heap.size, 1, none⟩ = some (.int .i64 S)) ∧ Grew w1 W) (first | assumption | exact Two.drew (by assumption) | exact Two.drew (Two.drew (by assumption))) (first
    | (go_at_call_of 24 (Value.int .i64 4); refine (Q1.out _ (by assumption)).mono ?_; rintro e w3 ⟨rfl, S3⟩)
    | (go_at_call_of 24 (Value.int .i64 a); refine (Q2.out _ (by assumption)).mono ?_; rintro e w4 ⟨rfl, S4⟩))
  have G4 := Grew.trans A0 S4.2
  go_wp2_with fail
  go_ret
  exact ⟨rfl, G4⟩
set_option maxHeartbeats 1000000 in
theorem sign_c (x o : Int) (l : List Int) (v : Value) (w : World) (hs : Is w v l) (hl : l.length ≤ 100000) :
    Calls Tryd.prog 18 #[.int .i64 x, .int .i64 o, v] w fun e w' => e = .returned (.tuple #[.agg #[.int .i64 (FE x o l), .int .i64 (FS x o l)], .int .i64 (GS x o)]) ∧ Grew w w' := by
  obtain ⟨sa, sc, rfl, _⟩ := hs.shape
  have XC := Lib.hid (fun W => secret_c x W)
  have OC := Lib.hid (fun W => secret_c o W)
  have FC : Hid (isS x = true → isS o = true → ∃ p q y z E : Nat, x = y ∧ o = z ∧ y < 1073741789 ∧ z < 1073741789 ∧ E < 1073741789 ∧ FE x o l = E ∧ FS x o l = ((z + E * y) % 1073741789 : Nat) ∧ (∀ W, Calls Tryd.prog 24 #[.int .i64 4, .int .i64 o, .int .i64 2147483579] W fun e w' => e = .returned (.int .i64 p) ∧ Grew W w') ∧
      (∀ W, Calls Tryd.prog 24 #[.int .i64 4, .int .i64 x, .int .i64 2147483579] W fun e w' => e = .returned (.int .i64 q) ∧ Grew W w') ∧
      (∀ W, Grew w W → Calls Tryd.prog 32 #[.int .i64 p, .int .i64 q, .slice sa l.length sc] W fun e w' => ∃ u, e = .returned u ∧ Is w' u ((p : Int) :: (q : Int) :: l) ∧ Grew W w') ∧
      ∀ W u, Is W u ((p : Int) :: (q : Int) :: l) → Calls Tryd.prog 22 #[u] W fun e w' => e = .returned (.int .i64 E) ∧ Grew W w') := Lib.hid (fun h0 h1 => by
    have k0 := isS_iff.1 h0
    have k1 := isS_iff.1 h1
    have l0 := pw_lt 4 o.toNat (show 0 < 2147483579 by omega)
    have l1 := pw_lt 4 x.toNat (show 0 < 2147483579 by omega)
    refine ⟨pw 4 o.toNat 2147483579, pw 4 x.toNat 2147483579, x.toNat, o.toNat, SE x o l, by omega, by omega, by omega, by omega, hc_lt _, by unfold FE; rw [h0, h1]; rfl, by unfold FS; rw [h0, h1]; rfl, fun W => ?_, fun W => ?_, fun W g => ?_, fun W u hu => ?_⟩
    · have c := rpower_c 4 o.toNat 2147483579 W (by omega) (by omega) (by omega) (by omega)
      rwa [Int.toNat_of_nonneg (by omega)] at c
    · have c := rpower_c 4 x.toNat 2147483579 W (by omega) (by omega) (by omega) (by omega)
      rwa [Int.toNat_of_nonneg (by omega)] at c
    · exact after_c _ _ l _ W (by unfold I64; omega) (by unfold I64; omega) (hs.grew g) hl
    · exact challenge_c _ u W hu (by simp; omega))
  have VG : Hid (GS x o = if (isS x && isS o) = true then 0 else 1) := Lib.hid rfl
  have VF : Hid ((isS x && isS o) = false → FE x o l = 0 ∧ FS x o l = 0) := Lib.hid (fun h => by unfold FE FS; rw [h]; exact ⟨rfl, rfl⟩)
  have A0 : Grew w (w.alloc (.cells #[.int .i64 0, .int .i64 0] 23)) := (Grew.refl w).alloc _ _
  clear hs
  generalize isS x = p at *
  generalize isS o = q at *
  generalize FE x o l = fe at *
  generalize FS x o l = fs at *
  generalize GS x o = g at *
  cases hpq : (p && q) with
  | false =>
    rw [hpq] at VF VG
    obtain ⟨rfl, rfl⟩ := VF.out rfl
    obtain rfl : g = 1 := VG.out
    have HP := Lib.hid hpq
    clear VF VG FC hpq
    cases p with
    | false =>
      go_enter Tryd.func18, Tryd.ntmps18
      go_wp2_with fail
      refine (XC.out _).mono ?_
      rintro e w1 ⟨rfl, rfl⟩
      go_wp2_with fail
      refine (OC.out _).mono ?_
      rintro e w2 ⟨rfl, rfl⟩
      go_wp2_with fail
      refine bodyPost_ret (v := .tuple #[.agg #[.int .i64 0, .int .i64 0], .int .i64 1]) (by simp [results, Tryd.results18, go_sem]) rfl ⟨rfl, ?_⟩
      exact A0
    | true =>
      obtain rfl : q = false := HP.out
      go_enter Tryd.func18, Tryd.ntmps18
      go_wp2_with fail
      refine (XC.out _).mono ?_
      rintro e w1 ⟨rfl, rfl⟩
      go_wp2_with fail
      refine (OC.out _).mono ?_
      rintro e w2 ⟨rfl, rfl⟩
      go_wp2_with fail
      refine bodyPost_ret (v := .tuple #[.agg #[.int .i64 0, .int .i64 0], .int .i64 1]) (by simp [results, Tryd.results18, go_sem]) rfl ⟨rfl, ?_⟩
      exact A0
  | true =>
    rw [hpq] at VG
    obtain rfl : g = 0 := VG.out
    obtain ⟨rfl, rfl⟩ : p = true ∧ q = true := by rwa [Bool.and_eq_true] at hpq
    obtain ⟨p1, q1, y, z, E, rfl, rfl, hy, hz, hE, rfl, rfl, c1, c2, c3, c4⟩ := FC.out rfl rfl
    have C1 := Lib.hid c1
    have C2 := Lib.hid c2
    have C3 := Lib.hid c3
    have C4 := Lib.hid c4
    clear VF VG FC c1 c2 c3 c4 hpq
    have k0 : E * y ≤ 1073741789 * 1073741789 := Nat.mul_le_mul (by omega) (by omega)
    have h0 : (0 : Int) ≤ (E : Int) * y := by rw [← Int.natCast_mul]; omega
    have h1 : (E : Int) * y ≤ 1152921429444920521 := by rw [← Int.natCast_mul]; omega
    have z0 : (0 : Int) ≤ z := by omega
    have z1 : (z : Int) ≤ 1073741789 := by omega
    go_enter Tryd.func18, Tryd.ntmps18
    go_wp2_with fail
    refine (XC.out _).mono ?_
    rintro e w1 ⟨rfl, rfl⟩
    go_wp2_with fail
    refine (OC.out _).mono ?_
    rintro e w2 ⟨rfl, rfl⟩
    go_wp2_with fail
    refine (C1.out _).mono ?_
    rintro e w3 ⟨rfl, g3⟩
    have G3 := Grew.trans A0 g3
    go_wp2_with fail
    refine (C2.out _).mono ?_
    rintro e w4 ⟨rfl, g4⟩
    have G4 := Grew.trans G3 g4
    go_wp2_with fail
    refine (C3.out _ G4).mono ?_
    rintro e w5 ⟨u, rfl, hu, g5⟩
    have C5 := Lib.hid (C4.out _ _ hu)
    clear hu
    have G5 := Grew.trans G4 g5
    go_wp2_with fail
    refine (C5.out).mono ?_
    rintro e w6 ⟨rfl, g6⟩
    have G6 := Grew.trans G5 g6
    have H5 := Grew.trans (Grew.trans (Grew.trans g3 g4) g5) g6
    have S5 : w.heap.size < w6.heap.size := Nat.lt_of_lt_of_le (by simp) H5.size
    have c0 : w6.cell? ⟨w.heap.size, 0, none⟩ = some (.int .i64 0) := by rw [H5.cell (by simp)]; simp [go_sem]
    have c1 : w6.cell? ⟨w.heap.size, 1, none⟩ = some (.int .i64 0) := by rw [H5.cell (by simp)]; simp [go_sem]
    have f0 : w6.frozen? ⟨w.heap.size, 0, none⟩ = false := by rw [Below.frozen (p := ⟨w.heap.size, 0, none⟩) H5 (by simp)]; simp [go_sem]
    have f1 : w6.frozen? ⟨w.heap.size, 1, none⟩ = false := by rw [Below.frozen (p := ⟨w.heap.size, 1, none⟩) H5 (by simp)]; simp [go_sem]
    go_wp2_with fail
    refine bodyPost_ret (v := .tuple #[.agg #[.int .i64 E, .int .i64 (((z : Int) + E * y) % 1073741789)], .int .i64 0]) (by simp [results, Tryd.results18, go_sem, c0, c1]) rfl ⟨rfl, ?_⟩
    exact Grew.setCell (Grew.setCell G6 (Nat.le_refl _) _) (Nat.le_refl _) _
end R
end Sg
end Go.Proofs.YtfnnmkadmpflhaaDoor
