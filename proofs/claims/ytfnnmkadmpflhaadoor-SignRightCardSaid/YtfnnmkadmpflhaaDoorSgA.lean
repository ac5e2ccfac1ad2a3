/-
  The landed package sign: elements, powers, public keys, challenges and signatures.
-/
import Derived.Test.YtfnnmkadmpflhaaDoorSgAns
import Derived.Test.YtfnnmkadmpflhaaDoorSgPow
import Derived.Test.YtfnnmkadmpflhaaDoorSgSl
import Derived.Test.YtfnnmkadmpflhaaDoorSgDig
namespace Go.Proofs.YtfnnmkadmpflhaaDoor
open Go.RowKit Wd
namespace Sg
set_option maxRecDepth 100000

theorem isFrom_yes (n lo hi : Int) (h0 : lo ≤ n) (h1 : n ≤ hi) (w : World) : Calls Tryd.prog 25 #[.int .i64 n, .int .i64 lo, .int .i64 hi] w fun e w' => e = .returned (.bool true) ∧ w = w' := by
  go_enter Tryd.func25, Tryd.ntmps25
  go_wp2
  go_ret
  exact ⟨rfl, rfl⟩
theorem isFrom_no (n lo hi : Int) (h : n < lo ∨ hi < n) (w : World) : Calls Tryd.prog 25 #[.int .i64 n, .int .i64 lo, .int .i64 hi] w fun e w' => e = .returned (.bool false) ∧ w = w' := by
  by_cases h0 : n < lo
  · go_enter Tryd.func25, Tryd.ntmps25
    go_wp2
    go_ret
    exact ⟨rfl, rfl⟩
  · have h1 : hi < n := by omega
    go_enter Tryd.func25, Tryd.ntmps25
    go_wp2
    go_ret
    exact ⟨by simp; omega, rfl⟩
theorem isFrom_any (n lo hi : Int) (b : Bool) (hb : b = true ↔ lo ≤ n ∧ n ≤ hi) (w : World) : Calls Tryd.prog 25 #[.int .i64 n, .int .i64 lo, .int .i64 hi] w fun e w' => e = .returned (.bool b) ∧ w = w' := by
  cases b with
  | true => exact isFrom_yes n lo hi (hb.1 rfl).1 (hb.1 rfl).2 w
  | false => exact isFrom_no n lo hi (by have : ¬ (lo ≤ n ∧ n ≤ hi) := (fun h => by have := hb.2 h; cases this); omega) w
theorem isExponent_c (x : Int) (w : World) : Calls Tryd.prog 27 #[.int .i64 x] w fun e w' => e = .returned (.bool (isE x)) ∧ w = w' := by
  have C := Lib.hid (isFrom_any x 0 1073741788 (isE x) (by rw [isE_iff]; omega) w)
  generalize isE x = b at *
  go_enter Tryd.func27, Tryd.ntmps27
  go_wp2_with fail
  refine (C.out).mono ?_
  rintro e w1 ⟨rfl, rfl⟩
  go_wp2_with fail
  go_ret
  exact ⟨rfl, rfl⟩
theorem isSecret_c (x : Int) (w : World) : Calls Tryd.prog 29 #[.int .i64 x] w fun e w' => e = .returned (.bool (isS x)) ∧ w = w' := by
  have C := Lib.hid (isFrom_any x 1 1073741788 (isS x) (by rw [isS_iff]; omega) w)
  generalize isS x = b at *
  go_enter Tryd.func29, Tryd.ntmps29
  go_wp2_with fail
  refine (C.out).mono ?_
  rintro e w1 ⟨rfl, rfl⟩
  go_wp2_with fail
  go_ret
  exact ⟨rfl, rfl⟩
theorem member_c (a : Int) (w : World) : Calls Tryd.prog 11 #[.int .i64 a] w fun e w' => e = .returned (.bool (isM a)) ∧ Grew w w' := by
  by_cases h : 1 ≤ a ∧ a < 2147483579
  · obtain ⟨n, rfl⟩ : ∃ n : Nat, a = (n : Int) := ⟨a.toNat, by omega⟩
    have C := Lib.hid (isFrom_yes n 1 2147483578 (by omega) (by omega) w)
    have M := power_c n 1073741789 w (by omega) (by omega)
    have E := isM_in n (by omega) (by omega)
    generalize pw n 1073741789 2147483579 = r at *
    have HM := Lib.hid M
    have HE := Lib.hid E
    clear M E h
    go_enter Tryd.func11, Tryd.ntmps11
    go_wp2_with fail
    refine (C.out).mono ?_
    rintro e w1 ⟨rfl, rfl⟩
    go_wp2_with fail
    refine (HM.out).mono ?_
    rintro e w2 ⟨rfl, g⟩
    go_wp2_with fail
    go_ret
    exact ⟨by rw [HE.out]; rfl, g⟩
  · have C := Lib.hid (isFrom_no a 1 2147483578 (by omega) w)
    have HE := Lib.hid (isM_out h)
    clear h
    go_enter Tryd.func11, Tryd.ntmps11
    go_wp2_with fail
    refine (C.out).mono ?_
    rintro e w1 ⟨rfl, rfl⟩
    go_wp2_with fail
    go_ret
    exact ⟨by rw [HE.out]; rfl, Grew.refl _⟩
theorem exp_c (a x : Int) (w : World) : Calls Tryd.prog 13 #[.int .i64 a, .int .i64 x] w fun e w' => e = .returned (.tuple #[.int .i64 (FX a x), .int .i64 (GX a x)]) ∧ Grew w w' := by
  have MC := Lib.hid (member_c a w)
  have EC := Lib.hid (fun W => isExponent_c x W)
  have FC : Hid (isM a = true → isE x = true → ∀ W, Calls Tryd.prog 26 #[.int .i64 a, .int .i64 x] W fun e w' => e = .returned (.int .i64 (FX a x)) ∧ Grew W w') := Lib.hid (fun h0 h1 W => by
    have k0 := isM_iff.1 h0
    have k1 := isE_iff.1 h1
    have c := power_c a.toNat x.toNat W (by omega) (by omega)
    rw [Int.toNat_of_nonneg (by omega), Int.toNat_of_nonneg (by omega)] at c
    unfold FX
    rw [h0, h1]
    exact c)
  have VG : Hid (GX a x = if (isM a && isE x) = true then 0 else 1) := Lib.hid rfl
  have VF : Hid ((isM a && isE x) = false → FX a x = 0) := Lib.hid (fun h => by unfold FX; rw [h]; rfl)
  generalize isM a = p at *
  generalize isE x = q at *
  generalize FX a x = f at *
  generalize GX a x = g at *
  cases p with
  | false =>
    obtain rfl : f = 0 := VF.out rfl
    obtain rfl : g = 1 := VG.out
    clear VF VG FC
    go_enter Tryd.func13, Tryd.ntmps13
    go_wp2_with fail
    refine (MC.out).mono ?_
    rintro e w1 ⟨rfl, g1⟩
    go_wp2_with fail
    go_ret2
    exact ⟨rfl, g1⟩
  | true =>
    cases q with
    | false =>
      obtain rfl : f = 0 := VF.out rfl
      obtain rfl : g = 1 := VG.out
      clear VF VG FC
      go_enter Tryd.func13, Tryd.ntmps13
      go_wp2_with fail
      refine (MC.out).mono ?_
      rintro e w1 ⟨rfl, g1⟩
      go_wp2_with fail
      refine (EC.out _).mono ?_
      rintro e w2 ⟨rfl, rfl⟩
      go_wp2_with fail
      go_ret2
      exact ⟨rfl, g1⟩
    | true =>
      obtain rfl : g = 0 := VG.out
      have PC := Lib.hid (FC.out rfl rfl)
      clear VF VG FC
      go_enter Tryd.func13, Tryd.ntmps13
      go_wp2_with fail
      refine (MC.out).mono ?_
      rintro e w1 ⟨rfl, g1⟩
      go_wp2_with fail
      refine (EC.out _).mono ?_
      rintro e w2 ⟨rfl, rfl⟩
      go_wp2_with fail
      refine (PC.out _).mono ?_
      rintro e w3 ⟨rfl, g3⟩
      go_wp2_with fail
      go_ret2
      exact ⟨rfl, Grew.trans g1 g3⟩
theorem public_c (x : Int) (w : World) : Calls Tryd.prog 15 #[.int .i64 x] w fun e w' => e = .returned (.tuple #[.int .i64 (FP x), .int .i64 (GP x)]) ∧ Grew w w' := by
  have EC := Lib.hid (isSecret_c x w)
  have FC : Hid (isS x = true → ∀ W, Calls Tryd.prog 26 #[.int .i64 4, .int .i64 x] W fun e w' => e = .returned (.int .i64 (FP x)) ∧ Grew W w') := Lib.hid (fun h1 W => by
    have k1 := isS_iff.1 h1
    have c := power_c 4 x.toNat W (by omega) (by omega)
    rw [Int.toNat_of_nonneg (by omega)] at c
    unfold FP
    rw [h1]
    exact c)
  have VG : Hid (GP x = if isS x = true then 0 else 1) := Lib.hid rfl
  have VF : Hid (isS x = false → FP x = 0) := Lib.hid (fun h => by unfold FP; rw [h]; rfl)
  generalize isS x = q at *
  generalize FP x = f at *
  generalize GP x = g at *
  cases q with
  | false =>
    obtain rfl : f = 0 := VF.out rfl
    obtain rfl : g = 1 := VG.out
    clear VF VG FC
    go_enter Tryd.func15, Tryd.ntmps15
    go_wp2_with fail
    refine (EC.out).mono ?_
    rintro e w1 ⟨rfl, rfl⟩
    go_wp2_with fail
    go_ret2
    exact ⟨rfl, Grew.refl _⟩
  | true =>
    obtain rfl : g = 0 := VG.out
    have PC := Lib.hid (FC.out rfl)
    clear VF VG FC
    go_enter Tryd.func15, Tryd.ntmps15
    go_wp2_with fail
    refine (EC.out).mono ?_
    rintro e w1 ⟨rfl, rfl⟩
    go_wp2_with fail
    refine (PC.out _).mono ?_
    rintro e w2 ⟨rfl, g2⟩
    go_wp2_with fail
    go_ret2
    exact ⟨rfl, g2⟩
set_option maxHeartbeats 1000000 in
theorem challenge_c (m n : Int) (l : List Int) (v : Value) (w : World) (hT : Dg.T w) (hm : I64 m) (hn : I64 n) (hs : Is w v l) (hl : l.length ≤ 100000) :
    Calls Tryd.prog 31 #[.int .i64 m, .int .i64 n, v] w fun e w' => e = .returned (.int .i64 (hc (m :: n :: l) : Int)) ∧ Grew w w' := by
  have OK : Hid (Oki (m :: n :: l)) := Lib.hid (Oki.cons hm (Oki.cons hn hs.2))
  have OW := Lib.hid (own_two (B := w.heap.size) w m n (Nat.le_refl _))
  have SV : Hid (Is (w.alloc (.cells #[.int .i64 m, .int .i64 n] 3)) v l) := Lib.hid (hs.grew ((Grew.refl w).alloc _ _))
  have HL := Lib.hid hl
  have SC : Hid (∀ W u, Grew w W → Is W u (m :: n :: l) → Calls Tryd.prog 35 #[u] W fun e w' => e = .returned (.int .u64 (Dg.dv (Dg.nx Dg.f0 (m :: n :: l)))) ∧ Grew W w') := Lib.hid (fun W u g hu => Dg.c_sum _ u W (hT.grew g) hu.dg (by simp; omega))
  have EV := hc_dv (m :: n :: l)
  have BV := Dg.dv_bd (Dg.nx Dg.f0 (m :: n :: l))
  have LV := hc_lt (m :: n :: l)
  generalize Dg.dv (Dg.nx Dg.f0 (m :: n :: l)) = d at *
  generalize hc (m :: n :: l) = h at *
  have LV2 : (h : Int) < 1073741789 := by omega
  have LV3 : (0 : Int) ≤ h := by omega
  obtain ⟨sa, sc, rfl, _⟩ := hs.shape
  clear hs hT hm hn hl
  go_enter Tryd.func31, Tryd.ntmps31
  go_wp2_with (at_builtin; go_must (refine wpl_ints _ rfl _ _ rfl w.heap.size _ _ [m, n] l rfl OW.out rfl SV.out (by have := HL.out; simp; omega) (by simp) ?_; intro v' w' own' gr'; have GG := Lib.hid (Grew.grown ((Grew.refl w).alloc _ _) gr' (fun k hk => (Iw.lt OW.out k hk).1)); have OW2 := Lib.hid own'; clear own' gr'))
  refine (SC.out _ _ GG.out (OW2.out.is OK.out)).mono ?_
  rintro e w2 ⟨rfl, g2⟩
  go_wp2_with fail
  go_ret
  exact ⟨rfl, Grew.trans GG.out g2⟩
set_option maxHeartbeats 1000000 in
theorem sign_c (x o : Int) (l : List Int) (v : Value) (w : World) (hT : Dg.T w) (hs : Is w v l) (hl : l.length ≤ 100000) :
    Calls Tryd.prog 17 #[.int .i64 x, .int .i64 o, v] w fun e w' => e = .returned (.tuple #[.agg #[.int .i64 (FE x o l), .int .i64 (FS x o l)], .int .i64 (GS x o)]) ∧ Grew w w' := by
  obtain ⟨sa, sc, rfl, _⟩ := hs.shape
  have XC := Lib.hid (fun W => isSecret_c x W)
  have OC := Lib.hid (fun W => isSecret_c o W)
  have FC : Hid (isS x = true → isS o = true → ∃ p q y z E : Nat, x = y ∧ o = z ∧ y < 1073741789 ∧ z < 1073741789 ∧ E < 1073741789 ∧ FE x o l = E ∧ FS x o l = ((z + E * y) % 1073741789 : Nat) ∧ (∀ W, Calls Tryd.prog 26 #[.int .i64 4, .int .i64 o] W fun e w' => e = .returned (.int .i64 p) ∧ Grew W w') ∧
      (∀ W, Calls Tryd.prog 26 #[.int .i64 4, .int .i64 x] W fun e w' => e = .returned (.int .i64 q) ∧ Grew W w') ∧
      ∀ W, Grew w W → Calls Tryd.prog 31 #[.int .i64 p, .int .i64 q, .slice sa l.length sc] W fun e w' => e = .returned (.int .i64 E) ∧ Grew W w') := Lib.hid (fun h0 h1 => by
    have k0 := isS_iff.1 h0
    have k1 := isS_iff.1 h1
    have l0 := pw_lt 4 o.toNat (show 0 < 2147483579 by omega)
    have l1 := pw_lt 4 x.toNat (show 0 < 2147483579 by omega)
    refine ⟨pw 4 o.toNat 2147483579, pw 4 x.toNat 2147483579, x.toNat, o.toNat, SE x o l, by omega, by omega, by omega, by omega, hc_lt _, by unfold FE; rw [h0, h1]; rfl, by unfold FS; rw [h0, h1]; rfl, fun W => ?_, fun W => ?_, fun W g => ?_⟩
    · have c := power_c 4 o.toNat W (by omega) (by omega)
      rwa [Int.toNat_of_nonneg (by omega)] at c
    · have c := power_c 4 x.toNat W (by omega) (by omega)
      rwa [Int.toNat_of_nonneg (by omega)] at c
    · exact challenge_c _ _ l _ W (hT.grew g) (by unfold I64; omega) (by unfold I64; omega) (hs.grew g) hl)
  have VG : Hid (GS x o = if (isS x && isS o) = true then 0 else 1) := Lib.hid rfl
  have VF : Hid ((isS x && isS o) = false → FE x o l = 0 ∧ FS x o l = 0) := Lib.hid (fun h => by unfold FE FS; rw [h]; exact ⟨rfl, rfl⟩)
  have A0 : Grew w (w.alloc (.cells #[.int .i64 0, .int .i64 0] 23)) := (Grew.refl w).alloc _ _
  clear hs hT
  generalize isS x = p at *
  generalize isS o = q at *
  generalize FE x o l = fe at *
  generalize FS x o l = fs at *
  generalize GS x o = g at *
  cases p with
  | false =>
    obtain ⟨rfl, rfl⟩ := VF.out rfl
    obtain rfl : g = 1 := VG.out
    clear VF VG FC
    go_enter Tryd.func17, Tryd.ntmps17
    go_wp2_with fail
    refine (XC.out _).mono ?_
    rintro e w1 ⟨rfl, rfl⟩
    go_wp2_with fail
    refine bodyPost_ret (v := .tuple #[.agg #[.int .i64 0, .int .i64 0], .int .i64 1]) (by simp [results, Tryd.results17, go_sem]) rfl ⟨rfl, ?_⟩
    exact A0
  | true =>
    cases q with
    | false =>
      obtain ⟨rfl, rfl⟩ := VF.out rfl
      obtain rfl : g = 1 := VG.out
      clear VF VG FC
      go_enter Tryd.func17, Tryd.ntmps17
      go_wp2_with fail
      refine (XC.out _).mono ?_
      rintro e w1 ⟨rfl, rfl⟩
      go_wp2_with fail
      refine (OC.out _).mono ?_
      rintro e w2 ⟨rfl, rfl⟩
      go_wp2_with fail
      refine bodyPost_ret (v := .tuple #[.agg #[.int .i64 0, .int .i64 0], .int .i64 1]) (by simp [results, Tryd.results17, go_sem]) rfl ⟨rfl, ?_⟩
      exact A0
    | true =>
      obtain rfl : g = 0 := VG.out
      obtain ⟨p1, q1, y, z, E, rfl, rfl, hy, hz, hE, rfl, rfl, c1, c2, c3⟩ := FC.out rfl rfl
      have C1 := Lib.hid c1
      have C2 := Lib.hid c2
      have C3 := Lib.hid c3
      clear VF VG FC c1 c2 c3
      have k0 : E * y ≤ 1073741789 * 1073741789 := Nat.mul_le_mul (by omega) (by omega)
      have h0 : (0 : Int) ≤ (E : Int) * y := by rw [← Int.natCast_mul]; omega
      have h1 : (E : Int) * y ≤ 1152921429444920521 := by rw [← Int.natCast_mul]; omega
      have z0 : (0 : Int) ≤ z := by omega
      have z1 : (z : Int) ≤ 1073741789 := by omega
      go_enter Tryd.func17, Tryd.ntmps17
      go_wp2_with fail
      refine (XC.out _).mono ?_
      rintro e w1 ⟨rfl, rfl⟩
      go_wp2_with fail
      refine (OC.out _).mono ?_
      rintro e w2 ⟨rfl, rfl⟩
      go_wp2_with fail
      refine (C1.out _).mono ?_
      rintro e w3 ⟨rfl, g3⟩
      have G3 := Grew.trans A0 g3
      go_wp2_with fail
      refine (C2.out _).mono ?_
      rintro e w4 ⟨rfl, g4⟩
      have G4 := Grew.trans G3 g4
      go_wp2_with fail
      refine (C3.out _ G4).mono ?_
      rintro e w5 ⟨rfl, g5⟩
      have G5 := Grew.trans G4 g5
      have H5 := Grew.trans (Grew.trans g3 g4) g5
      have S5 : w.heap.size < w5.heap.size := Nat.lt_of_lt_of_le (by simp) H5.size
      have c0 : w5.cell? ⟨w.heap.size, 0, none⟩ = some (.int .i64 0) := by rw [H5.cell (by simp)]; simp [go_sem]
      have c1 : w5.cell? ⟨w.heap.size, 1, none⟩ = some (.int .i64 0) := by rw [H5.cell (by simp)]; simp [go_sem]
      have f0 : w5.frozen? ⟨w.heap.size, 0, none⟩ = false := by rw [Below.frozen (p := ⟨w.heap.size, 0, none⟩) H5 (by simp)]; simp [go_sem]
      have f1 : w5.frozen? ⟨w.heap.size, 1, none⟩ = false := by rw [Below.frozen (p := ⟨w.heap.size, 1, none⟩) H5 (by simp)]; simp [go_sem]
      go_wp2_with fail
      refine bodyPost_ret (v := .tuple #[.agg #[.int .i64 E, .int .i64 (((z : Int) + E * y) % 1073741789)], .int .i64 0]) (by simp [results, Tryd.results17, go_sem, c0, c1]) rfl ⟨rfl, ?_⟩
      exact Grew.setCell (Grew.setCell G5 (Nat.le_refl _) _) (Nat.le_refl _) _
end Sg
end Go.Proofs.YtfnnmkadmpflhaaDoor
