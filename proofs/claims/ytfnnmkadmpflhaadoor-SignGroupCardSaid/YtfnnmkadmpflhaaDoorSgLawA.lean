/-
  The laws SignSecrets, SignGroup and SignRight.
-/
import Derived.Test.YtfnnmkadmpflhaaDoorSgHead
namespace Go.Proofs.YtfnnmkadmpflhaaDoor
open Go.RowKit Wd
namespace Sg
set_option maxRecDepth 100000

set_option maxHeartbeats 4000000 in
theorem secrets_true (key other : Int) (w : World) (hT : Dg.T w) (k0 : 0 ≤ key ∧ key ≤ 18446744073709551615) (o0 : 0 ≤ other ∧ other ≤ 18446744073709551615) :
    Calls Tryd.prog 8 #[.int .u64 key, .int .u64 other] w fun e w' => e = .returned (.bool true) ∧ Grew w w' := by
  have HD := Lib.hid (head_true w hT)
  have SK := Lib.hid (fun W => secret_c key k0.1 k0.2 W)
  have SO := Lib.hid (fun W => secret_c other o0.1 o0.2 W)
  have PK : Hid (∀ W, Calls Tryd.prog 15 #[.int .i64 (sec key)] W fun e w' => e = .returned (.tuple #[.int .i64 (FP (sec key)), .int .i64 0]) ∧ Grew W w') := Lib.hid (fun W => by have := public_c (sec key) W; rwa [GP_eq (sec_in key)] at this)
  have PO : Hid (∀ W, Calls Tryd.prog 15 #[.int .i64 (sec other)] W fun e w' => e = .returned (.tuple #[.int .i64 (FP (sec other)), .int .i64 0]) ∧ Grew W w') := Lib.hid (fun W => by have := public_c (sec other) W; rwa [GP_eq (sec_in other)] at this)
  have IJ := FP_inj (sec_in key) (sec_in other)
  clear hT k0 o0
  generalize FP (sec key) = a at *
  generalize FP (sec other) = b at *
  generalize sec key = x at *
  generalize sec other = y at *
  have CE : ((a == b) == (x == y)) = true := by
    by_cases h : x = y
    · rw [IJ.2 h, h]; simp
    · have h2 : ¬ a = b := fun e => h (IJ.1 e)
      rw [beq_eq_false_iff_ne.2 h2, beq_eq_false_iff_ne.2 h]; rfl
  obtain ⟨p, hp⟩ : ∃ p : Bool, (a == b) = p := ⟨_, rfl⟩
  obtain ⟨q, hq⟩ : ∃ q : Bool, (x == y) = q := ⟨_, rfl⟩
  rw [hp, hq] at CE
  obtain rfl : p = q := by simpa using CE
  clear CE IJ
  go_enter Tryd.func8, Tryd.ntmps8
  go_wp2_with fail
  refine (HD.out).mono ?_
  rintro e w1 ⟨rfl, g1⟩
  go_wp2_with fail
  refine (SK.out _).mono ?_
  rintro e w2 ⟨rfl, rfl⟩
  go_wp2_with fail
  refine (PK.out _).mono ?_
  rintro e w3 ⟨rfl, g3'⟩
  have g3 := Grew.trans g1 g3'
  clear g1 g3'
  go_wp2_with fail
  refine (SO.out _).mono ?_
  rintro e w2 ⟨rfl, rfl⟩
  go_wp2_with fail
  refine (PO.out _).mono ?_
  rintro e w4 ⟨rfl, g4'⟩
  have g4 := Grew.trans g3 g4'
  clear g3 g4'
  go_wp2_with fail
  refine (SK.out _).mono ?_
  rintro e w2 ⟨rfl, rfl⟩
  go_wp2_with fail
  refine (SO.out _).mono ?_
  rintro e w2 ⟨rfl, rfl⟩
  go_wp2_with fail
  go_ret
  exact ⟨by simp, g4⟩

set_option maxHeartbeats 4000000 in
theorem right_true (key once : Int) (l : List Int) (v : Value) (w : World) (hT : Dg.T w) (k0 : 0 ≤ key ∧ key ≤ 18446744073709551615) (o0 : 0 ≤ once ∧ once ≤ 18446744073709551615) (hs : Is w v l) (hl : l.length ≤ 9223372036854775807) :
    Calls Tryd.prog 5 #[.int .u64 key, .int .u64 once, v] w fun e w' => e = .returned (.bool true) ∧ Grew w w' := by
  have L20 : (l.take 20).length ≤ 100000 := by rw [List.length_take]; omega
  have HD := Lib.hid (head_true w hT)
  have FW := Lib.hid (fun W (g : Grew w W) => few_c l v W (hs.grew g) hl)
  have SK := Lib.hid (fun W => secret_c key k0.1 k0.2 W)
  have SO := Lib.hid (fun W => secret_c once o0.1 o0.2 W)
  have PK : Hid (∀ W, Calls Tryd.prog 15 #[.int .i64 (sec key)] W fun e w' => e = .returned (.tuple #[.int .i64 (FP (sec key)), .int .i64 0]) ∧ Grew W w') := Lib.hid (fun W => by have := public_c (sec key) W; rwa [GP_eq (sec_in key)] at this)
  have SG : Hid (∀ W u, Grew w W → Is W u (l.take 20) → Calls Tryd.prog 17 #[.int .i64 (sec key), .int .i64 (sec once), u] W fun e w' => e = .returned (.tuple #[.agg #[.int .i64 (FE (sec key) (sec once) (l.take 20)), .int .i64 (FS (sec key) (sec once) (l.take 20))], .int .i64 0]) ∧ Grew W w') := Lib.hid (fun W u g h => by
    have := sign_c (sec key) (sec once) (l.take 20) u W (hT.grew g) h L20
    rwa [GS_eq (sec_in key) (sec_in once)] at this)
  have VY : Hid (∀ W u, Grew w W → Is W u (l.take 20) → Calls Tryd.prog 19 #[.int .i64 (FP (sec key)), .agg #[.int .i64 (FE (sec key) (sec once) (l.take 20)), .int .i64 (FS (sec key) (sec once) (l.take 20))], u] W fun e w' => e = .returned (.tuple #[.bool true, .int .i64 0]) ∧ Grew W w') := Lib.hid (fun W u g h => by
    have := verify_c (FP (sec key)) (FE (sec key) (sec once) (l.take 20)) (FS (sec key) (sec once) (l.take 20)) (l.take 20) u W (hT.grew g) h L20
    rwa [right (sec_in key) (sec_in once), GV_eq (FP_in (sec_in key)) (FE_in (sec_in key) (sec_in once) _) (FS_in (sec_in key) (sec_in once) _)] at this)
  obtain ⟨sa, sc, rfl, _⟩ := hs.shape
  clear hT k0 o0 hs L20
  generalize l.take 20 = m at *
  generalize FP (sec key) = a at *
  generalize FE (sec key) (sec once) m = E at *
  generalize FS (sec key) (sec once) m = S at *
  generalize sec key = x at *
  generalize sec once = y at *
  go_enter Tryd.func5, Tryd.ntmps5
  go_wp2_with fail
  refine (HD.out).mono ?_
  rintro e w1 ⟨rfl, g1⟩
  go_wp2_with fail
  refine (FW.out _ g1).mono ?_
  rintro e w2 ⟨u, rfl, hu, rfl⟩
  obtain ⟨ua, uc, rfl, _⟩ := hu.shape
  have HU := Lib.hid hu
  clear hu
  go_wp2_with fail
  refine (SK.out _).mono ?_
  rintro e w2 ⟨rfl, rfl⟩
  go_wp2_with fail
  refine (PK.out _).mono ?_
  rintro e w3 ⟨rfl, g3'⟩
  have g3 := Grew.trans g1 g3'
  have HU3 := Lib.hid (HU.out.grew g3')
  clear g1 g3' HU
  go_wp2_with fail
  refine (SK.out _).mono ?_
  rintro e w2 ⟨rfl, rfl⟩
  go_wp2_with fail
  refine (SO.out _).mono ?_
  rintro e w2 ⟨rfl, rfl⟩
  go_wp2_with fail
  refine (SG.out _ _ g3 HU3.out).mono ?_
  rintro e w4 ⟨rfl, g4'⟩
  have g4 := Grew.trans g3 g4'
  have g5 := g4.alloc #[.int .i64 E, .int .i64 S] 23
  have HU5 := Lib.hid (HU3.out.grew (g4'.alloc #[.int .i64 E, .int .i64 S] 23))
  clear g3 g4' HU3
  go_wp2_with fail
  refine (VY.out _ _ g5 HU5.out).mono ?_
  rintro e w6 ⟨rfl, g6'⟩
  have g6 := Grew.trans g5 g6'
  clear g4 g5 g6' HU5
  go_wp2_with fail
  go_ret
  exact ⟨by simp, g6⟩

set_option maxHeartbeats 4000000 in
theorem group_true (key i k : Int) (w : World) (hT : Dg.T w) (k0 : 0 ≤ key ∧ key ≤ 18446744073709551615) (i0 : 0 ≤ i ∧ i ≤ 18446744073709551615) (j0 : 0 ≤ k ∧ k ≤ 18446744073709551615) :
    Calls Tryd.prog 4 #[.int .u64 key, .int .u64 i, .int .u64 k] w fun e w' => e = .returned (.bool true) ∧ Grew w w' := by
  obtain ⟨x, hx⟩ : ∃ x : Nat, i % 1073741789 = (x : Int) := ⟨(i % 1073741789).toNat, by omega⟩
  obtain ⟨y, hy⟩ : ∃ y : Nat, k % 1073741789 = (y : Int) := ⟨(k % 1073741789).toNat, by omega⟩
  have x1 : x < 1073741789 := by omega
  have y1 : y < 1073741789 := by omega
  obtain ⟨z, hz⟩ : ∃ z : Nat, x * y % 1073741789 = z := ⟨_, rfl⟩
  have z1 : z < 1073741789 := by rw [← hz]; exact Nat.mod_lt _ (by omega)
  have hzi : (x : Int) * y % 1073741789 = (z : Int) := by rw [← Int.natCast_mul, ← hz, Int.natCast_emod]; rfl
  have A := FP_in (sec_in key)
  have HD := Lib.hid (head_true w hT)
  have SK := Lib.hid (fun W => secret_c key k0.1 k0.2 W)
  have PK : Hid (∀ W, Calls Tryd.prog 15 #[.int .i64 (sec key)] W fun e w' => e = .returned (.tuple #[.int .i64 (FP (sec key)), .int .i64 0]) ∧ Grew W w') := Lib.hid (fun W => by have := public_c (sec key) W; rwa [GP_eq (sec_in key)] at this)
  generalize FP (sec key) = a at *
  generalize sec key = s at *
  have X1 : Hid (∀ W, Calls Tryd.prog 13 #[.int .i64 a, .int .i64 x] W fun e w' => e = .returned (.tuple #[.int .i64 (FX a x), .int .i64 0]) ∧ Grew W w') := Lib.hid (fun W => by have := exp_c a x W; rwa [GX_eq A (isE_of x1)] at this)
  have B := FX_in A (isE_of x1)
  have FF := FX_FX A x1 y1
  rw [hz] at FF
  generalize FX a x = b at *
  have X2 : Hid (∀ W, Calls Tryd.prog 13 #[.int .i64 b, .int .i64 y] W fun e w' => e = .returned (.tuple #[.int .i64 (FX b y), .int .i64 0]) ∧ Grew W w') := Lib.hid (fun W => by have := exp_c b y W; rwa [GX_eq B (isE_of y1)] at this)
  have C := FX_in B (isE_of y1)
  have X3 : Hid (∀ W, Calls Tryd.prog 13 #[.int .i64 a, .int .i64 z] W fun e w' => e = .returned (.tuple #[.int .i64 (FX a z), .int .i64 0]) ∧ Grew W w') := Lib.hid (fun W => by have := exp_c a z W; rwa [GX_eq A (isE_of z1)] at this)
  rw [← FF] at X3
  generalize FX b y = c at *
  have X4 : Hid (∀ W, Calls Tryd.prog 13 #[.int .i64 a, .int .i64 0] W fun e w' => e = .returned (.tuple #[.int .i64 1, .int .i64 0]) ∧ Grew W w') := Lib.hid (fun W => by have := exp_c a 0 W; rwa [FX_zero A, GX_eq A e0] at this)
  have MA : Hid (∀ W, Calls Tryd.prog 11 #[.int .i64 a] W fun e w' => e = .returned (.bool true) ∧ Grew W w') := Lib.hid (fun W => by have := member_c a W; rwa [A] at this)
  have MB : Hid (∀ W, Calls Tryd.prog 11 #[.int .i64 b] W fun e w' => e = .returned (.bool true) ∧ Grew W w') := Lib.hid (fun W => by have := member_c b W; rwa [B] at this)
  have MC : Hid (∀ W, Calls Tryd.prog 11 #[.int .i64 c] W fun e w' => e = .returned (.bool true) ∧ Grew W w') := Lib.hid (fun W => by have := member_c c W; rwa [C] at this)
  have p0 : x * y ≤ 1073741789 * 1073741789 := Nat.mul_le_mul (by omega) (by omega)
  have p1 : (0 : Int) ≤ (x : Int) * y := by rw [← Int.natCast_mul]; omega
  have p2 : (x : Int) * y ≤ 1152921429444920521 := by rw [← Int.natCast_mul]; omega
  have xx : (x : Int) < 1073741789 := by omega
  have yy : (y : Int) < 1073741789 := by omega
  obtain ⟨i1, i2⟩ := i0
  obtain ⟨j1, j2⟩ := j0
  clear hT k0 A B C FF p0 hz x1 y1 z1
  go_enter Tryd.func4, Tryd.ntmps4
  go_wp2_with fail
  refine (HD.out).mono ?_
  rintro e w1 ⟨rfl, g1⟩
  go_wp2_with fail
  refine (SK.out _).mono ?_
  rintro e w2 ⟨rfl, rfl⟩
  go_wp2_with fail
  refine (PK.out _).mono ?_
  rintro e w3 ⟨rfl, g3'⟩
  have g3 := Grew.trans g1 g3'
  clear g1 g3'
  go_wp2_with fail
  refine (X1.out _).mono ?_
  rintro e w4 ⟨rfl, g4'⟩
  have g4 := Grew.trans g3 g4'
  clear g3 g4'
  go_wp2_with fail
  refine (X2.out _).mono ?_
  rintro e w5 ⟨rfl, g5'⟩
  have g5 := Grew.trans g4 g5'
  clear g4 g5'
  go_wp2_with fail
  refine (X3.out _).mono ?_
  rintro e w6 ⟨rfl, g6'⟩
  have g6 := Grew.trans g5 g6'
  clear g5 g6'
  go_wp2_with fail
  refine (X4.out _).mono ?_
  rintro e w7 ⟨rfl, g7'⟩
  have g7 := Grew.trans g6 g7'
  clear g6 g7'
  go_wp2_with fail
  refine (MA.out _).mono ?_
  rintro e w8 ⟨rfl, g8'⟩
  have g8 := Grew.trans g7 g8'
  clear g7 g8'
  go_wp2_with fail
  refine (MB.out _).mono ?_
  rintro e w9 ⟨rfl, g9'⟩
  have g9 := Grew.trans g8 g9'
  clear g8 g9'
  go_wp2_with fail
  refine (MC.out _).mono ?_
  rintro e wa ⟨rfl, ga'⟩
  have ga := Grew.trans g9 ga'
  clear g9 ga'
  go_wp2_with fail
  go_ret
  exact ⟨by simp, ga⟩
end Sg
end Go.Proofs.YtfnnmkadmpflhaaDoor
