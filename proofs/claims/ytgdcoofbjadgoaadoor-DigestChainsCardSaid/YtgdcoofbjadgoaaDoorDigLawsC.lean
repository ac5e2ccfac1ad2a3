/-
  The laws DigestTexts and DigestChains of layer 5, under what package digest owes.
-/
import Derived.Test.YtgdcoofbjadgoaaDoorDigLawsA
namespace Go.Proofs.YtgdcoofbjadgoaaDoor
open Go.RowKit Wd
namespace Dg
set_option maxRecDepth 100000

theorem shift_byte (y : UInt8) (a b : Nat) (ha : a ≤ 56) (h : a = b ∨ a + 8 ≤ b ∨ b + 8 ≤ a) : (((y.toBitVec.setWidth 64 <<< b) >>> a).setWidth 8 : BitVec 8) = if a = b then y.toBitVec else 0#8 := by
  apply BitVec.eq_of_getLsbD_eq
  intro k hk
  rw [BitVec.getLsbD_setWidth, BitVec.getLsbD_ushiftRight, BitVec.getLsbD_shiftLeft, BitVec.getLsbD_setWidth, decide_eq_true hk, Bool.true_and]
  rcases h with h | h | h
  · subst h
    rw [if_pos rfl]
    have g : a + k < 64 := by omega
    have g1 : ¬ a + k < a := by omega
    have g2 : a + k - a = k := by omega
    have g3 : k < 64 := by omega
    simp [g, g1, g2, g3]
  · rw [if_neg (by omega)]
    have g1 : a + k < b := by omega
    simp [g1]
  · rw [if_neg (by omega), BitVec.getLsbD_zero]
    have g1 : y.toBitVec.getLsbD (a + k - b) = false := BitVec.getLsbD_of_ge _ _ (by omega)
    simp [g1]
/-- A byte at its place, from the lowest one. -/
def at8 (y : UInt8) (j : Nat) : BitVec 64 := y.toBitVec.setWidth 64 <<< (j * 8)
theorem by8_xor (d : BitVec 64) (y : UInt8) (j i : Nat) (hj : j < 8) (hi : i < 8) : by8 (d ^^^ at8 y j) i = if i = 7 - j then by8 d i ^^^ y else by8 d i := by
  unfold by8 at8
  rw [BitVec.ushiftRight_xor_distrib, BitVec.setWidth_xor, shift_byte y _ _ (by omega) (by omega)]
  by_cases e : i = 7 - j
  · rw [if_pos (by omega), if_pos e]
    rfl
  · rw [if_neg (by omega), if_neg e, BitVec.xor_zero]
theorem head8_at (d : BitVec 64) (i : Nat) : ∀ h : i < (head8 d).length, (head8 d)[i]'h = by8 d i := by
  unfold head8
  intro h
  rw [List.getElem_map, List.getElem_range]
theorem head8_xor (d : BitVec 64) (y : UInt8) (j : Nat) (hj : j < 8) : head8 (d ^^^ at8 y j) = (head8 d).set (7 - j) (by8 d (7 - j) ^^^ y) := by
  apply List.ext_getElem
  · rw [List.length_set, head8_len, head8_len]
  · intro i h1 h2
    rw [head8_len] at h1
    rw [head8_at, List.getElem_set, head8_at, by8_xor d y j i hj h1]
    by_cases e : i = 7 - j
    · rw [if_pos e, if_pos e.symm, e]
    · rw [if_neg e, if_neg (fun h => e h.symm)]
theorem xor_zero_iff (b y : UInt8) : b ^^^ y = b ↔ y = 0 := by
  constructor
  · intro e
    rw [← UInt8.zero_xor (a := y), ← UInt8.xor_self (a := b), UInt8.xor_assoc, e, UInt8.xor_self]
  · rintro rfl
    rw [UInt8.xor_zero]
theorem chain_iff (d : BitVec 64) (y : UInt8) (j : Nat) (hj : j < 8) (l : List Int) : nx (d ^^^ at8 y j) l = nx d l ↔ y = 0 := by
  unfold nx tx bs
  rw [fl_append, fl_append, fl_iff, head8_xor d y j hj]
  have h : 7 - j < (head8 d).length := by rw [head8_len]; omega
  rw [eq_comm, fl_set f0 (head8 d) (7 - j) h, head8_at, xor_zero_iff]
theorem byte_zero (y : UInt8) : ((y.toNat : Int) == 0) = decide (y = 0) := by
  by_cases e : y = 0
  · subst e; rfl
  · rw [decide_eq_false e, beq_eq_false_iff_ne]
    intro h
    exact e (UInt8.toNat_inj.1 (by have : y.toNat = 0 := by omega
                                   rw [this]; rfl))
theorem shl_val (y : UInt8) (j : Nat) (_hj : j < 8) : IntKind.u64.wrap (IntKind.u64.wrap (y.toNat : Int) * 2 ^ (j * 8)) = dv (at8 y j) := by
  have hy := y.toNat_lt
  have W : IntKind.u64.wrap (y.toNat : Int) = (y.toNat : Int) := by rw [IntKind.wrap_u64]; omega
  rw [W]
  rw [IntKind.wrap_u64]
  unfold dv at8
  rw [BitVec.toNat_shiftLeft, BitVec.toNat_setWidth, Nat.shiftLeft_eq]
  have e : y.toBitVec.toNat = y.toNat := rfl
  rw [e, Nat.mod_eq_of_lt (a := y.toNat) (Nat.lt_trans hy (by decide)), Int.natCast_emod, Int.natCast_mul, Int.natCast_pow]
  have e2 : ((2 : Nat) : Int) = 2 := rfl
  have e64 : ((2 ^ 64 : Nat) : Int) = 18446744073709551616 := by decide
  rw [e2, e64]
set_option maxHeartbeats 8000000 in
theorem texts_true {T : World → Prop} (K : Code T) (d : BitVec 64) (l : List Int) (v : Value) (w : World) (hT : T w) (hs : Is w v l) (hl : l.length ≤ 9223372036854775807) : Calls Tryd.prog 6 #[.int .u64 (dv d), v] w fun e w' => e = .returned (.bool true) ∧ Grew w w' := by
  have HD := Lib.hid (head_true K w hT)
  obtain ⟨a, c, rfl⟩ := hs.shape
  have HS := Lib.hid hs
  have KK := Lib.hid (fun W (g : Grew w W) => K.keep _ _ g hT)
  have KC := Lib.hid K
  clear hs K hT
  by_cases h2 : l.length ≤ 100
  · have E0 : Hid (∀ W, Grew w W → Calls Tryd.prog 10 #[.string ⟨#[]⟩] W fun e w' => e = .returned (.int .u64 (dv f0)) ∧ Grew W w') := Lib.hid fun W g => KC.out.text ⟨#[]⟩ W (KK.out W g) (by decide)
    have NX : Hid (∀ W, Grew w W → Calls Tryd.prog 12 #[.int .u64 (dv d), .slice a l.length c] W fun e w' => e = .returned (.int .u64 (dv (nx d l))) ∧ Grew W w') := Lib.hid fun W g => KC.out.next d l _ W (KK.out W g) (HS.out.grew g) (by omega)
    have SX : Hid (∀ W, Grew w W → Calls Tryd.prog 14 #[.slice a l.length c] W fun e w' => e = .returned (.int .u64 (dv (nx f0 l))) ∧ Grew W w') := Lib.hid fun W g => KC.out.sum l _ W (KK.out W g) (HS.out.grew g) (by omega)
    have BX : Hid (∀ d W, Grew w W → Calls Tryd.prog 16 #[.int .u64 (dv d), .slice a l.length c] W (BySays d l W)) := Lib.hid fun d W g => rbytes d l _ W (HS.out.grew g) (by omega)
    have TX : Hid (∀ d W, Grew w W → Calls Tryd.prog 10 #[.string ⟨(bs d l).toArray⟩] W fun e w' => e = .returned (.int .u64 (dv (nx d l))) ∧ Grew W w') := Lib.hid fun d W g => KC.out.text ⟨(bs d l).toArray⟩ W (KK.out W g) (by show (bs d l).toArray.size ≤ _; rw [List.size_toArray]; have := bs_len d l HS.out.2; omega)
    clear KK KC
    go_enter Tryd.func6, Tryd.ntmps6
    go_wp2_with fail
    refine (HD.out).mono ?_
    rintro e w1 ⟨rfl, g1'⟩
    have g1 : Grew w w1 := Grew.trans (Grew.refl _) g1'
    clear g1'
    go_wp2_with fail
    refine (E0.out _ g1).mono ?_
    rintro e w2 ⟨rfl, g2'⟩
    have g2 : Grew w w2 := Grew.trans g1 g2'
    clear g2' g1
    go_wp2_with fail
    refine (NX.out _ g2).mono ?_
    rintro e w3 ⟨rfl, g3'⟩
    have g3 : Grew w w3 := Grew.trans g2 g3'
    clear g3' g2
    go_wp2_with fail
    refine (BX.out d _ g3).mono ?_
    rintro e w4 ⟨u4, rfl, OW4, g4'⟩
    have g4 : Grew w w4 := Grew.trans g3 g4'
    have CV4 := conv_text OW4
    clear g4' OW4 g3
    go_wp2_with fail
    refine (TX.out d _ g4).mono ?_
    rintro e w5 ⟨rfl, g5'⟩
    have g5 : Grew w w5 := Grew.trans g4 g5'
    clear g5' g4
    go_wp2_with fail
    refine (SX.out _ g5).mono ?_
    rintro e w6 ⟨rfl, g6'⟩
    have g6 : Grew w w6 := Grew.trans g5 g6'
    clear g6' g5
    go_wp2_with fail
    refine (BX.out f0 _ g6).mono ?_
    rintro e w7 ⟨u7, rfl, OW7, g7'⟩
    have g7 : Grew w w7 := Grew.trans g6 g7'
    have CV7 := conv_text OW7
    clear g7' OW7 g6
    go_wp2_with fail
    refine (TX.out f0 _ g7).mono ?_
    rintro e w8 ⟨rfl, g8'⟩
    have g8 : Grew w w8 := Grew.trans g7 g8'
    clear g8' g7
    go_wp2_with fail
    go_ret
    exact ⟨by simp, g8⟩
  · have h3 : (100 : Int) < (l.length : Int) := by omega
    clear KK KC
    go_enter Tryd.func6, Tryd.ntmps6
    go_wp2_with fail
    refine (HD.out).mono ?_
    rintro e w1 ⟨rfl, g1'⟩
    have g1 : Grew w w1 := Grew.trans (Grew.refl _) g1'
    clear g1'
    go_wp2_with fail
    go_ret
    exact ⟨by simp, g1⟩
set_option maxHeartbeats 8000000 in
theorem chains_true {T : World → Prop} (K : Code T) (d : BitVec 64) (p : Nat) (y : UInt8) (l : List Int) (v : Value) (w : World) (hT : T w) (hp : p ≤ 255) (hs : Is w v l) (hl : l.length ≤ 9223372036854775807) : Calls Tryd.prog 8 #[.int .u64 (dv d), .int .u8 (p : Int), .int .u8 (y.toNat : Int), v] w fun e w' => e = .returned (.bool true) ∧ Grew w w' := by
  have HD := Lib.hid (head_true K w hT)
  obtain ⟨a, c, rfl⟩ := hs.shape
  have HS := Lib.hid hs
  have KK := Lib.hid (fun W (g : Grew w W) => K.keep _ _ g hT)
  have KC := Lib.hid K
  clear hs K hT
  by_cases h2 : l.length ≤ 100
  · obtain ⟨j, hj⟩ : ∃ j : Nat, j = p % 8 := ⟨_, rfl⟩
    have hj8 : j < 8 := by omega
    have hj1 : (p : Int) % 8 = (j : Int) := by omega
    obtain ⟨D, hD⟩ : ∃ D, D = d ^^^ at8 y j := ⟨_, rfl⟩
    have NX : Hid (∀ d W, Grew w W → Calls Tryd.prog 12 #[.int .u64 (dv d), .slice a l.length c] W fun e w' => e = .returned (.int .u64 (dv (nx d l))) ∧ Grew W w') := Lib.hid fun d W g => KC.out.next d l _ W (KK.out W g) (HS.out.grew g) (by omega)
    have FIN : Hid ((dv (nx D l) == dv (nx d l)) = ((y.toNat : Int) == 0)) := Lib.hid (by rw [dv_eq, byte_zero, hD]; exact decide_eq_decide.2 (chain_iff d y j hj8 l))
    have SH := shl_val y j hj8
    have XR := dv_xor d (at8 y j)
    rw [← hD] at XR
    have m0 : (0 : Int) ≤ (j : Int) * 8 := by omega
    have m1 : (j : Int) * 8 ≤ 56 := by omega
    clear KK KC hj hD
    go_enter Tryd.func8, Tryd.ntmps8
    go_wp2_with fail
    refine (HD.out).mono ?_
    rintro e w1 ⟨rfl, g1'⟩
    have g1 : Grew w w1 := Grew.trans (Grew.refl _) g1'
    clear g1'
    go_wp2_with fail
    refine (NX.out D _ g1).mono ?_
    rintro e w2 ⟨rfl, g2'⟩
    have g2 : Grew w w2 := Grew.trans g1 g2'
    clear g2' g1
    go_wp2_with fail
    refine (NX.out d _ g2).mono ?_
    rintro e w3 ⟨rfl, g3'⟩
    have g3 : Grew w w3 := Grew.trans g2 g3'
    clear g3' g2
    go_wp2_with fail
    go_ret
    exact ⟨by simp [FIN.out], g3⟩
  · have h3 : (100 : Int) < (l.length : Int) := by omega
    clear KK KC
    go_enter Tryd.func8, Tryd.ntmps8
    go_wp2_with fail
    refine (HD.out).mono ?_
    rintro e w1 ⟨rfl, g1'⟩
    have g1 : Grew w w1 := Grew.trans (Grew.refl _) g1'
    clear g1'
    go_wp2_with fail
    go_ret
    exact ⟨by simp, g1⟩
end Dg
end Go.Proofs.YtgdcoofbjadgoaaDoor
