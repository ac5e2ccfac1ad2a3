/-
  The reference functions of layer 11.
-/
import Derived.Test.YtfnnmkadmpflhaaDoorSgB
namespace Go.Proofs.YtfnnmkadmpflhaaDoor
open Go.RowKit Wd
namespace Sg
namespace R
set_option maxRecDepth 100000

theorem exponent_c (x : Int) (w : World) : Calls Tryd.prog 28 #[.int .i64 x] w fun e w' => e = .returned (.bool (isE x)) ∧ w = w' := by
  by_cases h : 0 ≤ x ∧ x < 1073741789
  · have e := Lib.hid (isE_iff.2 h)
    obtain ⟨h0, h1⟩ := h
    generalize isE x = b at *
    go_enter Tryd.func28, Tryd.ntmps28
    go_wp2_with fail
    go_ret
    exact ⟨by rw [e.out]; rfl, rfl⟩
  · have e : Hid (isE x = false) := Lib.hid (by
      rcases hb : isE x with _ | _
      · rfl
      · exact absurd (isE_iff.1 hb) h)
    generalize isE x = b at *
    by_cases h1 : 0 ≤ x
    · have h2 : 1073741789 ≤ x := by omega
      clear h
      go_enter Tryd.func28, Tryd.ntmps28
      go_wp2_with fail
      go_ret
      exact ⟨by rw [e.out]; first | rfl | (simp; omega), rfl⟩
    · have h2 : x < 0 := by omega
      clear h h1
      go_enter Tryd.func28, Tryd.ntmps28
      go_wp2_with fail
      go_ret
      exact ⟨by rw [e.out]; first | rfl | (simp; omega), rfl⟩
theorem secret_c (x : Int) (w : World) : Calls Tryd.prog 30 #[.int .i64 x] w fun e w' => e = .returned (.bool (isS x)) ∧ w = w' := by
  by_cases h : 1 ≤ x ∧ x < 1073741789
  · have e := Lib.hid (isS_iff.2 h)
    obtain ⟨h0, h1⟩ := h
    generalize isS x = b at *
    go_enter Tryd.func30, Tryd.ntmps30
    go_wp2_with fail
    go_ret
    exact ⟨by rw [e.out]; rfl, rfl⟩
  · have e : Hid (isS x = false) := Lib.hid (by
      rcases hb : isS x with _ | _
      · rfl
      · exact absurd (isS_iff.1 hb) h)
    generalize isS x = b at *
    by_cases h1 : 1 ≤ x
    · have h2 : 1073741789 ≤ x := by omega
      clear h
      go_enter Tryd.func30, Tryd.ntmps30
      go_wp2_with fail
      go_ret
      exact ⟨by rw [e.out]; first | rfl | (simp; omega), rfl⟩
    · have h2 : x < 1 := by omega
      clear h h1
      go_enter Tryd.func30, Tryd.ntmps30
      go_wp2_with fail
      go_ret
      exact ⟨by rw [e.out]; first | rfl | (simp; omega), rfl⟩
theorem member_c (a : Int) (w : World) : Calls Tryd.prog 12 #[.int .i64 a] w fun e w' => e = .returned (.bool (isM a)) ∧ Grew w w' := by
  by_cases h : 1 ≤ a ∧ a < 2147483579
  · obtain ⟨n, rfl⟩ : ∃ n : Nat, a = (n : Int) := ⟨a.toNat, by omega⟩
    obtain ⟨h0, h1⟩ := h
    have M := rpower_c n 1073741789 2147483579 w (by omega) (by omega) (by omega) (by omega)
    have E := isM_in n (by omega) (by omega)
    generalize pw n 1073741789 2147483579 = r at *
    have HM := Lib.hid M
    have HE := Lib.hid E
    clear M E
    go_enter Tryd.func12, Tryd.ntmps12
    go_wp2_with fail
    refine (HM.out).mono ?_
    rintro e w2 ⟨rfl, g⟩
    go_wp2_with fail
    go_ret
    exact ⟨by rw [HE.out]; rfl, g⟩
  · have HE := Lib.hid (isM_out h)
    by_cases h1 : 1 ≤ a
    · have h2 : 2147483579 ≤ a := by omega
      clear h
      go_enter Tryd.func12, Tryd.ntmps12
      go_wp2_with fail
      go_ret
      exact ⟨by rw [HE.out]; rfl, Grew.refl _⟩
    · have h2 : a < 1 := by omega
      clear h h1
      go_enter Tryd.func12, Tryd.ntmps12
      go_wp2_with fail
      go_ret
      exact ⟨by rw [HE.out]; rfl, Grew.refl _⟩
theorem exp_c (a x : Int) (w : World) : Calls Tryd.prog 14 #[.int .i64 a, .int .i64 x] w fun e w' => e = .returned (.tuple #[.int .i64 (FX a x), .int .i64 (GX a x)]) ∧ Grew w w' := by
  have MC := Lib.hid (member_c a w)
  have EC := Lib.hid (fun W => exponent_c x W)
  have FC : Hid (isM a = true → isE x = true → ∀ W, Calls Tryd.prog 24 #[.int .i64 a, .int .i64 x, .int .i64 2147483579] W fun e w' => e = .returned (.int .i64 (FX a x)) ∧ Grew W w') := Lib.hid (fun h0 h1 W => by
    have k0 := isM_iff.1 h0
    have k1 := isE_iff.1 h1
    have c := rpower_c a.toNat x.toNat 2147483579 W (by omega) (by omega) (by omega) (by omega)
    rw [Int.toNat_of_nonneg (by omega), Int.toNat_of_nonneg (by omega)] at c
    unfold FX
    rw [h0, h1]
    exact c)
  have VG : Hid (GX a x = if (isM a && isE x) = true then 0 else 1) := Lib.hid rfl
  have VF : Hid ((isM a && isE x) = false → FX a x = 0) := Lib.hid (fun h => by unfold FX; rw [h]; rfl)
  generalize isM a = p at *
  generalize isE x = q at *
  generalize FX a x = f at *
  generalize GX a x = g at *
  cases p with
  | false =>
    obtain rfl : f = 0 := VF.out rfl
    obtain rfl : g = 1 := VG.out
    clear VF VG FC
    go_enter Tryd.func14, Tryd.ntmps14
    go_wp2_with fail
    refine (MC.out).mono ?_
    rintro e w1 ⟨rfl, g1⟩
    go_wp2_with fail
    refine (EC.out _).mono ?_
    rintro e w2 ⟨rfl, rfl⟩
    go_wp2_with fail
    go_ret2
    exact ⟨rfl, g1⟩
  | true =>
    cases q with
    | false =>
      obtain rfl : f = 0 := VF.out rfl
      obtain rfl : g = 1 := VG.out
      clear VF VG FC
      go_enter Tryd.func14, Tryd.ntmps14
      go_wp2_with fail
      refine (MC.out).mono ?_
      rintro e w1 ⟨rfl, g1⟩
      go_wp2_with fail
      refine (EC.out _).mono ?_
      rintro e w2 ⟨rfl, rfl⟩
      go_wp2_with fail
      go_ret2
      exact ⟨rfl, g1⟩
    | true =>
      obtain rfl : g = 0 := VG.out
      have PC := Lib.hid (FC.out rfl rfl)
      clear VF VG FC
      go_enter Tryd.func14, Tryd.ntmps14
      go_wp2_with fail
      refine (MC.out).mono ?_
      rintro e w1 ⟨rfl, g1⟩
      go_wp2_with fail
      refine (EC.out _).mono ?_
      rintro e w2 ⟨rfl, rfl⟩
      go_wp2_with fail
      refine (PC.out _).mono ?_
      rintro e w3 ⟨rfl, g3⟩
      go_wp2_with fail
      go_ret2
      exact ⟨rfl, Grew.trans g1 g3⟩
theorem public_c (x : Int) (w : World) : Calls Tryd.prog 16 #[.int .i64 x] w fun e w' => e = .returned (.tuple #[.int .i64 (FP x), .int .i64 (GP x)]) ∧ Grew w w' := by
  have EC := Lib.hid (secret_c x w)
  have FC : Hid (isS x = true → ∀ W, Calls Tryd.prog 24 #[.int .i64 4, .int .i64 x, .int .i64 2147483579] W fun e w' => e = .returned (.int .i64 (FP x)) ∧ Grew W w') := Lib.hid (fun h1 W => by
    have k1 := isS_iff.1 h1
    have c := rpower_c 4 x.toNat 2147483579 W (by omega) (by omega) (by omega) (by omega)
    rw [Int.toNat_of_nonneg (by omega)] at c
    unfold FP
    rw [h1]
    exact c)
  have VG : Hid (GP x = if isS x = true then 0 else 1) := Lib.hid rfl
  have VF : Hid (isS x = false → FP x = 0) := Lib.hid (fun h => by unfold FP; rw [h]; rfl)
  generalize isS x = q at *
  generalize FP x = f at *
  generalize GP x = g at *
  cases q with
  | false =>
    obtain rfl : f = 0 := VF.out rfl
    obtain rfl : g = 1 := VG.out
    clear VF VG FC
    go_enter Tryd.func16, Tryd.ntmps16
    go_wp2_with fail
    refine (EC.out).mono ?_
    rintro e w1 ⟨rfl, rfl⟩
    go_wp2_with fail
    go_ret2
    exact ⟨rfl, Grew.refl _⟩
  | true =>
    obtain rfl : g = 0 := VG.out
    have PC := Lib.hid (FC.out rfl)
    clear VF VG FC
    go_enter Tryd.func16, Tryd.ntmps16
    go_wp2_with fail
    refine (EC.out).mono ?_
    rintro e w1 ⟨rfl, rfl⟩
    go_wp2_with fail
    refine (PC.out _).mono ?_
    rintro e w2 ⟨rfl, g2⟩
    go_wp2_with fail
    go_ret2
    exact ⟨rfl, g2⟩
theorem challenge_c (l : List Int) (v : Value) (w : World) (hs : Is w v l) (hl : l.length ≤ 200000) :
    Calls Tryd.prog 22 #[v] w fun e w' => e = .returned (.int .i64 (hc l : Int)) ∧ Grew w w' := by
  have SC : Hid (Calls Tryd.prog 33 #[v] w fun e w' => e = .returned (.int .u64 (Dg.dv (Dg.nx Dg.f0 l))) ∧ Grew w w') := Lib.hid (Dg.rsum l v w hs.dg (by omega))
  have EV := hc_dv l
  have BV := Dg.dv_bd (Dg.nx Dg.f0 l)
  have LV := hc_lt l
  generalize Dg.dv (Dg.nx Dg.f0 l) = d at *
  generalize hc l = h at *
  have LV2 : (h : Int) < 1073741789 := by omega
  have LV3 : (0 : Int) ≤ h := by omega
  obtain ⟨sa, sc, rfl, _⟩ := hs.shape
  clear hs hl
  go_enter Tryd.func22, Tryd.ntmps22
  go_wp2_with fail
  refine (SC.out).mono ?_
  rintro e w2 ⟨rfl, g2⟩
  go_wp2_with fail
  go_ret
  exact ⟨rfl, g2⟩
set_option maxHeartbeats 1000000 in
theorem after_c (m n : Int) (l : List Int) (v : Value) (w : World) (hm : I64 m) (hn : I64 n) (hs : Is w v l) (hl : l.length ≤ 100000) :
    Calls Tryd.prog 32 #[.int .i64 m, .int .i64 n, v] w fun e w' => ∃ u, e = .returned u ∧ Is w' u (m :: n :: l) ∧ Grew w w' := by
  have OK : Hid (Oki (m :: n :: l)) := Lib.hid (Oki.cons hm (Oki.cons hn hs.2))
  have OW := Lib.hid (own_two (B := w.heap.size) w m n (Nat.le_refl _))
  have HS := Lib.hid hs
  have HL := Lib.hid hl
  obtain ⟨sa, sc, rfl, _⟩ := hs.shape
  clear hs hm hn hl
  go_enter Tryd.func32, Tryd.ntmps32
  go_wp2_with fail
  go_loopw [7, 8] (fun u i wr => ∃ k : Nat, k ≤ l.length ∧ i = .int .i64 k ∧ Grew w wr ∧ Hid (Iw w.heap.size wr u (m :: n :: l.take k))) (fun _ i _ => l.length - (intOf i).toNat)
  case atStart => exact ⟨0, Nat.zero_le _, rfl, (Grew.refl w).alloc _ _, OW⟩
  case round =>
    obtain ⟨k, hk, rfl, G, O⟩ := hrel
    by_cases hlt : k < l.length
    · obtain ⟨b, o, rfl, hb, hc⟩ := (HS.out.grew G).row (by omega)
      have q0 := hc k hlt
      have i0 : (0 : Int) ≤ (k : Int) := by omega
      have i1 : (k : Int) < (l.length : Int) := by omega
      have i2 : (l.length : Int) ≤ 100000 := by have := HL.out; omega
      have NX : Hid (m :: n :: l.take (k + 1) = (m :: n :: l.take k) ++ [l[k]]) := Lib.hid (by rw [List.take_succ_eq_append_getElem hlt]; rfl)
      have BL : Hid ((m :: n :: l.take k).length ≤ 100000000) := Lib.hid (by have := HL.out; simp; omega)
      clear hc
      go_wp2_with (at_builtin; go_must (refine wpl_int _ rfl _ _ rfl w.heap.size _ (m :: n :: l.take k) wr.heap.size 0 l[k] rfl (Iw.alloc O.out _) rfl (by simp) (by simp [go_sem]) BL.out (by have := G.size; simp; omega) ?_; intro v' w' own' gr'; have GG := Lib.hid (Grew.grown (G.alloc _ _) gr' (fun k hk => (Iw.lt O.out k hk).1)); have OW2 := Lib.hid own'; clear own' gr'))
      go_roundw
      case rel => exact ⟨k + 1, by omega, by go_num, GG.out, Lib.hid (by rw [NX.out]; exact OW2.out)⟩
      case measure => simp [intOf]; omega
    · obtain rfl : k = l.length := by omega
      go_wp2_with fail
      go_ret
      exact ⟨_, rfl, by have := O.out; rw [List.take_length] at this; exact this.is OK.out, G⟩
end R
end Sg
end Go.Proofs.YtfnnmkadmpflhaaDoor
