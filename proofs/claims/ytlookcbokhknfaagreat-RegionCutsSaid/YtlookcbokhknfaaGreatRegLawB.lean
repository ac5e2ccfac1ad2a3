/-
  The law RegionCuts, under what package region owes.
-/
import Derived.Test.YtlookcbokhknfaaGreatRegU
namespace Go.Proofs.YtlookcbokhknfaaGreat
open Go.RowKit Go.Shelf Hl
namespace Rg
open Ct (Hf WF ov)
set_option maxRecDepth 100000 in
set_option maxHeartbeats 4000000 in
theorem cuts_true (K : Code) (L M : Rgn) (h : Hf) (x : Pt) (v u : Value) (w : World) (hs : Rl w v L) (hu : Rl w u M) : Calls Tryz.prog 6 #[v, u, .agg #[.int .i64 h.1, .int .i64 h.2.1, .int .i64 h.2.2], .agg #[.int .i64 x.1, .int .i64 x.2]] w fun e w' => e = .returned (.bool true) ∧ Grew w w' := by
  obtain ⟨va, vc, rfl⟩ := hs.shape
  obtain ⟨ua, uc, rfl⟩ := hu.shape
  have R := Lib.hid hs
  have S := Lib.hid hu
  clear hs hu
  have BK00 := Lib.hid ((Blk.new (w) #[.int .i64 h.1, .int .i64 h.2.1, .int .i64 h.2.2] 25).grown ((Grew.refl _).alloc #[.int .i64 x.1, .int .i64 x.2] 27))
  have BK10 := Lib.hid ((Blk.new ((w.alloc (.cells #[.int .i64 h.1, .int .i64 h.2.1, .int .i64 h.2.2] 25))) #[.int .i64 x.1, .int .i64 x.2] 27))
  simp only [World.size_alloc] at BK10
  have GW0 : Grew w ((w.alloc (.cells #[.int .i64 h.1, .int .i64 h.2.1, .int .i64 h.2.2] 25)).alloc (.cells #[.int .i64 x.1, .int .i64 x.2] 27)) := (by (repeat' (first | (with_reducible exact Grew.refl _) | (with_reducible assumption) | (with_reducible refine Grew.alloc ?_ _ _) | (with_reducible refine Grew.drew ?_) | (with_reducible refine Grew.drewN ?_ _) | (with_reducible refine Grew.setCell ?_ ?_ _) | go_size)))
  have G0 : Grew ((w.alloc (.cells #[.int .i64 h.1, .int .i64 h.2.1, .int .i64 h.2.2] 25)).alloc (.cells #[.int .i64 x.1, .int .i64 x.2] 27)) ((w.alloc (.cells #[.int .i64 h.1, .int .i64 h.2.1, .int .i64 h.2.2] 25)).alloc (.cells #[.int .i64 x.1, .int .i64 x.2] 27)) := Grew.refl _
  have R0 := Lib.hid (R.out.grown (w' := ((w.alloc (.cells #[.int .i64 h.1, .int .i64 h.2.1, .int .i64 h.2.2] 25)).alloc (.cells #[.int .i64 x.1, .int .i64 x.2] 27))) (by (repeat' (first | (with_reducible exact Grew.refl _) | (with_reducible assumption) | (with_reducible refine Grew.alloc ?_ _ _) | (with_reducible refine Grew.drew ?_) | (with_reducible refine Grew.drewN ?_ _) | (with_reducible refine Grew.setCell ?_ ?_ _) | go_size))))
  have S0 := Lib.hid (S.out.grown (w' := ((w.alloc (.cells #[.int .i64 h.1, .int .i64 h.2.1, .int .i64 h.2.2] 25)).alloc (.cells #[.int .i64 x.1, .int .i64 x.2] 27))) (by (repeat' (first | (with_reducible exact Grew.refl _) | (with_reducible assumption) | (with_reducible refine Grew.alloc ?_ _ _) | (with_reducible refine Grew.drew ?_) | (with_reducible refine Grew.drewN ?_ _) | (with_reducible refine Grew.setCell ?_ ?_ _) | go_size))))
  go_enter Tryz.func6, Tryz.ntmps6
  go_wp2_with fail
  refine (head_true K _).mono ?_
  rintro e w1 ⟨rfl, g1⟩
  have D1 : Grew ((w.alloc (.cells #[.int .i64 h.1, .int .i64 h.2.1, .int .i64 h.2.2] 25)).alloc (.cells #[.int .i64 x.1, .int .i64 x.2] 27)) w1 := Grew.trans (by (repeat' (first | (with_reducible exact Grew.refl _) | (with_reducible assumption) | (with_reducible refine Grew.alloc ?_ _ _) | (with_reducible refine Grew.drew ?_) | (with_reducible refine Grew.drewN ?_ _) | (with_reducible refine Grew.setCell ?_ ?_ _) | go_size))) g1
  have G1 : Grew ((w.alloc (.cells #[.int .i64 h.1, .int .i64 h.2.1, .int .i64 h.2.2] 25)).alloc (.cells #[.int .i64 x.1, .int .i64 x.2] 27)) w1 := Grew.trans G0 D1
  have R1 := Lib.hid (R0.out.grown D1)
  have S1 := Lib.hid (S0.out.grown D1)
  have BK01 := Lib.hid (BK00.out.grown D1)
  have BK11 := Lib.hid (BK10.out.grown D1)
  clear R0 S0 BK00 BK10
  clear g1 D1 G0
  obtain ⟨x00, x01, x02⟩ := blk_three BK01.out
  obtain ⟨x10, x11⟩ := blk_two BK11.out
  go_wp2_with fail
  refine (usable_c L M _ _ _ R1.out S1.out).mono ?_
  rintro e w2 ⟨r2, rfl, h2, g2⟩
  have D2 : Grew w1 w2 := Grew.trans (by (repeat' (first | (with_reducible exact Grew.refl _) | (with_reducible assumption) | (with_reducible refine Grew.alloc ?_ _ _) | (with_reducible refine Grew.drew ?_) | (with_reducible refine Grew.drewN ?_ _) | (with_reducible refine Grew.setCell ?_ ?_ _) | go_size))) g2
  have G2 : Grew ((w.alloc (.cells #[.int .i64 h.1, .int .i64 h.2.1, .int .i64 h.2.2] 25)).alloc (.cells #[.int .i64 x.1, .int .i64 x.2] 27)) w2 := Grew.trans G1 D2
  have R2 := Lib.hid (R1.out.grown D2)
  have S2 := Lib.hid (S1.out.grown D2)
  have BK02 := Lib.hid (BK01.out.grown D2)
  have BK12 := Lib.hid (BK11.out.grown D2)
  clear R1 S1 BK01 BK11
  clear g2 D2 G1
  clear x00 x01 x02 x10 x11
  obtain ⟨x00, x01, x02⟩ := blk_three BK02.out
  obtain ⟨x10, x11⟩ := blk_two BK12.out
  cases r2
  · clear h2
    go_wp2_with fail
    go_ret
    exact ⟨rfl, GW0.trans G2⟩
  have VL := Lib.hid (h2 rfl).1
  have VM := Lib.hid (h2 rfl).2
  clear h2
  go_wp2_with fail
  refine (half_t h _).mono ?_
  rintro e w3 ⟨r3, rfl, h3, g3⟩
  have D3 : Grew w2 w3 := Grew.trans (by (repeat' (first | (with_reducible exact Grew.refl _) | (with_reducible assumption) | (with_reducible refine Grew.alloc ?_ _ _) | (with_reducible refine Grew.drew ?_) | (with_reducible refine Grew.drewN ?_ _) | (with_reducible refine Grew.setCell ?_ ?_ _) | go_size))) g3
  have G3 : Grew ((w.alloc (.cells #[.int .i64 h.1, .int .i64 h.2.1, .int .i64 h.2.2] 25)).alloc (.cells #[.int .i64 x.1, .int .i64 x.2] 27)) w3 := Grew.trans G2 D3
  have R3 := Lib.hid (R2.out.grown D3)
  have S3 := Lib.hid (S2.out.grown D3)
  have BK03 := Lib.hid (BK02.out.grown D3)
  have BK13 := Lib.hid (BK12.out.grown D3)
  clear R2 S2 BK02 BK12
  clear g3 D3 G2
  clear x00 x01 x02 x10 x11
  obtain ⟨x00, x01, x02⟩ := blk_three BK03.out
  obtain ⟨x10, x11⟩ := blk_two BK13.out
  cases r3
  · clear h3
    go_wp2_with fail
    go_ret
    exact ⟨rfl, GW0.trans G3⟩
  have WH := Lib.hid (h3.1 rfl)
  clear h3
  go_wp2_with fail
  refine (place_t x _).mono ?_
  rintro e w4 ⟨r4, rfl, h4, g4⟩
  have D4 : Grew w3 w4 := Grew.trans (by (repeat' (first | (with_reducible exact Grew.refl _) | (with_reducible assumption) | (with_reducible refine Grew.alloc ?_ _ _) | (with_reducible refine Grew.drew ?_) | (with_reducible refine Grew.drewN ?_ _) | (with_reducible refine Grew.setCell ?_ ?_ _) | go_size))) g4
  have G4 : Grew ((w.alloc (.cells #[.int .i64 h.1, .int .i64 h.2.1, .int .i64 h.2.2] 25)).alloc (.cells #[.int .i64 x.1, .int .i64 x.2] 27)) w4 := Grew.trans G3 D4
  have R4 := Lib.hid (R3.out.grown D4)
  have S4 := Lib.hid (S3.out.grown D4)
  have BK04 := Lib.hid (BK03.out.grown D4)
  have BK14 := Lib.hid (BK13.out.grown D4)
  clear R3 S3 BK03 BK13
  clear g4 D4 G3
  clear x00 x01 x02 x10 x11
  obtain ⟨x00, x01, x02⟩ := blk_three BK04.out
  obtain ⟨x10, x11⟩ := blk_two BK14.out
  cases r4
  · clear h4
    go_wp2_with fail
    go_ret
    exact ⟨rfl, GW0.trans G4⟩
  have X := Lib.hid (h4.1 rfl)
  clear h4
  go_wp2_with fail
  refine ((K.cut L h _ _ R4.out).mono fun _ _ h => made_ok ⟨VL.out, WH.out⟩ h).mono ?_
  rintro e w5 ⟨v5, r5, i5, rfl, s5, g5⟩
  have D5 : Grew w4 w5 := Grew.trans (by (repeat' (first | (with_reducible exact Grew.refl _) | (with_reducible assumption) | (with_reducible refine Grew.alloc ?_ _ _) | (with_reducible refine Grew.drew ?_) | (with_reducible refine Grew.drewN ?_ _) | (with_reducible refine Grew.setCell ?_ ?_ _) | go_size))) g5
  have G5 : Grew ((w.alloc (.cells #[.int .i64 h.1, .int .i64 h.2.1, .int .i64 h.2.2] 25)).alloc (.cells #[.int .i64 x.1, .int .i64 x.2] 27)) w5 := Grew.trans G4 D5
  have R5 := Lib.hid (R4.out.grown D5)
  have S5 := Lib.hid (S4.out.grown D5)
  have BK05 := Lib.hid (BK04.out.grown D5)
  have BK15 := Lib.hid (BK14.out.grown D5)
  clear R4 S4 BK04 BK14
  clear g5 D5 G4
  clear x00 x01 x02 x10 x11
  obtain ⟨x00, x01, x02⟩ := blk_three BK05.out
  obtain ⟨x10, x11⟩ := blk_two BK15.out
  have A5 := Lib.hid s5
  clear s5
  obtain ⟨c5, d5, t5⟩ := i5
  have W5 : Hid (VlR r5) := Lib.hid (tidy_vl (cut_vl VL.out.2 d5) t5)
  have Y5 : Hid (InR L x → ov h x ≤ 0 → InR r5 x) := Lib.hid (fun i o => tidy_has (cut_vl VL.out.2 d5) t5 (cut_has VL.out.2 d5 i o))
  clear d5 t5
  go_wp2_with fail
  refine ((K.meet L M _ _ _ R5.out S5.out).mono fun _ _ h => made_ok ⟨VL.out, VM.out⟩ h).mono ?_
  rintro e w6 ⟨v6, r6, i6, rfl, s6, g6⟩
  have D6 : Grew w5 w6 := Grew.trans (by (repeat' (first | (with_reducible exact Grew.refl _) | (with_reducible assumption) | (with_reducible refine Grew.alloc ?_ _ _) | (with_reducible refine Grew.drew ?_) | (with_reducible refine Grew.drewN ?_ _) | (with_reducible refine Grew.setCell ?_ ?_ _) | go_size))) g6
  have G6 : Grew ((w.alloc (.cells #[.int .i64 h.1, .int .i64 h.2.1, .int .i64 h.2.2] 25)).alloc (.cells #[.int .i64 x.1, .int .i64 x.2] 27)) w6 := Grew.trans G5 D6
  have R6 := Lib.hid (R5.out.grown D6)
  have S6 := Lib.hid (S5.out.grown D6)
  have BK06 := Lib.hid (BK05.out.grown D6)
  have BK16 := Lib.hid (BK15.out.grown D6)
  have A6 := Lib.hid (A5.out.grown D6)
  clear R5 S5 BK05 BK15 A5
  clear g6 D6 G5
  clear x00 x01 x02 x10 x11
  obtain ⟨x00, x01, x02⟩ := blk_three BK06.out
  obtain ⟨x10, x11⟩ := blk_two BK16.out
  have B6 := Lib.hid s6
  clear s6
  obtain ⟨c6, d6, t6⟩ := i6
  have W6 : Hid (VlR r6) := Lib.hid (tidy_vl (met_vl VL.out.2 VM.out.2 d6) t6)
  have Y6 : Hid (InR L x → InR M x → InR r6 x) := Lib.hid (fun i o => tidy_has (met_vl VL.out.2 VM.out.2 d6) t6 (met_has VL.out.2 VM.out.2 d6 i o))
  have Z6 := Lib.hid d6
  have T6 := Lib.hid (tidy_nil (met_vl VL.out.2 VM.out.2 d6) t6)
  clear d6 t6
  go_wp2_with fail
  refine ((K.meet M L _ _ _ S6.out R6.out).mono fun _ _ h => made_ok ⟨VM.out, VL.out⟩ h).mono ?_
  rintro e w7 ⟨v7, r7, i7, rfl, s7, g7⟩
  have D7 : Grew w6 w7 := Grew.trans (by (repeat' (first | (with_reducible exact Grew.refl _) | (with_reducible assumption) | (with_reducible refine Grew.alloc ?_ _ _) | (with_reducible refine Grew.drew ?_) | (with_reducible refine Grew.drewN ?_ _) | (with_reducible refine Grew.setCell ?_ ?_ _) | go_size))) g7
  have G7 : Grew ((w.alloc (.cells #[.int .i64 h.1, .int .i64 h.2.1, .int .i64 h.2.2] 25)).alloc (.cells #[.int .i64 x.1, .int .i64 x.2] 27)) w7 := Grew.trans G6 D7
  have R7 := Lib.hid (R6.out.grown D7)
  have S7 := Lib.hid (S6.out.grown D7)
  have BK07 := Lib.hid (BK06.out.grown D7)
  have BK17 := Lib.hid (BK16.out.grown D7)
  have A7 := Lib.hid (A6.out.grown D7)
  have B7 := Lib.hid (B6.out.grown D7)
  clear R6 S6 BK06 BK16 A6 B6
  clear g7 D7 G6
  clear x00 x01 x02 x10 x11
  obtain ⟨x00, x01, x02⟩ := blk_three BK07.out
  obtain ⟨x10, x11⟩ := blk_two BK17.out
  have C7 := Lib.hid s7
  clear s7
  obtain ⟨c7, d7, t7⟩ := i7
  have W7 : Hid (VlR r7) := Lib.hid (tidy_vl (met_vl VM.out.2 VL.out.2 d7) t7)
  have Y7 : Hid (InR L x → InR M x → InR r7 x) := Lib.hid (fun i o => tidy_has (met_vl VM.out.2 VL.out.2 d7) t7 (met_has VM.out.2 VL.out.2 d7 o i))
  have EN : Hid (r6 = [] ↔ r7 = []) := Lib.hid ((T6.out.trans (met_nil Z6.out d7)).trans (tidy_nil (met_vl VM.out.2 VL.out.2 d7) t7).symm)
  clear d7 t7 Z6 T6
  obtain ⟨ba, bn, bc, rfl, eb⟩ := rl_nat B7.out
  obtain ⟨ca, cn, cc, rfl, ec⟩ := rl_nat C7.out
  have EZ : Hid (bn = 0 ↔ cn = 0) := Lib.hid (by rw [eb, ec, List.length_eq_zero_iff, List.length_eq_zero_iff]; exact EN.out)
  clear eb ec EN
  go_wp2_with fail
  refine (has_ok K r5 x _ _ A7.out W5.out X.out).mono ?_
  rintro e w8 ⟨i8, rfl, h8, g8⟩
  have D8 : Grew w7 w8 := Grew.trans (by (repeat' (first | (with_reducible exact Grew.refl _) | (with_reducible assumption) | (with_reducible refine Grew.alloc ?_ _ _) | (with_reducible refine Grew.drew ?_) | (with_reducible refine Grew.drewN ?_ _) | (with_reducible refine Grew.setCell ?_ ?_ _) | go_size))) g8
  have G8 : Grew ((w.alloc (.cells #[.int .i64 h.1, .int .i64 h.2.1, .int .i64 h.2.2] 25)).alloc (.cells #[.int .i64 x.1, .int .i64 x.2] 27)) w8 := Grew.trans G7 D8
  have R8 := Lib.hid (R7.out.grown D8)
  have S8 := Lib.hid (S7.out.grown D8)
  have BK08 := Lib.hid (BK07.out.grown D8)
  have BK18 := Lib.hid (BK17.out.grown D8)
  have A8 := Lib.hid (A7.out.grown D8)
  have B8 := Lib.hid (B7.out.grown D8)
  have C8 := Lib.hid (C7.out.grown D8)
  clear R7 S7 BK07 BK17 A7 B7 C7
  clear g8 D8 G7
  clear x00 x01 x02 x10 x11
  obtain ⟨x00, x01, x02⟩ := blk_three BK08.out
  obtain ⟨x10, x11⟩ := blk_two BK18.out
  have H8 := Lib.hid h8
  clear h8
  clear A8
  go_wp2_with fail
  refine (has_ok K r6 x _ _ B8.out W6.out X.out).mono ?_
  rintro e w9 ⟨i9, rfl, h9, g9⟩
  have D9 : Grew w8 w9 := Grew.trans (by (repeat' (first | (with_reducible exact Grew.refl _) | (with_reducible assumption) | (with_reducible refine Grew.alloc ?_ _ _) | (with_reducible refine Grew.drew ?_) | (with_reducible refine Grew.drewN ?_ _) | (with_reducible refine Grew.setCell ?_ ?_ _) | go_size))) g9
  have G9 : Grew ((w.alloc (.cells #[.int .i64 h.1, .int .i64 h.2.1, .int .i64 h.2.2] 25)).alloc (.cells #[.int .i64 x.1, .int .i64 x.2] 27)) w9 := Grew.trans G8 D9
  have R9 := Lib.hid (R8.out.grown D9)
  have S9 := Lib.hid (S8.out.grown D9)
  have BK09 := Lib.hid (BK08.out.grown D9)
  have BK19 := Lib.hid (BK18.out.grown D9)
  have B9 := Lib.hid (B8.out.grown D9)
  have C9 := Lib.hid (C8.out.grown D9)
  clear R8 S8 BK08 BK18 B8 C8
  clear g9 D9 G8
  clear x00 x01 x02 x10 x11
  obtain ⟨x00, x01, x02⟩ := blk_three BK09.out
  obtain ⟨x10, x11⟩ := blk_two BK19.out
  have H9 := Lib.hid h9
  clear h9
  clear B9
  go_wp2_with fail
  refine (has_ok K r7 x _ _ C9.out W7.out X.out).mono ?_
  rintro e w10 ⟨i10, rfl, h10, g10⟩
  have D10 : Grew w9 w10 := Grew.trans (by (repeat' (first | (with_reducible exact Grew.refl _) | (with_reducible assumption) | (with_reducible refine Grew.alloc ?_ _ _) | (with_reducible refine Grew.drew ?_) | (with_reducible refine Grew.drewN ?_ _) | (with_reducible refine Grew.setCell ?_ ?_ _) | go_size))) g10
  have G10 : Grew ((w.alloc (.cells #[.int .i64 h.1, .int .i64 h.2.1, .int .i64 h.2.2] 25)).alloc (.cells #[.int .i64 x.1, .int .i64 x.2] 27)) w10 := Grew.trans G9 D10
  have R10 := Lib.hid (R9.out.grown D10)
  have S10 := Lib.hid (S9.out.grown D10)
  have BK010 := Lib.hid (BK09.out.grown D10)
  have BK110 := Lib.hid (BK19.out.grown D10)
  have C10 := Lib.hid (C9.out.grown D10)
  clear R9 S9 BK09 BK19 C9
  clear g10 D10 G9
  clear x00 x01 x02 x10 x11
  obtain ⟨x00, x01, x02⟩ := blk_three BK010.out
  obtain ⟨x10, x11⟩ := blk_two BK110.out
  have H10 := Lib.hid h10
  clear h10
  clear C10
  go_wp2_with fail
  refine (in_c L x _ _ R10.out VL.out.2 X.out).mono ?_
  rintro e w11 ⟨i11, rfl, h11, g11⟩
  have D11 : Grew w10 w11 := Grew.trans (by (repeat' (first | (with_reducible exact Grew.refl _) | (with_reducible assumption) | (with_reducible refine Grew.alloc ?_ _ _) | (with_reducible refine Grew.drew ?_) | (with_reducible refine Grew.drewN ?_ _) | (with_reducible refine Grew.setCell ?_ ?_ _) | go_size))) g11
  have G11 : Grew ((w.alloc (.cells #[.int .i64 h.1, .int .i64 h.2.1, .int .i64 h.2.2] 25)).alloc (.cells #[.int .i64 x.1, .int .i64 x.2] 27)) w11 := Grew.trans G10 D11
  have R11 := Lib.hid (R10.out.grown D11)
  have S11 := Lib.hid (S10.out.grown D11)
  have BK011 := Lib.hid (BK010.out.grown D11)
  have BK111 := Lib.hid (BK110.out.grown D11)
  clear R10 S10 BK010 BK110
  clear g11 D11 G10
  clear x00 x01 x02 x10 x11
  obtain ⟨x00, x01, x02⟩ := blk_three BK011.out
  obtain ⟨x10, x11⟩ := blk_two BK111.out
  have H11 := Lib.hid h11
  clear h11
  by_cases hz : bn = 0
  · obtain rfl : cn = 0 := EZ.out.1 hz
    subst hz
    clear EZ
    cases i11
    · clear H11
      go_wp2_with fail
      go_ret
      exact ⟨rfl, GW0.trans G11⟩
    have I11 : Hid (InR L x) := Lib.hid (H11.out.1 rfl)
    clear H11
    go_wp2_with fail
    refine (over_t h x _ WH.out X.out).mono ?_
    rintro e w12 ⟨rfl, g12⟩
    have D12 : Grew w11 w12 := Grew.trans (by (repeat' (first | (with_reducible exact Grew.refl _) | (with_reducible assumption) | (with_reducible refine Grew.alloc ?_ _ _) | (with_reducible refine Grew.drew ?_) | (with_reducible refine Grew.drewN ?_ _) | (with_reducible refine Grew.setCell ?_ ?_ _) | go_size))) g12
    have G12 : Grew ((w.alloc (.cells #[.int .i64 h.1, .int .i64 h.2.1, .int .i64 h.2.2] 25)).alloc (.cells #[.int .i64 x.1, .int .i64 x.2] 27)) w12 := Grew.trans G11 D12
    have R12 := Lib.hid (R11.out.grown D12)
    have S12 := Lib.hid (S11.out.grown D12)
    have BK012 := Lib.hid (BK011.out.grown D12)
    have BK112 := Lib.hid (BK111.out.grown D12)
    clear R11 S11 BK011 BK111
    clear g12 D12 G11
    clear x00 x01 x02 x10 x11
    obtain ⟨x00, x01, x02⟩ := blk_three BK012.out
    obtain ⟨x10, x11⟩ := blk_two BK112.out
    by_cases ho : 0 < ov h x
    · go_wp2_with fail
      refine (in_c M x _ _ S12.out VM.out.2 X.out).mono ?_
      rintro e w13 ⟨i13, rfl, h13, g13⟩
      have D13 : Grew w12 w13 := Grew.trans (by (repeat' (first | (with_reducible exact Grew.refl _) | (with_reducible assumption) | (with_reducible refine Grew.alloc ?_ _ _) | (with_reducible refine Grew.drew ?_) | (with_reducible refine Grew.drewN ?_ _) | (with_reducible refine Grew.setCell ?_ ?_ _) | go_size))) g13
      have G13 : Grew ((w.alloc (.cells #[.int .i64 h.1, .int .i64 h.2.1, .int .i64 h.2.2] 25)).alloc (.cells #[.int .i64 x.1, .int .i64 x.2] 27)) w13 := Grew.trans G12 D13
      have R13 := Lib.hid (R12.out.grown D13)
      have S13 := Lib.hid (S12.out.grown D13)
      have BK013 := Lib.hid (BK012.out.grown D13)
      have BK113 := Lib.hid (BK112.out.grown D13)
      clear R12 S12 BK012 BK112
      clear g13 D13 G12
      clear x00 x01 x02 x10 x11
      obtain ⟨x00, x01, x02⟩ := blk_three BK013.out
      obtain ⟨x10, x11⟩ := blk_two BK113.out
      have H13 := Lib.hid h13
      clear h13
      cases i13
      · clear H13
        go_wp2_with fail
        go_ret
        exact ⟨rfl, GW0.trans G13⟩
      obtain rfl : i9 = true := H9.out.2 (Y6.out I11.out (H13.out.1 rfl))
      obtain rfl : i10 = true := H10.out.2 (Y7.out I11.out (H13.out.1 rfl))
      clear H13
      go_wp2_with fail
      go_ret
      exact ⟨rfl, GW0.trans G13⟩
    obtain rfl : i8 = true := H8.out.2 (Y5.out I11.out (Int.not_lt.1 ho))
    go_wp2_with fail
    refine (in_c M x _ _ S12.out VM.out.2 X.out).mono ?_
    rintro e w13 ⟨i13, rfl, h13, g13⟩
    have D13 : Grew w12 w13 := Grew.trans (by (repeat' (first | (with_reducible exact Grew.refl _) | (with_reducible assumption) | (with_reducible refine Grew.alloc ?_ _ _) | (with_reducible refine Grew.drew ?_) | (with_reducible refine Grew.drewN ?_ _) | (with_reducible refine Grew.setCell ?_ ?_ _) | go_size))) g13
    have G13 : Grew ((w.alloc (.cells #[.int .i64 h.1, .int .i64 h.2.1, .int .i64 h.2.2] 25)).alloc (.cells #[.int .i64 x.1, .int .i64 x.2] 27)) w13 := Grew.trans G12 D13
    have R13 := Lib.hid (R12.out.grown D13)
    have S13 := Lib.hid (S12.out.grown D13)
    have BK013 := Lib.hid (BK012.out.grown D13)
    have BK113 := Lib.hid (BK112.out.grown D13)
    clear R12 S12 BK012 BK112
    clear g13 D13 G12
    clear x00 x01 x02 x10 x11
    obtain ⟨x00, x01, x02⟩ := blk_three BK013.out
    obtain ⟨x10, x11⟩ := blk_two BK113.out
    have H13 := Lib.hid h13
    clear h13
    cases i13
    · clear H13
      go_wp2_with fail
      go_ret
      exact ⟨rfl, GW0.trans G13⟩
    obtain rfl : i9 = true := H9.out.2 (Y6.out I11.out (H13.out.1 rfl))
    obtain rfl : i10 = true := H10.out.2 (Y7.out I11.out (H13.out.1 rfl))
    clear H13
    go_wp2_with fail
    go_ret
    exact ⟨rfl, GW0.trans G13⟩
  have hz1 : ¬ (bn : Int) = 0 := by omega
  have hz2 : ¬ (cn : Int) = 0 := fun e => hz (EZ.out.2 (by omega))
  have hz3 : ((bn : Int) == 0) = false := by simpa using hz1
  have hz4 : ((cn : Int) == 0) = false := by simpa using hz2
  have hz5 : (((bn : Int) == 0) == ((cn : Int) == 0)) = true := by rw [hz3, hz4]; rfl
  clear hz EZ
  cases i11
  · clear H11
    go_wp2_with fail
    go_ret
    exact ⟨rfl, GW0.trans G11⟩
  have I11 : Hid (InR L x) := Lib.hid (H11.out.1 rfl)
  clear H11
  go_wp2_with fail
  refine (over_t h x _ WH.out X.out).mono ?_
  rintro e w12 ⟨rfl, g12⟩
  have D12 : Grew w11 w12 := Grew.trans (by (repeat' (first | (with_reducible exact Grew.refl _) | (with_reducible assumption) | (with_reducible refine Grew.alloc ?_ _ _) | (with_reducible refine Grew.drew ?_) | (with_reducible refine Grew.drewN ?_ _) | (with_reducible refine Grew.setCell ?_ ?_ _) | go_size))) g12
  have G12 : Grew ((w.alloc (.cells #[.int .i64 h.1, .int .i64 h.2.1, .int .i64 h.2.2] 25)).alloc (.cells #[.int .i64 x.1, .int .i64 x.2] 27)) w12 := Grew.trans G11 D12
  have R12 := Lib.hid (R11.out.grown D12)
  have S12 := Lib.hid (S11.out.grown D12)
  have BK012 := Lib.hid (BK011.out.grown D12)
  have BK112 := Lib.hid (BK111.out.grown D12)
  clear R11 S11 BK011 BK111
  clear g12 D12 G11
  clear x00 x01 x02 x10 x11
  obtain ⟨x00, x01, x02⟩ := blk_three BK012.out
  obtain ⟨x10, x11⟩ := blk_two BK112.out
  by_cases ho : 0 < ov h x
  · go_wp2_with fail
    refine (in_c M x _ _ S12.out VM.out.2 X.out).mono ?_
    rintro e w13 ⟨i13, rfl, h13, g13⟩
    have D13 : Grew w12 w13 := Grew.trans (by (repeat' (first | (with_reducible exact Grew.refl _) | (with_reducible assumption) | (with_reducible refine Grew.alloc ?_ _ _) | (with_reducible refine Grew.drew ?_) | (with_reducible refine Grew.drewN ?_ _) | (with_reducible refine Grew.setCell ?_ ?_ _) | go_size))) g13
    have G13 : Grew ((w.alloc (.cells #[.int .i64 h.1, .int .i64 h.2.1, .int .i64 h.2.2] 25)).alloc (.cells #[.int .i64 x.1, .int .i64 x.2] 27)) w13 := Grew.trans G12 D13
    have R13 := Lib.hid (R12.out.grown D13)
    have S13 := Lib.hid (S12.out.grown D13)
    have BK013 := Lib.hid (BK012.out.grown D13)
    have BK113 := Lib.hid (BK112.out.grown D13)
    clear R12 S12 BK012 BK112
    clear g13 D13 G12
    clear x00 x01 x02 x10 x11
    obtain ⟨x00, x01, x02⟩ := blk_three BK013.out
    obtain ⟨x10, x11⟩ := blk_two BK113.out
    have H13 := Lib.hid h13
    clear h13
    cases i13
    · clear H13
      go_wp2_with fail
      go_ret
      exact ⟨rfl, GW0.trans G13⟩
    obtain rfl : i9 = true := H9.out.2 (Y6.out I11.out (H13.out.1 rfl))
    obtain rfl : i10 = true := H10.out.2 (Y7.out I11.out (H13.out.1 rfl))
    clear H13
    go_wp2_with fail
    go_ret
    exact ⟨rfl, GW0.trans G13⟩
  obtain rfl : i8 = true := H8.out.2 (Y5.out I11.out (Int.not_lt.1 ho))
  go_wp2_with fail
  refine (in_c M x _ _ S12.out VM.out.2 X.out).mono ?_
  rintro e w13 ⟨i13, rfl, h13, g13⟩
  have D13 : Grew w12 w13 := Grew.trans (by (repeat' (first | (with_reducible exact Grew.refl _) | (with_reducible assumption) | (with_reducible refine Grew.alloc ?_ _ _) | (with_reducible refine Grew.drew ?_) | (with_reducible refine Grew.drewN ?_ _) | (with_reducible refine Grew.setCell ?_ ?_ _) | go_size))) g13
  have G13 : Grew ((w.alloc (.cells #[.int .i64 h.1, .int .i64 h.2.1, .int .i64 h.2.2] 25)).alloc (.cells #[.int .i64 x.1, .int .i64 x.2] 27)) w13 := Grew.trans G12 D13
  have R13 := Lib.hid (R12.out.grown D13)
  have S13 := Lib.hid (S12.out.grown D13)
  have BK013 := Lib.hid (BK012.out.grown D13)
  have BK113 := Lib.hid (BK112.out.grown D13)
  clear R12 S12 BK012 BK112
  clear g13 D13 G12
  clear x00 x01 x02 x10 x11
  obtain ⟨x00, x01, x02⟩ := blk_three BK013.out
  obtain ⟨x10, x11⟩ := blk_two BK113.out
  have H13 := Lib.hid h13
  clear h13
  cases i13
  · clear H13
    go_wp2_with fail
    go_ret
    exact ⟨rfl, GW0.trans G13⟩
  obtain rfl : i9 = true := H9.out.2 (Y6.out I11.out (H13.out.1 rfl))
  obtain rfl : i10 = true := H10.out.2 (Y7.out I11.out (H13.out.1 rfl))
  clear H13
  go_wp2_with fail
  go_ret
  exact ⟨rfl, GW0.trans G13⟩
end Rg
end Go.Proofs.YtlookcbokhknfaaGreat
